/- Joined: RInt REnc Qv Uq Us Ka. -/
import Derived.Test.YtieipbobijnmlaaG7

namespace Go.Proofs.Ytieipbobijnmlaa.wi

open Go.ChangeShapes Go.WideShapes Go.ChangeAt Go.RowKit

set_option linter.unusedVariables false

set_option maxRecDepth 100000 in
set_option maxHeartbeats 2000000 in
theorem refInt_out (n : Int) (w : World) (h0 : -9223372036854775808 ≤ n) (h1 : n ≤ 9223372036854775807) :
    Calls Try.prog 73 #[.int .i64 n] w (OutB (wp.encI n) w) := by
  obtain ⟨i0, hi, hz0, hz1, hz2⟩ := info_parts info5
  have hlen := wp.encI_length h0 h1
  have hz : Lib.zigzag n < 18446744073709551616 := Lib.zigzag_lt h0 h1
  have HE : Hid (wp.encI n = Lib.uvarint (Lib.zigzag n)) := rfl
  rw [HE.out] at hlen
  have hzz : (n < 0 ∧ Hid (((-1 - n) * 2 + 1 : Int) = (Lib.zigzag n : Nat))) ∨ (0 ≤ n ∧ Hid ((n * 2 : Int) = (Lib.zigzag n : Nat))) := by
    rcases Int.lt_or_le n 0 with h | h
    · refine .inl ⟨h, ?_⟩; show _ = _; unfold Lib.zigzag; rw [if_neg (by omega)]; omega
    · refine .inr ⟨h, ?_⟩; show _ = _; unfold Lib.zigzag; rw [if_pos h]; omega
  generalize hgq : Lib.zigzag n = q0 at *
  have HQ := Lib.hid hgq
  clear hgq
  rcases hzz with ⟨hn, HZ⟩ | ⟨hn, HZ⟩
  all_goals
    go_enter Try.func73, Try.ntmps73
    go_wp2_with fail
    go_loopw [3, 4] (fun z v wr => ∃ (q m : Nat) (ys : List Value), z = .int .u64 (q : Int) ∧ q ≤ q0 ∧ ys ++ wp.bc (Lib.uvarint q) = wp.bc (Lib.uvarint q0) ∧ m + (Lib.uvarint q).length = (Lib.uvarint q0).length ∧ wr.ownsRow w.heap.size 5 1 v m ys ∧ Below w.heap.size w wr) (fun z _ _ => (intOf z).toNat)
    case atStart => exact ⟨q0, 0, [], by rw [← HZ.out], Nat.le_refl _, rfl, by omega, World.ownsRow_nil _ _ _ _, Below.refl _ _⟩
    case round =>
      obtain ⟨q, m, ys, rfl, hq, hys, hm, hown1, hbel⟩ := hrel
      have HYS := Lib.hid hys
      have HM := Lib.hid hm
      clear hm hys
      by_cases hlt : q < 128
      · have hU : (Lib.uvarint q).length = 1 := by rw [Lib.uvarint_small hlt]; rfl
        have HU := Lib.hid (wp.uv_small hlt)
        have hkm : m + 1 = (Lib.uvarint q0).length := by have := HM.out; omega
        have hkm' : m + 1 ≤ 140737488355328 := by omega
        clear hz h0 h1 hU hlen hn
        have HKM := Lib.hid hkm
        clear hkm
        go_wp2_with (at_builtin; refine wpList_append_own _ rfl _ _ 42 rfl w.heap.size 5 i0 (.int .u8 0) 1 1 Try.underlying42 hi hz0 hz1 hz2 rfl (by decide) _ _ _ rfl (hown1.alloc _) ⟨wr.heap.size, 0, none⟩ 1 1 [.int .u8 (q : Int)] rfl rfl ?c1 ?c2 ?c3 ?c4 ?c5 ?_)
        case c1 => exact cell_one_new _ _ _
        case c2 => simp [Value.oneCell']
        case c3 => unfold maxLen; omega
        case c4 => omega
        case c5 => have := hbel.size; simp; omega
        intro v' w1 hown' hgrow _
        go_wp2
        go_ret
        refine ⟨v', rfl, ?_, ?_⟩
        · rw [HE.out, ← HKM.out, ← HYS.out, HU.out]; exact hown'
        · exact (hbel.alloc (by have := hbel.size; omega) _).grown hgrow (by have := hbel.size; simp; omega) (fun g hg => (hown1.lt g hg).1)
      · have hU : (Lib.uvarint q).length = (Lib.uvarint (q / 128)).length + 1 := by rw [Lib.uvarint_big (by omega)]; rfl
        have HU := Lib.hid (wp.uv_big (q := q) (by omega))
        have hu1 : 1 ≤ (Lib.uvarint (q / 128)).length := Lib.uvarint_pos _
        have hkm' : m + 2 ≤ 140737488355328 := by have := HM.out; omega
        have HM' : Hid (m + 1 + (Lib.uvarint (q / 128)).length = (Lib.uvarint q0).length) := by have := HM.out; show _ = _; omega
        have hq64 : (q : Int) ≤ 18446744073709551615 := by omega
        clear hz h0 h1 hlen hu1 HM hU hn
        go_wp2_with (at_builtin; refine wpList_append_own _ rfl _ _ 42 rfl w.heap.size 5 i0 (.int .u8 0) 1 1 Try.underlying42 hi hz0 hz1 hz2 rfl (by decide) _ _ _ rfl (hown1.alloc _) ⟨wr.heap.size, 0, none⟩ 1 1 [.int .u8 ((q : Int) % 128 + 128)] rfl rfl ?c1 ?c2 ?c3 ?c4 ?c5 ?_)
        case c1 => exact cell_one_new _ _ _
        case c2 => simp [Value.oneCell']
        case c3 => unfold maxLen; omega
        case c4 => omega
        case c5 => have := hbel.size; simp; omega
        intro v' w1 hown' hgrow _
        go_wp2
        go_roundw
        case rel =>
          refine ⟨q / 128, m + 1, ys ++ [.int .u8 ((q : Int) % 128 + 128)], by simp, by omega, ?_, HM'.out, ?_, ?_⟩
          · rw [← HYS.out, HU.out, List.append_assoc]; rfl
          · exact hown'
          · exact (hbel.alloc (by have := hbel.size; omega) _).grown hgrow (by have := hbel.size; simp; omega) (fun g hg => (hown1.lt g hg).1)
        case measure => simp [intOf]; omega
end Go.Proofs.Ytieipbobijnmlaa.wi

namespace Go.Proofs.Ytieipbobijnmlaa.wi

open Go.ChangeShapes Go.WideShapes Go.ChangeAt Go.RowKit

set_option linter.unusedVariables false
set_option maxRecDepth 100000 in
set_option maxHeartbeats 1000000 in
theorem refInts_out (A : Option Addr) (n c : Nat) (l : List Int) (w : World) (hn : l.length = n) (hnc : n ≤ c) (hc : c ≤ 9223372036854775807)
    (hl : wp.RC w A (l.map (Value.int .i64))) (hwf : ∀ x ∈ l, -9223372036854775808 ≤ x ∧ x ≤ 9223372036854775807) (htot : (wp.encIs l).length + 10 ≤ 140737488355328) :
    Calls Try.prog 59 #[.slice A n c] w (OutB (wp.encIs l) w) := by
  obtain ⟨i0, hi, hz0, hz1, hz2⟩ := info_parts info5
  have HL := Lib.hid hl
  have HN := Lib.hid hn
  have HT := Lib.hid htot
  have HW := Lib.hid hwf
  clear hwf
  clear hl hn htot
  have hint : ∀ (n : Nat) (w : World), n ≤ 9223372036854775807 → Calls Try.prog 73 #[.int .i64 (n : Int)] w (OutB (wp.encI (n : Int)) w) := fun n w h => refInt_out (n : Int) w (by omega) (by omega)
  have HI := Lib.hid hint
  clear hint
  go_enter Try.func59, Try.ntmps59
  go_wp2_with fail
  refine (HI.out n w (by omega)).mono ?_
  rintro e w1 ⟨v1, rfl, hown1, hbel1⟩
  go_wp2_with fail
  generalize hB : w.heap.size = B at *
  have HB := Lib.hid hB
  clear hB
  go_loopg [3, 4] n (fun g v x wr => ∃ k : Nat, k + g = n ∧ x = .int .i64 (k : Int) ∧ wr.ownsRow B 5 1 v ((wp.encI (n : Int)).length + ((l.take k).flatMap wp.encI).length) (wp.bc (wp.encI (n : Int)) ++ wp.bc ((l.take k).flatMap wp.encI)) ∧ Below B w wr)
  case atStart => exact ⟨0, by omega, rfl, by simpa [wp.bc] using hown1, hbel1⟩
  case round =>
    obtain ⟨k, hk, rfl, hown, hbel⟩ := hrel
    have HK := Lib.hid hk
    have hkn : k ≤ n := by omega
    have HBW : Hid (B ≤ wr.heap.size) := by have := hbel.size; have := HB.out; show _ ≤ _; omega
    clear hk hown1 hbel1
    by_cases hlt : k < n
    · have hkl : k < l.length := by have := HN.out; omega
      have hlk : l[k]? = some l[k] := List.getElem?_eq_getElem hkl
      obtain ⟨b, o, rfl, hbw, hcell⟩ := HL.out (by simp; omega)
      have hck : wr.cell? ⟨b, o + k, none⟩ = some (.int .i64 l[k]) := by
        rw [hbel.cell (p := ⟨b, o + k, none⟩) (by rw [← HB.out]; exact hbw)]
        exact hcell k _ (by simp [hlk])
      have HX := Lib.hid (HW.out l[k] (List.getElem_mem hkl))
      have HS := Lib.hid (wp.flat_snoc wp.encI hlk)
      have hfl := wp.flat_le wp.encI l (k + 1)
      rw [HS.out, List.length_append] at hfl
      have htt := HT.out
      unfold wp.encIs at htt
      rw [List.length_append, HN.out] at htt
      have HFL : Hid ((wp.encI (n : Int)).length + ((l.take k).flatMap wp.encI).length + (wp.encI l[k]).length ≤ 140737488355318) := by show _ ≤ _; omega
      clear hcell hlk hfl htt
      generalize l[k] = x at *
      generalize (l.take k).flatMap wp.encI = Pk at *
      go_wp2_with fail
      refine (refInt_out x wr HX.out.1 HX.out.2).mono ?_
      rintro e w2 ⟨v2, rfl, hown2, hbel2⟩
      obtain ⟨A2, c2, rfl, hc21, _, hR2⟩ := wp.RC.of_own hown2
      have hpos : 1 ≤ (wp.encI x).length := wp.encI_pos x
      obtain ⟨b2, o2, rfl, _, _⟩ := hR2.rb (by omega)
      have HR2 := Lib.hid (wk.RB.cells hR2.rb)
      have hownW := wk.ownsRow_below hown hbel2
      have HBW2 : Hid (B ≤ w2.heap.size) := by have := HBW.out; have := hbel2.size; show _ ≤ _; omega
      clear hown2 hR2 hpos
      go_wp2_with (at_builtin; refine wpList_append_own _ rfl _ _ 42 rfl B 5 i0 (.int .u8 0) 1 1 Try.underlying42 hi hz0 hz1 hz2 rfl (by decide) _ _ _ rfl hownW ⟨b2, o2, none⟩ _ _ (wp.bc (wp.encI x)) rfl ?c0 HR2.out wp.bc_one ?c3 ?c4 ?c5 ?_)
      case c0 => rw [wp.bc_length, Nat.mul_one]
      case c3 => have := HFL.out; unfold maxLen; omega
      case c4 => have := HFL.out; omega
      case c5 => exact HBW2.out
      intro v3 w3 hown3 hgrow _
      go_wp2_with fail
      go_roundg (gk - 1)
      case measure => have := HK.out; omega
      case rel =>
        refine ⟨k + 1, by have := HK.out; omega, by go_num, ?_, (hbel.trans (hbel2.mono HBW.out)).grown hgrow HBW2.out (fun q hq => (hownW.lt q hq).1)⟩
        rw [HS.out, wp.bc_append, List.length_append, ← Nat.add_assoc]
        exact hown3
    · go_wp2_with fail
      go_ret
      have hkl : k = l.length := by have := HN.out; omega
      refine ⟨_, rfl, ?_, by rw [HB.out]; exact hbel⟩
      unfold wp.encIs
      rw [HB.out, wp.bc_append, List.length_append, HN.out]
      have : l.take k = l := by rw [hkl]; exact List.take_length
      rw [this] at hown
      exact hown

end Go.Proofs.Ytieipbobijnmlaa.wi
/- VectorReadsBack: its walk. -/
namespace Go.Proofs.Ytieipbobijnmlaa.vq
theorem getL_enc {v : List Int} (h : ∀ x ∈ v, -9223372036854775808 ≤ x ∧ x ≤ 9223372036854775807) (hl : v.length ≤ 1000) : wp.getL wp.getI 1 (wp.encIs v) = (v, ((wp.encIs v).length : Int), 0) := by
  have := wp.getL_round (one := wp.getI) (enc := wp.encI) v 1 (by omega) (by omega) (fun x hx => wp.encI_pos x) (fun x hx t => wp.getI_encI (h x hx).1 (h x hx).2 t) []
  rw [List.append_nil] at this
  exact this
theorem dec_enc {v : List Int} (h : ∀ x ∈ v, -9223372036854775808 ≤ x ∧ x ≤ 9223372036854775807) (hl : v.length ≤ 1000) : dec (wp.encIs v) = if valid v then (v, 0) else ([], 40) := by
  rw [dec, getL_enc h hl]
  simp
theorem enc_dec (l : List UInt8) : ((dec l).2 = 0 ∧ wp.encIs (dec l).1 = l ∧ (dec l).1.length ≤ 32) ∨ ((dec l).2 ≠ 0 ∧ (dec l).1 = []) := by
  unfold dec
  split
  · rename_i h; exact .inr ⟨h, rfl⟩
  · rename_i h
    have h0 : (wp.getL wp.getI 1 l).2.2 = 0 := by omega
    split
    · exact .inr ⟨by simp, rfl⟩
    · rename_i h1
      split
      · rename_i h2
        have hc := wp.getL_canon (one := wp.getI) (enc := wp.encI) wp.getI_one 1 (by omega) l h0
        refine .inl ⟨rfl, ?_, (valid_iff.1 h2).le⟩
        have : l.take (wp.getL wp.getI 1 l).2.1.toNat = l := List.take_of_length_le (by omega)
        rw [this] at hc
        exact hc.1.symm
      · exact .inr ⟨by simp, rfl⟩
end Go.Proofs.Ytieipbobijnmlaa.vq

namespace Go.Proofs.Ytieipbobijnmlaa.vk

open Go.ChangeShapes Go.WideShapes Go.ChangeAt Go.RowKit
theorem isB_below {w w' : World} {A : Option Addr} {n c : Nat} {l : List UInt8} (h : wo.IsB w A n c l) (hb : Below w.heap.size w w') : wo.IsB w' A n c l := ⟨h.1, h.2.1, h.2.2.1, wk.RB.below h.2.2.2 hb⟩
theorem conv_b {w : World} {A : Option Addr} {n c : Nat} {l : List UInt8} (h : wo.IsB w A n c l) : (convert 42 9 (.slice A n c)).run Try.prog w = .ok (.string ⟨l.toArray⟩) w :=
  wk.conv_str (P := Try.prog) w 42 5 9 Try.underlying42 Try.underlying5 Try.underlying9 A n c _ h.1 h.2.2.2
theorem does_conv {P : Program} {Q : Exit → Act → World → Prop} {o : Oper} {E : Operand → Value} {w : World} {R : World → Value → Prop} {src dst : TypeId} {x : Operand} {V v : Value} (ho : o.op = .convert src dst x) (hx : E x = V) (hrun : (convert src dst V).run P w = .ok v w) (hR : R w v) : wk.Does P Q o E w R :=
  wk.does_run (v := v) (by unfold execOp; simp only [ho, hx]; rw [Sem.run_bind, hrun]; rfl) hR
end Go.Proofs.Ytieipbobijnmlaa.vk

namespace Go.Proofs.Ytieipbobijnmlaa.vectorReadsBack

open Go.ChangeShapes Go.WideShapes Go.ChangeAt Go.RowKit

open Go.Proofs.Ytieipbobijnmlaa.vk

set_option linter.unusedVariables false
end Go.Proofs.Ytieipbobijnmlaa.vectorReadsBack
/- A region that draws, in a round: slots that its head reads may be written by its tail. No program here. -/
namespace Go.Proofs.Ytieipbobijnmlaa.wk

open Go.RowKit

set_option linter.unusedVariables false

section

variable {P : Program} {ops : Array Oper} {Q : Exit → Act → World → Prop}
theorem region_tailK_in {id n : Nat} {a0 : Act} {w0 : World} (l : Nat) (hnd : noDefer ops = true) (hq : ¬ LetsOut Q) (k : Nat) (R : List SP) (ds : List (Option Tmp)) (hm : P.follows .mixedOrders = true) (hord : orderedB .any ops = true) (hap : apart ops a0.tmps.size = true) (hg : guardedS ops R k = true) (sk : List Nat) (hskl : skipped ops R k = sk) (hsk0 : ∀ p ∈ sk, R.getD p SP.any = .is undef) (hds : (List.range k).map (dstOf ops) = ds) (htl : tailed ops k = true)
    (hstep : ∀ i o, ops[i]? = some o → i < k → skips ops R i = false → ∀ E w, Below w0.drew.heap.size w0.drew w → Due ops R a0 o E w → (∀ s, unwK ops k s = true → E (.tmp s) = a0.eval (.tmp s)) → Does P Q o E w (R.getD i SP.any).has)
    (hdone : ∀ (vals : Nat → Value) w, Below w0.drew.heap.size w0.drew w → (∀ i, i < k → (R.getD i SP.any).has w (vals i)) → wpList P ops Q (ops.toList.drop k) { a0 with tmps := setL ds vals 0 a0.tmps } w) : (Code.region id ops true).wpIn (Fence.wide.inRound l) n P Q a0 w0 := by
  have hsk := skip_of hskl hsk0
  unfold tailed at htl
  simp only [Bool.and_eq_true, decide_eq_true_eq] at htl
  obtain ⟨⟨hkn, hcov⟩, hch⟩ := htl
  have hchain : ∀ i, k ≤ i → i + 1 < ops.size → waitsFor ops (i + 1) i = true := fun i h1 h2 => by
    have := List.all_eq_true.1 hch i (List.mem_range.2 (by omega))
    simp only [Bool.or_eq_true, decide_eq_true_eq] at this
    rcases this with (h | h) | h
    · omega
    · omega
    · exact h
  have hcover : ∀ j, j < k → k < ops.size → ∃ i, j < i ∧ i ≤ k ∧ waitsFor ops i j = true := fun j h1 h2 => by
    have := List.all_eq_true.1 hcov j (List.mem_range.2 h1)
    simp only [Bool.or_eq_true, beq_iff_eq] at this
    rcases this with h | h
    · omega
    · obtain ⟨i, hi, h⟩ := List.any_eq_true.1 h
      simp only [Bool.and_eq_true, decide_eq_true_eq] at h
      exact ⟨i, h.1, by have := List.mem_range.1 hi; omega, h.2⟩
  have hfin : ∀ L a w, VInv ops R w0.drew a0 L a w → (∀ j, j < k → L j = true) → (∀ j, k ≤ j → L j = false) → wpList P ops Q (ops.toList.drop k) a w := fun L a w hI hall hno => by
    have hv : ∀ i, ∃ v, i < k → (R.getD i SP.any).has w v ∧ ∀ d, dstOf ops i = some d → a.tmps[d]? = some v := fun i => by
      by_cases hi : i < k
      · obtain ⟨v, h⟩ := hI.vals i (hall i hi); exact ⟨v, fun _ => h⟩
      · exact ⟨undef, fun h => absurd h hi⟩
    obtain ⟨vals, hvals⟩ := Classical.axiomOfChoice hv
    have ha : a = { a0 with tmps := setAll ops vals k a0.tmps } := by
      obtain ⟨tm, df⟩ := a
      have h1 : df = a0.defers := hI.defers
      have h2 : tm = setAll ops vals k a0.tmps := by
        refine Array.ext_getElem? fun s => ?_
        have hset := setAll_get vals hap s k a0.tmps hkn rfl
        by_cases hk : ∃ i, i < k ∧ dstOf ops i = some s
        · obtain ⟨i, hik, hi⟩ := hk
          rw [hset.2 i hik hi]
          exact (hvals i hik).2 s hi
        · rw [hset.1 fun i hi h => hk ⟨i, hi, h⟩]
          refine hI.rest s fun i hi h => ?_
          rcases Nat.lt_or_ge i k with hl | hl
          · exact hk ⟨i, hl, h⟩
          · rw [hno i hl] at hi; cases hi
      rw [h1, h2]
    rw [ha, setAll_eq, hds]
    exact hdone vals w hI.below fun i hi => (hvals i hi).1
  refine region_invB_in l hnd hq (fun a0 B L a w => (VInv ops R B a0 L a w ∧ (∀ i, k ≤ i → L i = false) ∧ Closed ops L) ∨ ∃ m, k ≤ m ∧ m ≤ ops.size ∧ (∀ i, L i = decide (i < m)) ∧ wpList P ops Q (ops.toList.drop m) a w) hm hord
    (Or.inl ⟨⟨Below.refl _ _, rfl, rfl, fun i h => (Bool.noConfusion h), fun k _ => rfl⟩, fun _ _ => rfl, fun i o _ h => (Bool.noConfusion h)⟩) ?_ ?_
  · intro L a w hI i o ho hLi hdep
    have hio : i < ops.size := (Array.getElem?_eq_some_iff.1 ho).1
    rcases hI with ⟨hI, hno, hcl⟩ | ⟨m, hm1, hm2, hL, hwp⟩
    · by_cases hik : i < k
      · refine wpOp_mono (fun a' w' h => Or.inl ?_) (vinv_stepK R hap hg hsk hik hI ho hLi hdep hno (hstep i o ho hik))
        refine ⟨h, fun j hj => ?_, fun j o' ho' hj e he hb => ?_⟩
        · have hji : j ≠ i := by omega
          simp only [hji, if_false]
          exact hno j hj
        · by_cases hji : j = i
          · subst hji
            rw [ho] at ho'; cases ho'
            by_cases h2 : e.on = j
            · simp [h2]
            · simp only [h2, if_false]; exact hdep e he hb
          · simp only [hji, if_false] at hj
            by_cases h2 : e.on = i
            · simp [h2]
            · simp only [h2, if_false]; exact hcl j o' ho' hj e he hb
      · have hik' : i = k := by
          rcases Nat.lt_or_ge k i with h | h
          · have := waits_done (L := L) (hchain (i - 1) (by omega) (by omega)) (by rw [show i - 1 + 1 = i by omega]; exact ho) hdep
            rw [hno (i - 1) (by omega)] at this; cases this
          · omega
        subst hik'
        have hall : ∀ d j, i - j ≤ d → j < i → L j = true := by
          intro d
          induction d with
          | zero => intro j h1 h2; omega
          | succ d ih =>
            intro j h1 h2
            obtain ⟨q, hq1, hq2, hq3⟩ := hcover j h2 hio
            by_cases hqi : q = i
            · subst hqi; exact waits_done hq3 ho hdep
            · have hq : L q = true := ih q (by omega) (by omega)
              have hqo : ops[q]? = some ops[q] := Array.getElem?_eq_getElem (by omega)
              exact waits_done hq3 hqo (hcl q _ hqo hq)
        refine wpOp_mono (fun a' w' h => Or.inr ⟨i + 1, by omega, by omega, fun j => ?_, h⟩) (wpList_to_op ho (hfin L a w hI (fun j hj => hall _ j (Nat.le_refl _) hj) hno))
        by_cases hji : j = i
        · subst hji; simp
        · simp only [hji, if_false]
          rcases Nat.lt_or_ge j i with h1 | h1
          · rw [hall _ j (Nat.le_refl _) h1]; simp; omega
          · rw [hno j h1]; simp; omega
    · have him : i = m := by
        have h1 : ¬ i < m := fun h => by rw [hL i] at hLi; simp [h] at hLi
        rcases Nat.lt_or_ge m i with h | h
        · have := waits_done (L := L) (hchain (i - 1) (by omega) (by omega)) (by rw [show i - 1 + 1 = i by omega]; exact ho) hdep
          rw [hL (i - 1)] at this
          simp at this; omega
        · omega
      subst him
      refine wpOp_mono (fun a' w' h => Or.inr ⟨i + 1, by omega, by omega, fun j => ?_, h⟩) (wpList_to_op ho hwp)
      by_cases hji : j = i
      · subst hji; simp
      · simp only [hji, if_false]
        rw [hL j]
        rcases Nat.lt_or_ge j i with h1 | h1
        · simp [h1]; omega
        · simp; omega
  · intro L a w hall hI
    rcases hI with ⟨hI, hno, hcl⟩ | ⟨m, hm1, hm2, hL, hwp⟩
    · have hk : k = ops.size := by
        rcases Nat.lt_or_ge k ops.size with h | h
        · have := hall k h; rw [hno k (Nat.le_refl _)] at this; cases this
        · omega
      have := hfin L a w hI (fun j hj => hall j (by omega)) hno
      rw [hk, ← Array.length_toList, List.drop_length] at this
      exact this
    · have hk : m = ops.size := by
        rcases Nat.lt_or_ge m ops.size with h | h
        · have := hall m h; rw [hL m] at this; simp at this
        · omega
      rw [hk, ← Array.length_toList, List.drop_length] at hwp
      exact hwp
end

end Go.Proofs.Ytieipbobijnmlaa.wk
/- A region that draws, in a round: facts that hang on what is done. No program here. -/
namespace Go.Proofs.Ytieipbobijnmlaa.wk

open Go.RowKit

set_option linter.unusedVariables false

section

variable {P : Program} {ops : Array Oper} {Q : Exit → Act → World → Prop}
theorem region_lev2_in {id n : Nat} {a0 : Act} {w0 : World} (l : Nat) (hnd : noDefer ops = true) (hq : ¬ LetsOut Q) (k : Nat) (R : (Nat → Bool) → Nat → World → Value → Prop) (ds : List (Option Tmp)) (S : (Nat → Bool) → World → Prop) (h0 : S (fun _ => false) w0.drew) (hm : P.follows .mixedOrders = true) (hord : orderedB .any ops = true) (hap : apart ops a0.tmps.size = true) (hg : noGuard ops k = true) (hds : (List.range k).map (dstOf ops) = ds) (htl : tailed ops k = true)
    (hstep : ∀ i o, ops[i]? = some o → i < k → ∀ E L w, S L w → L i = false → (∀ e ∈ o.after, Region.binds .any e = true → L e.on = true) → DueG ops (R L) a0 o E w → DoesT P Q o E w (fun w' v => R (fun j => if j = i then true else L j) i w' v ∧ (∀ j u, L j = true → (∀ d, dstOf ops j = some d → E (.tmp d) = u) → R L j w u → R (fun j => if j = i then true else L j) j w' u) ∧ S (fun j => if j = i then true else L j) w'))
    (hdone : ∀ (vals : Nat → Value) L w, (∀ j, j < k → L j = true) → S L w → (∀ i, i < k → R L i w (vals i)) → wpList P ops Q (ops.toList.drop k) { a0 with tmps := setL ds vals 0 a0.tmps } w) : (Code.region id ops true).wpIn (Fence.wide.inRound l) n P Q a0 w0 := by
  unfold tailed at htl
  simp only [Bool.and_eq_true, decide_eq_true_eq] at htl
  obtain ⟨⟨hkn, hcov⟩, hch⟩ := htl
  have hchain : ∀ i, k ≤ i → i + 1 < ops.size → waitsFor ops (i + 1) i = true := fun i h1 h2 => by
    have := List.all_eq_true.1 hch i (List.mem_range.2 (by omega))
    simp only [Bool.or_eq_true, decide_eq_true_eq] at this
    rcases this with (h | h) | h
    · omega
    · omega
    · exact h
  have hcover : ∀ j, j < k → k < ops.size → ∃ i, j < i ∧ i ≤ k ∧ waitsFor ops i j = true := fun j h1 h2 => by
    have := List.all_eq_true.1 hcov j (List.mem_range.2 h1)
    simp only [Bool.or_eq_true, beq_iff_eq] at this
    rcases this with h | h
    · omega
    · obtain ⟨i, hi, h⟩ := List.any_eq_true.1 h
      simp only [Bool.and_eq_true, decide_eq_true_eq] at h
      exact ⟨i, h.1, by have := List.mem_range.1 hi; omega, h.2⟩
  have hfin : ∀ L a w, LInv ops R a0 L a w → S L w → (∀ j, j < k → L j = true) → (∀ j, k ≤ j → L j = false) → wpList P ops Q (ops.toList.drop k) a w := fun L a w hI hw hall hno => by
    have hv : ∀ i, ∃ v, i < k → R L i w v ∧ ∀ d, dstOf ops i = some d → a.tmps[d]? = some v := fun i => by
      by_cases hi : i < k
      · obtain ⟨v, h⟩ := hI.vals i (hall i hi); exact ⟨v, fun _ => h⟩
      · exact ⟨undef, fun h => absurd h hi⟩
    obtain ⟨vals, hvals⟩ := Classical.axiomOfChoice hv
    have ha : a = { a0 with tmps := setAll ops vals k a0.tmps } := by
      obtain ⟨tm, df⟩ := a
      have h1 : df = a0.defers := hI.defers
      have h2 : tm = setAll ops vals k a0.tmps := by
        refine Array.ext_getElem? fun s => ?_
        have hset := setAll_get vals hap s k a0.tmps hkn rfl
        by_cases hk : ∃ i, i < k ∧ dstOf ops i = some s
        · obtain ⟨i, hik, hi⟩ := hk
          rw [hset.2 i hik hi]
          exact (hvals i hik).2 s hi
        · rw [hset.1 fun i hi h => hk ⟨i, hi, h⟩]
          refine hI.rest s fun i hi h => ?_
          rcases Nat.lt_or_ge i k with hl | hl
          · exact hk ⟨i, hl, h⟩
          · rw [hno i hl] at hi; cases hi
      rw [h1, h2]
    rw [ha, setAll_eq, hds]
    exact hdone vals L w hall hw fun i hi => (hvals i hi).1
  refine region_invB_in l hnd hq (fun a0' B L a w => (LInv ops R a0 L a w ∧ S L w ∧ (∀ i, k ≤ i → L i = false) ∧ Closed ops L) ∨ ∃ m, k ≤ m ∧ m ≤ ops.size ∧ (∀ i, L i = decide (i < m)) ∧ wpList P ops Q (ops.toList.drop m) a w) hm hord
    (Or.inl ⟨⟨rfl, rfl, fun i h => (Bool.noConfusion h), fun k _ => rfl⟩, h0, fun _ _ => rfl, fun i o _ h => (Bool.noConfusion h)⟩) ?_ ?_
  · intro L a w hI i o ho hLi hdep
    have hio : i < ops.size := (Array.getElem?_eq_some_iff.1 ho).1
    rcases hI with ⟨hI, hSw, hno, hcl⟩ | ⟨m, hm1, hm2, hL, hwp⟩
    · by_cases hik : i < k
      · refine wpOp_mono (fun a' w' h => Or.inl ?_) (linv_step2 R hap hg hik hI ho hdep (S := S (fun j => if j = i then true else L j)) fun E hE => hstep i o ho hik E L w hSw hLi hdep hE)
        refine ⟨h.1, h.2, fun j hj => ?_, fun j o' ho' hj e he hb => ?_⟩
        · have hji : j ≠ i := by omega
          simp only [hji, if_false]
          exact hno j hj
        · by_cases hji : j = i
          · subst hji
            rw [ho] at ho'; cases ho'
            by_cases h2 : e.on = j
            · simp [h2]
            · simp only [h2, if_false]; exact hdep e he hb
          · simp only [hji, if_false] at hj
            by_cases h2 : e.on = i
            · simp [h2]
            · simp only [h2, if_false]; exact hcl j o' ho' hj e he hb
      · have hik' : i = k := by
          rcases Nat.lt_or_ge k i with h | h
          · have := waits_done (L := L) (hchain (i - 1) (by omega) (by omega)) (by rw [show i - 1 + 1 = i by omega]; exact ho) hdep
            rw [hno (i - 1) (by omega)] at this; cases this
          · omega
        subst hik'
        have hall : ∀ d j, i - j ≤ d → j < i → L j = true := by
          intro d
          induction d with
          | zero => intro j h1 h2; omega
          | succ d ih =>
            intro j h1 h2
            obtain ⟨q, hq1, hq2, hq3⟩ := hcover j h2 hio
            by_cases hqi : q = i
            · subst hqi; exact waits_done hq3 ho hdep
            · have hq : L q = true := ih q (by omega) (by omega)
              have hqo : ops[q]? = some ops[q] := Array.getElem?_eq_getElem (by omega)
              exact waits_done hq3 hqo (hcl q _ hqo hq)
        refine wpOp_mono (fun a' w' h => Or.inr ⟨i + 1, by omega, by omega, fun j => ?_, h⟩) (wpList_to_op ho (hfin L a w hI hSw (fun j hj => hall _ j (Nat.le_refl _) hj) hno))
        by_cases hji : j = i
        · subst hji; simp
        · simp only [hji, if_false]
          rcases Nat.lt_or_ge j i with h1 | h1
          · rw [hall _ j (Nat.le_refl _) h1]; simp; omega
          · rw [hno j h1]; simp; omega
    · have him : i = m := by
        have h1 : ¬ i < m := fun h => by rw [hL i] at hLi; simp [h] at hLi
        rcases Nat.lt_or_ge m i with h | h
        · have := waits_done (L := L) (hchain (i - 1) (by omega) (by omega)) (by rw [show i - 1 + 1 = i by omega]; exact ho) hdep
          rw [hL (i - 1)] at this
          simp at this; omega
        · omega
      subst him
      refine wpOp_mono (fun a' w' h => Or.inr ⟨i + 1, by omega, by omega, fun j => ?_, h⟩) (wpList_to_op ho hwp)
      by_cases hji : j = i
      · subst hji; simp
      · simp only [hji, if_false]
        rw [hL j]
        rcases Nat.lt_or_ge j i with h1 | h1
        · simp [h1]; omega
        · simp; omega
  · intro L a w hall hI
    rcases hI with ⟨hI, hSw, hno, hcl⟩ | ⟨m, hm1, hm2, hL, hwp⟩
    · have hk : k = ops.size := by
        rcases Nat.lt_or_ge k ops.size with h | h
        · have := hall k h; rw [hno k (Nat.le_refl _)] at this; cases this
        · omega
      have := hfin L a w hI hSw (fun j hj => hall j (by omega)) hno
      rw [hk, ← Array.length_toList, List.drop_length] at this
      exact this
    · have hk : m = ops.size := by
        rcases Nat.lt_or_ge m ops.size with h | h
        · have := hall m h; rw [hL m] at this; simp at this
        · omega
      rw [hk, ← Array.length_toList, List.drop_length] at hwp
      exact hwp
end

end Go.Proofs.Ytieipbobijnmlaa.wk
/- Sets of slots, plainly. -/
namespace Go.Proofs.Ytieipbobijnmlaa.tq

set_option linter.unusedVariables false
def Asc (b : List Int) : Prop := b.Pairwise (· < ·)
def cl (b : List Int) (x : Int) : Nat := b.countP (fun y => decide (y ≤ x))
def odd (n : Nat) : Bool := n % 2 == 1
def has (b : List Int) (x : Int) : Bool := odd (cl b x)
theorem odd_succ (n : Nat) : odd (n + 1) = !odd n := by
  unfold odd
  have : n % 2 = 0 ∨ n % 2 = 1 := by omega
  rcases this with h | h
  · have : (n + 1) % 2 = 1 := by omega
    rw [h, this]; rfl
  · have : (n + 1) % 2 = 0 := by omega
    rw [h, this]; rfl
theorem odd_two (n : Nat) : odd (n + 2) = odd n := by rw [odd_succ, odd_succ, Bool.not_not]
theorem odd_iff {n : Nat} : odd n = true ↔ n % 2 = 1 := by unfold odd; rw [beq_iff_eq]
theorem odd_false {n : Nat} : odd n = false ↔ n % 2 = 0 := by
  rw [← Bool.not_eq_true, odd_iff]; omega
theorem cl_cons (y : Int) (b : List Int) (x : Int) : cl (y :: b) x = (if y ≤ x then 1 else 0) + cl b x := by
  unfold cl; rw [List.countP_cons]
  by_cases h : y ≤ x <;> simp [h] <;> omega
theorem cl_append (a b : List Int) (x : Int) : cl (a ++ b) x = cl a x + cl b x := by
  unfold cl; rw [List.countP_append]
theorem cl_le (b : List Int) (x : Int) : cl b x ≤ b.length := List.countP_le_length
theorem cl_none {b : List Int} {x : Int} (h : ∀ y ∈ b, x < y) : cl b x = 0 := by
  unfold cl; rw [List.countP_eq_zero]; intro y hy; have := h y hy; simp; omega
theorem cl_all {b : List Int} {x : Int} (h : ∀ y ∈ b, y ≤ x) : cl b x = b.length := by
  unfold cl; rw [List.countP_eq_length]; intro y hy; have := h y hy; simpa using this
theorem asc_ext : ∀ {a b : List Int}, Asc a → Asc b → (∀ x, has a x = has b x) → a = b
  | [], [], _, _, _ => rfl
  | [], y :: b, _, hb, h => by
    have h1 := h y
    have h2 := (List.pairwise_cons.1 hb).1
    unfold has at h1
    rw [cl_cons, if_pos (by omega), cl_none h2] at h1
    cases h1
  | y :: b, [], hb, _, h => by
    have h1 := h y
    have h2 := (List.pairwise_cons.1 hb).1
    unfold has at h1
    rw [cl_cons, if_pos (by omega), cl_none h2] at h1
    cases h1
  | x :: a, y :: b, ha, hb, h => by
    have h2 := (List.pairwise_cons.1 ha)
    have h3 := (List.pairwise_cons.1 hb)
    have hxy : x = y := by
      rcases Int.lt_trichotomy x y with hlt | he | hgt
      · have h1 := h x
        unfold has at h1
        rw [cl_cons, cl_cons, if_pos (by omega), if_neg (by omega), cl_none h2.1, cl_none (fun z hz => by have := h3.1 z hz; omega)] at h1
        cases h1
      · exact he
      · have h1 := h y
        unfold has at h1
        rw [cl_cons, cl_cons, if_neg (by omega), if_pos (by omega), cl_none h3.1, cl_none (fun z hz => by have := h2.1 z hz; omega)] at h1
        cases h1
    subst hxy
    rw [asc_ext h2.2 h3.2 fun z => by
      by_cases hz : x ≤ z
      · have h1 := h z
        unfold has at h1 ⊢
        rw [cl_cons, cl_cons, if_pos hz, Nat.add_comm, Nat.add_comm 1, odd_succ, odd_succ] at h1
        simpa using h1
      · unfold has
        rw [cl_none fun y hy => by have := h2.1 y hy; omega, cl_none fun y hy => by have := h3.1 y hy; omega]]
/-- which places hold what is at most x -/
theorem cl_place : ∀ {a : List Int} {x y : Int} {k : Nat}, Asc a → a[k]? = some y → (y ≤ x ↔ k < cl a x)
  | [], _, _, _, _, h => by simp at h
  | z :: a, x, y, k, ha, h => by
    have h2 := (List.pairwise_cons.1 ha)
    rw [cl_cons]
    cases k with
    | zero =>
      simp at h
      subst h
      by_cases hz : z ≤ x
      · simp [hz]; omega
      · rw [if_neg hz, cl_none fun y hy => by have := h2.1 y hy; omega]
        constructor
        · intro h; exact absurd h hz
        · intro h; omega
    | succ k =>
      rw [List.getElem?_cons_succ] at h
      have ih := cl_place (x := x) h2.2 h
      have := h2.1 y (List.mem_of_getElem? h)
      by_cases hz : z ≤ x
      · rw [if_pos hz, ih]; omega
      · rw [if_neg hz, ih]
        have : cl a x = 0 := cl_none fun y hy => by have := h2.1 y hy; omega
        omega
theorem cl_eq {a : List Int} {x : Int} {i : Nat} (ha : Asc a) (hi : i ≤ a.length) (h : ∀ k y, a[k]? = some y → (y ≤ x ↔ k < i)) : cl a x = i := by
  have hc := cl_le a x
  have key : ∀ k, k < a.length → (k < i ↔ k < cl a x) := fun k hk => by
    have hy := List.getElem?_eq_getElem hk
    rw [← h k _ hy, cl_place ha hy]
  rcases Nat.lt_trichotomy (cl a x) i with h1 | h1 | h1
  · have := key (cl a x) (by omega); omega
  · exact h1
  · have := key i (by omega); omega
theorem asc_at {a : List Int} {i j : Nat} {x y : Int} (ha : Asc a) (hij : i < j) (hx : a[i]? = some x) (hy : a[j]? = some y) : x < y := by
  obtain ⟨h1, rfl⟩ := List.getElem?_eq_some_iff.1 hx
  obtain ⟨h2, rfl⟩ := List.getElem?_eq_some_iff.1 hy
  exact List.pairwise_iff_getElem.1 ha i j h1 h2 hij
theorem cl_step {a : List Int} {t x y : Int} {i : Nat} (ha : Asc a) (hi : cl a t = i) (hy : a[i]? = some y) (ht : t ≤ x) (hx : x < y) : cl a x = i := by
  refine cl_eq ha (by rw [← hi]; exact cl_le _ _) fun k z hz => ?_
  have h1 := cl_place (x := t) ha hz
  rw [hi] at h1
  constructor
  · intro h2
    refine Decidable.byContradiction fun h3 => ?_
    by_cases e : k = i
    · subst e; rw [hy] at hz; cases hz; omega
    · have := asc_at ha (by omega : i < k) hy hz; omega
  · intro h2; have := h1.2 h2; omega
theorem cl_up {a : List Int} {t y : Int} {i : Nat} (ha : Asc a) (hi : cl a t = i) (hy : a[i]? = some y) : cl a y = i + 1 := by
  refine cl_eq ha (by have := (List.getElem?_eq_some_iff.1 hy).1; omega) fun k z hz => ?_
  constructor
  · intro h2
    refine Decidable.byContradiction fun h3 => ?_
    have := asc_at ha (by omega : i < k) hy hz; omega
  · intro h2
    by_cases e : k = i
    · subst e; rw [hy] at hz; cases hz; omega
    · have := asc_at ha (by omega : k < i) hz hy; omega
theorem cl_end {a : List Int} {t x : Int} (hi : cl a t = a.length) (ht : t ≤ x) : cl a x = a.length := by
  refine cl_all fun y hy => ?_
  have := List.countP_eq_length.1 hi y hy
  simp at this; omega
theorem cl_gt {a : List Int} {t y : Int} {i : Nat} (ha : Asc a) (hi : cl a t = i) (hy : a[i]? = some y) : t < y := by
  have := cl_place (x := t) ha hy
  omega
def Ok (b : List Int) : Prop := Asc b ∧ (∀ x ∈ b, 0 ≤ x ∧ x ≤ 4096) ∧ b.length % 2 = 0
def chk (last : Int) : List Int → Bool
  | [] => true
  | x :: r => decide (last < x ∧ x ≤ 4096) && chk x r
def vs (b : List Int) : Bool := chk (-1) b && b.length % 2 == 0
theorem chk_iff : ∀ {l : Int} {b : List Int}, chk l b = true ↔ Asc b ∧ ∀ x ∈ b, l < x ∧ x ≤ 4096
  | l, [] => by simp [chk, Asc]
  | l, x :: r => by
    unfold chk Asc
    rw [Bool.and_eq_true, decide_eq_true_eq, chk_iff, List.pairwise_cons]
    constructor
    · rintro ⟨h1, h2, h3⟩
      refine ⟨⟨fun y hy => (h3 y hy).1, h2⟩, fun y hy => ?_⟩
      rcases List.mem_cons.1 hy with rfl | hy
      · exact h1
      · have := h3 y hy; omega
    · rintro ⟨⟨h1, h2⟩, h3⟩
      exact ⟨h3 x (by simp), h2, fun y hy => ⟨h1 y hy, (h3 y (by simp [hy])).2⟩⟩
theorem vs_iff {b : List Int} : vs b = true ↔ Ok b := by
  unfold vs Ok
  rw [Bool.and_eq_true, chk_iff, beq_iff_eq]
  constructor
  · rintro ⟨⟨h1, h2⟩, h3⟩; exact ⟨h1, fun x hx => by have := h2 x hx; omega, h3⟩
  · rintro ⟨h1, h2, h3⟩; exact ⟨⟨h1, fun x hx => by have := h2 x hx; omega⟩, h3⟩
theorem ok_ext {a b : List Int} (ha : Ok a) (hb : Ok b) (h : ∀ x, 0 ≤ x → x < 4096 → has a x = has b x) : a = b := by
  refine asc_ext ha.1 hb.1 fun x => ?_
  by_cases h0 : 0 ≤ x
  · by_cases h1 : x < 4096
    · exact h x h0 h1
    · unfold has
      rw [cl_all fun y hy => by have := ha.2.1 y hy; omega, cl_all fun y hy => by have := hb.2.1 y hy; omega]
      rw [odd_false.2 ha.2.2, odd_false.2 hb.2.2]
  · unfold has
    rw [cl_none fun y hy => by have := ha.2.1 y hy; omega, cl_none fun y hy => by have := hb.2.1 y hy; omega]
theorem has_out {a : List Int} (ha : Ok a) {x : Int} (h : ¬ (0 ≤ x ∧ x < 4096)) : has a x = false := by
  unfold has
  by_cases h0 : 0 ≤ x
  · rw [cl_all fun y hy => by have := ha.2.1 y hy; omega]
    exact odd_false.2 ha.2.2
  · rw [cl_none fun y hy => by have := ha.2.1 y hy; omega]; rfl
/-- what putting two sets together keeps: all up to t is done -/
def Tg (f : Bool → Bool → Bool) (a b : List Int) (t : Int) (i j : Nat) (d : List Int) : Prop :=
  cl a t = i ∧ cl b t = j ∧ Asc d ∧ (∀ x ∈ d, 0 ≤ x ∧ x ≤ t ∧ x ≤ 4096) ∧ (∀ x, x ≤ t → has d x = f (has a x) (has b x)) ∧ odd d.length = f (odd i) (odd j)
theorem tg_start {f : Bool → Bool → Bool} (hf : f false false = false) {a b : List Int} (ha : Ok a) (hb : Ok b) : Tg f a b (-1) 0 0 [] := by
  refine ⟨cl_none fun y hy => by have := ha.2.1 y hy; omega, cl_none fun y hy => by have := hb.2.1 y hy; omega, List.Pairwise.nil, by simp, fun x hx => ?_, hf.symm⟩
  rw [has_out ha (by omega), has_out hb (by omega), hf]; rfl
theorem tg_end {f : Bool → Bool → Bool} (hf : f false false = false) {a b d : List Int} {t : Int} (ha : Ok a) (hb : Ok b) (h : Tg f a b t a.length b.length d) : Ok d ∧ ∀ x, has d x = f (has a x) (has b x) := by
  obtain ⟨h1, h2, h3, h4, h5, h6⟩ := h
  refine ⟨⟨h3, fun x hx => ⟨(h4 x hx).1, (h4 x hx).2.2⟩, ?_⟩, fun x => ?_⟩
  · rw [← odd_false, h6, odd_false.2 ha.2.2, odd_false.2 hb.2.2, hf]
  · by_cases hx : x ≤ t
    · exact h5 x hx
    · unfold has
      rw [cl_end h1 (by omega), cl_end h2 (by omega), cl_all fun y hy => by have := (h4 y hy).2.1; omega, h6]
theorem asc_snoc {d : List Int} {m : Int} (h : Asc d) (hm : ∀ x ∈ d, x < m) : Asc (d ++ [m]) := by
  refine List.pairwise_append.2 ⟨h, by simp, fun x hx y hy => ?_⟩
  rw [List.mem_singleton.1 hy]; exact hm x hx
/-- one border more -/
theorem tg_step {f : Bool → Bool → Bool} {a b d : List Int} {t m : Int} {i j i' j' : Nat} (h : Tg f a b t i j d) (hm : t < m) (h0 : 0 ≤ m ∧ m ≤ 4096)
    (hi : ∀ x, t ≤ x → x < m → cl a x = i) (hi' : cl a m = i') (hj : ∀ x, t ≤ x → x < m → cl b x = j) (hj' : cl b m = j') :
    Tg f a b m i' j' (if f (odd i') (odd j') ≠ odd d.length then d ++ [m] else d) := by
  obtain ⟨h1, h2, h3, h4, h5, h6⟩ := h
  refine ⟨hi', hj', ?_, ?_, ?_, ?_⟩
  · split
    · exact asc_snoc h3 fun x hx => by have := (h4 x hx).2.1; omega
    · exact h3
  · intro x hx
    have : x ∈ d ∨ x = m := by
      split at hx
      · simpa using hx
      · exact .inl hx
    rcases this with hx | rfl
    · have := h4 x hx; omega
    · omega
  · intro x hx
    by_cases e : x = m
    · subst e
      unfold has
      rw [hi', hj']
      split
      case isTrue hne =>
        rw [cl_all fun y hy => by
          rcases List.mem_append.1 hy with hy | hy
          · have := (h4 y hy).2.1; omega
          · have := List.mem_singleton.1 hy; omega]
        rw [List.length_append, List.length_singleton, odd_succ]
        revert hne
        cases f (odd i') (odd j') <;> cases odd d.length <;> simp
      case isFalse hne =>
        rw [cl_all fun y hy => by have := (h4 y hy).2.1; omega]
        exact (Decidable.not_not.1 hne).symm
    · have hd : has (if f (odd i') (odd j') ≠ odd d.length then d ++ [m] else d) x = has d x := by
        split
        · unfold has
          rw [cl_append, show cl [m] x = 0 from cl_none fun y hy => by rw [List.mem_singleton.1 hy]; omega, Nat.add_zero]
        · rfl
      rw [hd]
      by_cases hxt : x ≤ t
      · exact h5 x hxt
      · unfold has
        rw [hi x (by omega) (by omega), hj x (by omega) (by omega), cl_all fun y hy => by have := (h4 y hy).2.1; omega, h6]
  · split
    case isTrue hne =>
      rw [List.length_append, List.length_singleton, odd_succ]
      revert hne
      cases f (odd i') (odd j') <;> cases odd d.length <;> simp
    case isFalse hne => exact (Decidable.not_not.1 hne).symm
/-- the next border, or what is behind all -/
def nx (b : List Int) (i : Nat) : Int := b[i]?.getD 9223372036854775807
theorem nx_step {a : List Int} {t m : Int} {i : Nat} (ha : Ok a) (h : cl a t = i) (hm : t < m) (h0 : m ≤ 4096) (hle : m ≤ nx a i) : (∀ x, t ≤ x → x < m → cl a x = i) ∧ cl a m = if nx a i = m then i + 1 else i := by
  cases hy : a[i]? with
  | none =>
    have hn : nx a i = 9223372036854775807 := by unfold nx; rw [hy]; rfl
    have hl : a.length = i := by
      have h2 := List.getElem?_eq_none_iff.1 hy
      have := cl_le a t; omega
    rw [if_neg (by omega)]
    exact ⟨fun x hx _ => by rw [cl_end (by omega) hx, hl], by rw [cl_end (by omega) (by omega : t ≤ m), hl]⟩
  | some y =>
    have hn : nx a i = y := by unfold nx; rw [hy]; rfl
    rw [hn] at hle ⊢
    refine ⟨fun x hx hxm => cl_step ha.1 h hy hx (by omega), ?_⟩
    split
    case isTrue e => rw [← e]; exact cl_up ha.1 h hy
    case isFalse e => exact cl_step ha.1 h hy (by omega) (by omega)
theorem nx_gt {a : List Int} {t : Int} {i : Nat} (ha : Ok a) (h : cl a t = i) (ht : t ≤ 4096) : t < nx a i := by
  unfold nx
  cases hy : a[i]? with
  | none => simp; omega
  | some y => exact cl_gt ha.1 h hy
theorem nx_mem {a : List Int} {i : Nat} (ha : Ok a) (hi : i < a.length) : 0 ≤ nx a i ∧ nx a i ≤ 4096 := by
  unfold nx
  rw [List.getElem?_eq_getElem hi]
  exact ha.2.1 _ (List.getElem_mem hi)
theorem nx_nn {a : List Int} (ha : Ok a) (i : Nat) : 0 ≤ nx a i := by
  unfold nx
  cases hy : a[i]? with
  | none => simp
  | some y => exact (ha.2.1 y (List.mem_of_getElem? hy)).1
/-- one round of putting together -/
theorem tg_round {f : Bool → Bool → Bool} {a b d : List Int} {t : Int} {i j : Nat} (ha : Ok a) (hb : Ok b) (h : Tg f a b t i j d) (ht : t ≤ 4096) (hne : i < a.length ∨ j < b.length) :
    let m := min (nx a i) (nx b j)
    let i' := if nx a i = m then i + 1 else i
    let j' := if nx b j = m then j + 1 else j
    Tg f a b m i' j' (if f (odd i') (odd j') ≠ odd d.length then d ++ [m] else d) ∧ m ≤ 4096 ∧ i' ≤ a.length ∧ j' ≤ b.length ∧ i + j < i' + j' := by
  intro m i' j'
  have g1 := nx_gt ha h.1 ht
  have g2 := nx_gt hb h.2.1 ht
  have hm : t < m := by show _ < min _ _; omega
  have h0 : 0 ≤ m := by have := nx_nn ha i; have := nx_nn hb j; show _ ≤ min _ _; omega
  have hmm : m ≤ nx a i ∧ m ≤ nx b j ∧ (nx a i = m ∨ nx b j = m) := by
    have : m = min (nx a i) (nx b j) := rfl
    omega
  have hm4 : m ≤ 4096 := by
    rcases hne with hn | hn
    · have := nx_mem ha hn; omega
    · have := nx_mem hb hn; omega
  obtain ⟨a1, a2⟩ := nx_step ha h.1 hm hm4 hmm.1
  obtain ⟨b1, b2⟩ := nx_step hb h.2.1 hm hm4 hmm.2.1
  refine ⟨tg_step h hm ⟨h0, hm4⟩ a1 a2 b1 b2, hm4, ?_, ?_, ?_⟩
  · show (if _ then _ else _) ≤ _; rw [← a2]; exact cl_le _ _
  · show (if _ then _ else _) ≤ _; rw [← b2]; exact cl_le _ _
  · have e1 : i' = if nx a i = m then i + 1 else i := rfl
    have e2 : j' = if nx b j = m then j + 1 else j := rfl
    clear_value i' j'
    rcases hmm.2.2 with e | e
    · rw [if_pos e] at e1; split at e2 <;> omega
    · rw [if_pos e] at e2; split at e1 <;> omega
/-- the numbers from a on, before b -/
def rng (a b : Int) : List Int := (List.range (b - a).toNat).map fun (i : Nat) => a + (i : Int)
theorem mem_rng {a b x : Int} : x ∈ rng a b ↔ a ≤ x ∧ x < b := by
  unfold rng
  rw [List.mem_map]
  constructor
  · rintro ⟨i, hi, rfl⟩; have := List.mem_range.1 hi; omega
  · rintro ⟨h1, h2⟩; exact ⟨(x - a).toNat, List.mem_range.2 (by omega), by omega⟩
theorem rng_len (a b : Int) : (rng a b).length = (b - a).toNat := by unfold rng; rw [List.length_map, List.length_range]
theorem rng_at {a b : Int} {k : Nat} (h : k < (b - a).toNat) : (rng a b)[k]? = some (a + (k : Int)) := by
  unfold rng
  rw [List.getElem?_map, List.getElem?_range h]; rfl
theorem asc_rng (a b : Int) : Asc (rng a b) := by
  unfold Asc rng
  rw [List.pairwise_map]
  exact List.pairwise_lt_range.imp fun h => by omega
def slots : List Int → List Int
  | a :: b :: r => rng a b ++ slots r
  | _ => []
theorem slots_two (a b : Int) (r : List Int) : slots (a :: b :: r) = rng a b ++ slots r := by rw [slots]
theorem slots_ge : ∀ {b : List Int} {t : Int}, Asc b → (∀ y ∈ b, t ≤ y) → ∀ x ∈ slots b, t ≤ x
  | [], _, _, _, x, h => by simp [slots] at h
  | [_], _, _, _, x, h => by simp [slots] at h
  | a :: c :: r, t, hb, ht, x, h => by
    rw [slots_two] at h
    have h2 := List.pairwise_cons.1 hb
    have h3 := List.pairwise_cons.1 h2.2
    rcases List.mem_append.1 h with h | h
    · have := mem_rng.1 h; have := ht a (by simp); omega
    · exact slots_ge h3.2 (fun y hy => ht y (by simp [hy])) x h
theorem mem_slots : ∀ {b : List Int} {x : Int}, Asc b → b.length % 2 = 0 → (x ∈ slots b ↔ has b x = true)
  | [], x, _, _ => by simp [slots, has, cl, odd]
  | [a], x, _, h => by simp at h
  | a :: c :: r, x, hb, hl => by
    have h2 := List.pairwise_cons.1 hb
    have h3 := List.pairwise_cons.1 h2.2
    have hac := h2.1 c (by simp)
    have hr : ∀ y ∈ r, c < y := h3.1
    rw [slots_two, List.mem_append, mem_rng, mem_slots h3.2 (by simp only [List.length_cons] at hl; omega)]
    unfold has
    rw [cl_cons, cl_cons]
    by_cases h4 : a ≤ x
    · by_cases h5 : c ≤ x
      · rw [if_pos h4, if_pos h5, show 1 + (1 + cl r x) = cl r x + 2 by omega, odd_two]
        constructor
        · rintro (h | h)
          · omega
          · exact h
        · exact .inr
      · rw [if_pos h4, if_neg h5, cl_none fun y hy => by have := hr y hy; omega]
        constructor
        · intro _; rfl
        · intro _; exact .inl (by omega)
    · rw [if_neg h4, if_neg (by omega), cl_none fun y hy => by have := hr y hy; omega]
      constructor
      · rintro (h | h)
        · omega
        · cases h
      · intro h; cases h
theorem asc_append {a b : List Int} (ha : Asc a) (hb : Asc b) (h : ∀ x ∈ a, ∀ y ∈ b, x < y) : Asc (a ++ b) := List.pairwise_append.2 ⟨ha, hb, h⟩
theorem asc_slots : ∀ {b : List Int}, Asc b → Asc (slots b)
  | [], _ => by simp [slots, Asc]
  | [_], _ => by simp [slots, Asc]
  | a :: c :: r, hb => by
    have h2 := List.pairwise_cons.1 hb
    have h3 := List.pairwise_cons.1 h2.2
    rw [slots_two]
    refine asc_append (asc_rng _ _) (asc_slots h3.2) fun x hx y hy => ?_
    have h4 := mem_rng.1 hx
    have h5 := slots_ge (t := c) h3.2 (fun z hz => Int.le_of_lt (h3.1 z hz)) y hy
    omega
theorem mem_ext : ∀ {a b : List Int}, Asc a → Asc b → (∀ x, x ∈ a ↔ x ∈ b) → a = b
  | [], [], _, _, _ => rfl
  | [], y :: b, _, _, h => by have := (h y).2 (by simp); simp at this
  | y :: a, [], _, _, h => by have := (h y).1 (by simp); simp at this
  | x :: a, y :: b, ha, hb, h => by
    have h2 := List.pairwise_cons.1 ha
    have h3 := List.pairwise_cons.1 hb
    have hxy : x = y := by
      have h4 := List.mem_cons.1 ((h x).1 (by simp))
      have h5 := List.mem_cons.1 ((h y).2 (by simp))
      rcases h4 with h4 | h4
      · exact h4
      · rcases h5 with h5 | h5
        · exact h5.symm
        · have := h3.1 x h4; have := h2.1 y h5; omega
    subst hxy
    rw [mem_ext h2.2 h3.2 fun z => by
      constructor
      · intro hz
        rcases List.mem_cons.1 ((h z).1 (by simp [hz])) with e | h
        · have := h2.1 z hz; omega
        · exact h
      · intro hz
        rcases List.mem_cons.1 ((h z).2 (by simp [hz])) with e | h
        · have := h3.1 z hz; omega
        · exact h]
theorem slots_eq {b : List Int} (h : Ok b) : slots b = (rng 0 4096).filter (has b) := by
  refine mem_ext (asc_slots h.1) ((asc_rng _ _).sublist List.filter_sublist) fun x => ?_
  rw [mem_slots h.1 h.2.2, List.mem_filter, mem_rng]
  constructor
  · intro hx
    refine ⟨Decidable.byContradiction fun hn => ?_, hx⟩
    rw [has_out h hn] at hx; cases hx
  · exact fun hx => hx.2
theorem slots_in {b : List Int} (h : Ok b) {x : Int} (hx : x ∈ slots b) : 0 ≤ x ∧ x < 4096 := by
  rw [slots_eq h] at hx
  exact mem_rng.1 (List.mem_filter.1 hx).1
theorem slots_len {b : List Int} (h : Ok b) : (slots b).length ≤ 4096 := by
  rw [slots_eq h]
  have := List.length_filter_le (has b) (rng 0 4096)
  rw [rng_len] at this
  exact this
def rk (b : List Int) (x : Int) : Nat := (slots b).countP fun y => decide (y < x)
theorem count_rng {a b x : Int} (h : a ≤ x) (h2 : x ≤ b) : (rng a b).countP (fun y => decide (y < x)) = (x - a).toNat := by
  have h1 : rng a b = rng a x ++ rng x b := by
    refine mem_ext (asc_rng _ _) (asc_append (asc_rng _ _) (asc_rng _ _) fun y hy z hz => ?_) fun y => ?_
    · have := mem_rng.1 hy; have := mem_rng.1 hz; omega
    · rw [List.mem_append, mem_rng, mem_rng, mem_rng]; omega
  have e1 : (rng a x).countP (fun y => decide (y < x)) = (rng a x).length := List.countP_eq_length.2 fun y hy => by have := mem_rng.1 hy; simp; omega
  have e2 : (rng x b).countP (fun y => decide (y < x)) = 0 := List.countP_eq_zero.2 fun y hy => by have := mem_rng.1 hy; simp; omega
  rw [h1, List.countP_append, e1, e2, rng_len]; rfl
theorem rk_zero {r : List Int} {x : Int} (hr : Asc r) (h : ∀ y ∈ r, x ≤ y) : rk r x = 0 := by
  unfold rk
  rw [List.countP_eq_zero]
  intro y hy
  have := slots_ge (t := x) hr h y hy
  simp; omega
theorem rank_cl : ∀ {b : List Int} {x : Int}, Asc b → b.length % 2 = 0 → (odd (cl b x) = false → (slots (b.take (cl b x))).length = rk b x) ∧ (odd (cl b x) = true → ∃ y, b[cl b x - 1]? = some y ∧ 1 ≤ cl b x ∧ y ≤ x ∧ ((slots (b.take (cl b x - 1))).length : Int) + x - y = rk b x)
  | [], x, _, _ => by simp [slots, cl, odd, rk]
  | [a], x, _, h => by simp at h
  | a :: c :: r, x, hb, hl => by
    have h2 := List.pairwise_cons.1 hb
    have h3 := List.pairwise_cons.1 h2.2
    have hac := h2.1 c (by simp)
    have hr : ∀ y ∈ r, c < y := h3.1
    have ih := rank_cl (x := x) h3.2 (by simp only [List.length_cons] at hl; omega)
    have hrk : rk (a :: c :: r) x = (rng a c).countP (fun y => decide (y < x)) + rk r x := by unfold rk; rw [slots_two, List.countP_append]
    rw [hrk, cl_cons, cl_cons]
    by_cases h4 : a ≤ x
    · by_cases h5 : c ≤ x
      · have e1 : (rng a c).countP (fun y => decide (y < x)) = (c - a).toNat := by
          rw [← rng_len, List.countP_eq_length]; intro y hy; have := mem_rng.1 hy; simp; omega
        rw [if_pos h4, if_pos h5, show 1 + (1 + cl r x) = cl r x + 2 by omega, odd_two, e1]
        refine ⟨fun ho => ?_, fun ho => ?_⟩
        · rw [List.take_succ_cons, List.take_succ_cons, slots_two, List.length_append, rng_len, ih.1 ho]
        · obtain ⟨y, hy, h1, hyx, e⟩ := ih.2 ho
          refine ⟨y, ?_, by omega, hyx, ?_⟩
          · rw [show cl r x + 2 - 1 = (cl r x - 1) + 2 by omega, List.getElem?_cons_succ, List.getElem?_cons_succ]; exact hy
          · rw [show cl r x + 2 - 1 = (cl r x - 1) + 1 + 1 by omega, List.take_succ_cons, List.take_succ_cons, slots_two, List.length_append, rng_len]
            omega
      · rw [if_pos h4, if_neg h5, cl_none fun y hy => by have := hr y hy; omega, count_rng h4 (by omega), rk_zero h3.2 fun y hy => by have := hr y hy; omega]
        refine ⟨(fun ho => absurd ho (by decide)), fun _ => ⟨a, rfl, by omega, h4, ?_⟩⟩
        simp [slots]; omega
    · have e1 : (rng a c).countP (fun y => decide (y < x)) = 0 := by
        rw [List.countP_eq_zero]; intro y hy; have := mem_rng.1 hy; simp; omega
      rw [if_neg h4, if_neg (by omega), cl_none fun y hy => by have := hr y hy; omega, e1, rk_zero h3.2 fun y hy => by have := hr y hy; omega]
      exact ⟨fun _ => by simp [slots], fun ho => by cases ho⟩
def sel (b : List Int) (n : Int) : Int := if n < 0 then -1 else (slots b)[n.toNat]?.getD (-1)
theorem sel_nil (n : Int) : sel [] n = -1 := by unfold sel; split <;> simp [slots]
theorem sel_here {a c n : Int} {r : List Int} (h0 : 0 ≤ n) (h : n < c - a) : sel (a :: c :: r) n = a + n := by
  unfold sel
  rw [if_neg (by omega), slots_two, List.getElem?_append_left (by rw [rng_len]; omega), rng_at (by omega)]
  simp; omega
theorem sel_next {a c n : Int} {r : List Int} (h0 : 0 ≤ n) (hac : a < c) (h : ¬ n < c - a) : sel (a :: c :: r) n = sel r (n - (c - a)) := by
  unfold sel
  rw [if_neg (by omega), if_neg (by omega), slots_two, List.getElem?_append_right (by rw [rng_len]; omega), rng_len, show n.toNat - (c - a).toNat = (n - (c - a)).toNat by omega]
def dif (t : Int) : List Int → List Int
  | [] => []
  | x :: r => (x - t) :: dif x r
def sm (t : Int) : List Int → List Int
  | [] => []
  | x :: r => (t + x) :: sm (t + x) r
theorem sm_dif : ∀ {b : List Int} {t : Int}, sm t (dif t b) = b
  | [], _ => rfl
  | x :: r, t => by simp only [dif, sm]; rw [show t + (x - t) = x by omega, sm_dif]
theorem dif_sm : ∀ {b : List Int} {t : Int}, dif t (sm t b) = b
  | [], _ => rfl
  | x :: r, t => by simp only [dif, sm]; rw [show t + x - t = x by omega, dif_sm]
theorem dif_len : ∀ (b : List Int) (t : Int), (dif t b).length = b.length
  | [], _ => rfl
  | x :: r, t => by simp [dif, dif_len]
theorem sm_len : ∀ (b : List Int) (t : Int), (sm t b).length = b.length
  | [], _ => rfl
  | x :: r, t => by simp [sm, sm_len]
theorem dif_in : ∀ {b : List Int} {t : Int}, Asc b → (∀ x ∈ b, t ≤ x ∧ x ≤ 4096) → 0 ≤ t → ∀ y ∈ dif t b, 0 ≤ y ∧ y ≤ 4096
  | [], _, _, _, _, y, h => by simp [dif] at h
  | x :: r, t, hb, hx, h0, y, h => by
    simp only [dif, List.mem_cons] at h
    have h1 := hx x (by simp)
    rcases h with rfl | h
    · omega
    · exact dif_in (List.pairwise_cons.1 hb).2 (fun z hz => ⟨Int.le_of_lt ((List.pairwise_cons.1 hb).1 z hz), (hx z (by simp [hz])).2⟩) (by omega) y h
def steps (N : List Int) : Bool := N.all fun s => decide (0 ≤ s ∧ s ≤ 4096)
def wr (x : Int) : Int := (x + 9223372036854775808) % 18446744073709551616 - 9223372036854775808
def wsm (t : Int) : List Int → List Int
  | [] => []
  | x :: r => wr (t + x) :: wsm (wr (t + x)) r
theorem wr_id {x : Int} (h : -9223372036854775808 ≤ x ∧ x ≤ 9223372036854775807) : wr x = x := by unfold wr; omega
theorem wsm_ok : ∀ {N : List Int} {t : Int}, (∀ x ∈ N, -9223372036854775808 ≤ x ∧ x ≤ 9223372036854775807) → -1 ≤ t → t ≤ 4096 → (Asc (wsm t N)) → (∀ y ∈ wsm t N, t ≤ y ∧ 0 ≤ y ∧ y ≤ 4096) → wsm t N = sm t N ∧ steps N = true ∨ (t = -1)
  | [], _, _, _, _, _, _ => .inl ⟨rfl, rfl⟩
  | x :: r, t, hN, ht, ht2, ha, hy => by
    by_cases e : t = -1
    · exact .inr e
    · have h1 := hy (wr (t + x)) (by simp [wsm])
      have hx := hN x (by simp)
      have h2 : wr (t + x) = t + x := by unfold wr at h1 ⊢; omega
      have h3 : wsm t (x :: r) = wr (t + x) :: wsm (wr (t + x)) r := rfl
      rw [h3] at ha hy ⊢
      rw [h2] at ha hy h1 ⊢
      have h4 := List.pairwise_cons.1 ha
      have ih := wsm_ok (N := r) (t := t + x) (fun z hz => hN z (by simp [hz])) (by omega) (by omega) h4.2 (fun y hyy => by
        have := h4.1 y hyy; have := hy y (by simp [hyy]); omega)
      rcases ih with ⟨i1, i2⟩ | i
      · refine .inl ⟨by rw [i1]; rfl, ?_⟩
        unfold steps at i2 ⊢
        rw [List.all_cons, i2, Bool.and_true, decide_eq_true_eq]; omega
      · omega
theorem wsm_sm : ∀ {N : List Int} {t : Int}, 0 ≤ t → t + 4096 * (N.length : Int) ≤ 1000000000000 → steps N = true → wsm t N = sm t N
  | [], _, _, _, _ => rfl
  | x :: r, t, h0, hl, hs => by
    unfold steps at hs
    rw [List.all_cons, Bool.and_eq_true, decide_eq_true_eq] at hs
    rw [List.length_cons] at hl
    have h2 : wr (t + x) = t + x := wr_id (by omega)
    show wr (t + x) :: wsm (wr (t + x)) r = (t + x) :: sm (t + x) r
    rw [h2, wsm_sm (by omega) (by omega) hs.2]
theorem vs_wsm {N : List Int} (hN : ∀ x ∈ N, -9223372036854775808 ≤ x ∧ x ≤ 9223372036854775807) (hl : N.length ≤ 100000000) : (vs (wsm 0 N) = true ↔ steps N = true ∧ vs (sm 0 N) = true) ∧ (steps N = true → wsm 0 N = sm 0 N) := by
  have h2 : steps N = true → wsm 0 N = sm 0 N := fun h => wsm_sm (by omega) (by omega) h
  refine ⟨⟨fun h => ?_, fun h => ?_⟩, h2⟩
  · have h1 := vs_iff.1 h
    rcases wsm_ok (t := 0) hN (by omega) (by omega) h1.1 (fun y hy => by have := h1.2.1 y hy; omega) with h3 | h3
    · exact ⟨h3.2, by rw [← h3.1]; exact h⟩
    · omega
  · rw [h2 h.1]; exact h.2
/-- one slot more behind all -/
theorem of_grow {b : List Int} {v : Int} (he : b.length % 2 = 0) (hv : ∀ y ∈ b, y < v) (x : Int) : has (b ++ [v, v + 1]) x = (has b x || decide (x = v)) := by
  unfold has
  rw [cl_append, cl_cons, cl_cons]
  have h0 : cl [] x = 0 := rfl
  rw [h0]
  by_cases h1 : v ≤ x
  · rw [cl_all fun y hy => by have := hv y hy; omega]
    have ho := odd_false.2 he
    by_cases h2 : v + 1 ≤ x
    · rw [if_pos h1, if_pos h2, odd_two, ho, decide_eq_false (by omega)]; rfl
    · rw [if_pos h1, if_neg h2, odd_succ, ho, decide_eq_true (by omega)]; rfl
  · rw [if_neg h1, if_neg (by omega), decide_eq_false (by omega)]; simp
theorem of_last {d : List Int} {v : Int} (ha : Asc (d ++ [v])) (he : (d ++ [v]).length % 2 = 0) (x : Int) : has (d ++ [v + 1]) x = (has (d ++ [v]) x || decide (x = v)) := by
  have hd : ∀ y ∈ d, y < v := fun y hy => (List.pairwise_append.1 ha).2.2 y hy v (by simp)
  unfold has
  rw [cl_append, cl_append, cl_cons, cl_cons]
  have h0 : cl [] x = 0 := rfl
  rw [h0]
  rw [List.length_append, List.length_singleton] at he
  by_cases h1 : v ≤ x
  · rw [cl_all fun y hy => by have := hd y hy; omega]
    have ho : odd (d.length + 1) = false := odd_false.2 he
    have ho2 : odd d.length = true := by rw [odd_succ] at ho; simpa using ho
    by_cases h2 : v + 1 ≤ x
    · rw [if_pos h1, if_pos h2, ho, decide_eq_false (by omega)]; rfl
    · rw [if_pos h1, if_neg h2, decide_eq_true (by omega), ho]; simpa using ho2
  · rw [if_neg h1, if_neg (by omega), decide_eq_false (by omega)]; simp
/-- what Of keeps -/
def Oi (s : List Int) (k : Nat) (b : List Int) : Prop := Asc b ∧ (∀ y ∈ b, 0 ≤ y ∧ y ≤ 4096) ∧ b.length % 2 = 0 ∧ (∀ x, has b x = true ↔ x ∈ s.take k) ∧ ∀ v ∈ s.drop k, ∀ y ∈ b, y ≤ v
theorem oi_start (s : List Int) : Oi s 0 [] := ⟨List.Pairwise.nil, by simp, rfl, fun x => by simp [has, cl, odd], by simp⟩
theorem take_snoc {s : List Int} {k : Nat} {v : Int} (hv : s[k]? = some v) : s.take (k + 1) = s.take k ++ [v] := by
  rw [List.take_add_one, hv]; rfl
theorem drop_cons_at {s : List Int} {k : Nat} {v : Int} (hv : s[k]? = some v) : s.drop k = v :: s.drop (k + 1) := by
  obtain ⟨h, rfl⟩ := List.getElem?_eq_some_iff.1 hv
  exact List.drop_eq_getElem_cons h
theorem asc_later {s : List Int} {k : Nat} {v : Int} (hs : Asc s) (hv : s[k]? = some v) : ∀ z ∈ s.drop (k + 1), v < z := fun z hz => by
  have h : Asc (s.drop k) := hs.sublist (List.drop_sublist _ _)
  rw [drop_cons_at hv] at h
  exact (List.pairwise_cons.1 h).1 z hz
theorem oi_grow {s b : List Int} {k : Nat} {v : Int} (hs : Asc s) (hin : ∀ x ∈ s, 0 ≤ x ∧ x < 4096) (h : Oi s k b) (hv : s[k]? = some v) (hl : ∀ y ∈ b, y ≠ v) : Oi s (k + 1) (b ++ [v, v + 1]) := by
  obtain ⟨h1, h2, h3, h4, h5⟩ := h
  have hvi := hin v (List.mem_of_getElem? hv)
  have hlt : ∀ y ∈ b, y < v := fun y hy => by have := h5 v (by rw [drop_cons_at hv]; simp) y hy; have := hl y hy; omega
  refine ⟨asc_append h1 (by simp [Asc]; omega) fun x hx y hy => ?_, fun y hy => ?_, by simp; omega, fun x => ?_, fun z hz y hy => ?_⟩
  · have := hlt x hx; simp at hy; omega
  · rcases List.mem_append.1 hy with hy | hy
    · exact h2 y hy
    · simp at hy; omega
  · rw [of_grow h3 hlt, take_snoc hv, List.mem_append, List.mem_singleton, Bool.or_eq_true, h4, decide_eq_true_eq]
  · have := asc_later hs hv z hz
    rcases List.mem_append.1 hy with hy | hy
    · have := hlt y hy; omega
    · simp at hy; omega
theorem oi_last {s d : List Int} {k : Nat} {v : Int} (hs : Asc s) (hin : ∀ x ∈ s, 0 ≤ x ∧ x < 4096) (h : Oi s k (d ++ [v])) (hv : s[k]? = some v) : Oi s (k + 1) (d ++ [v + 1]) := by
  obtain ⟨h1, h2, h3, h4, h5⟩ := h
  have hvi := hin v (List.mem_of_getElem? hv)
  have hd : ∀ y ∈ d, y < v := fun y hy => (List.pairwise_append.1 h1).2.2 y hy v (by simp)
  refine ⟨asc_append (h1.sublist (List.sublist_append_left _ _)) (by simp [Asc]) fun x hx y hy => ?_, fun y hy => ?_, by simp at h3 ⊢; omega, fun x => ?_, fun z hz y hy => ?_⟩
  · have := hd x hx; simp at hy; omega
  · rcases List.mem_append.1 hy with hy | hy
    · exact h2 y (by simp [hy])
    · simp at hy; omega
  · rw [of_last h1 h3, take_snoc hv, List.mem_append, List.mem_singleton, Bool.or_eq_true, h4, decide_eq_true_eq]
  · have := asc_later hs hv z hz
    rcases List.mem_append.1 hy with hy | hy
    · have := hd y hy; omega
    · simp at hy; omega
theorem oi_end {s b : List Int} (h : Oi s s.length b) : Ok b ∧ ∀ x, has b x = true ↔ x ∈ s := by
  obtain ⟨h1, h2, h3, h4, _⟩ := h
  rw [List.take_length] at h4
  exact ⟨⟨h1, h2, h3⟩, h4⟩
/-- what the reference's Bits keeps -/
def Bi (l : List Bool) (k : Nat) (d : List Int) : Prop := Asc d ∧ (∀ y ∈ d, 0 ≤ y ∧ y < (k : Int)) ∧ (∀ (x : Nat), x < k → has d (x : Int) = (l[x]?).getD false) ∧ odd d.length = (if k = 0 then false else (l[k - 1]?).getD false)
theorem bi_start (l : List Bool) : Bi l 0 [] := ⟨List.Pairwise.nil, by simp, by omega, rfl⟩
theorem bi_step {l : List Bool} {k : Nat} {d : List Int} {v : Bool} (h : Bi l k d) (hv : l[k]? = some v) : Bi l (k + 1) (if v ≠ odd d.length then d ++ [(k : Int)] else d) := by
  obtain ⟨h1, h2, h3, h4⟩ := h
  refine ⟨?_, ?_, ?_, ?_⟩
  · split
    · exact asc_snoc h1 fun x hx => (h2 x hx).2
    · exact h1
  · intro y hy
    split at hy
    · rcases List.mem_append.1 hy with hy | hy
      · have := h2 y hy; omega
      · simp at hy; omega
    · have := h2 y hy; omega
  · intro x hx
    by_cases e : x = k
    · subst e
      rw [hv]
      unfold has
      split
      case isTrue hne =>
        rw [cl_all fun y hy => by
          rcases List.mem_append.1 hy with hy | hy
          · have := h2 y hy; omega
          · simp at hy; omega]
        rw [List.length_append, List.length_singleton, odd_succ]
        revert hne
        cases v <;> cases odd d.length <;> simp
      case isFalse hne =>
        rw [cl_all fun y hy => by have := h2 y hy; omega]
        exact (Decidable.not_not.1 hne).symm
    · rw [← h3 x (by omega)]
      split
      · unfold has
        rw [cl_append, show cl [(k : Int)] (x : Int) = 0 from cl_none fun y hy => by simp at hy; omega, Nat.add_zero]
      · rfl
  · rw [if_neg (Nat.succ_ne_zero k), Nat.add_sub_cancel, hv]
    show odd (List.length _) = v
    by_cases hne : v ≠ odd d.length
    · rw [if_pos hne, List.length_append, List.length_singleton, odd_succ]
      revert hne
      cases v <;> cases odd d.length <;> simp
    · rw [if_neg hne]
      exact (Decidable.not_not.1 hne).symm
theorem bi_end {l : List Bool} {d : List Int} (h : Bi l l.length d) (h4 : l.length = 4096) : Ok (if odd d.length then d ++ [4096] else d) ∧ ∀ x : Nat, x < 4096 → has (if odd d.length then d ++ [4096] else d) (x : Int) = (l[x]?).getD false := by
  obtain ⟨h1, h2, h3, _⟩ := h
  rw [h4] at h2 h3
  refine ⟨⟨?_, ?_, ?_⟩, ?_⟩
  · split
    · exact asc_snoc h1 fun x hx => (h2 x hx).2
    · exact h1
  · intro y hy
    split at hy
    · rcases List.mem_append.1 hy with hy | hy
      · have := h2 y hy; omega
      · simp at hy; omega
    · have := h2 y hy; omega
  · split
    case isTrue ho => rw [List.length_append, List.length_singleton]; have := odd_iff.1 ho; omega
    case isFalse ho => exact odd_false.1 (by simpa using ho)
  · intro x hx
    rw [← h3 x hx]
    split
    · unfold has
      rw [cl_append, show cl [(4096 : Int)] (x : Int) = 0 from cl_none fun y hy => by simp at hy; omega, Nat.add_zero]
    · rfl
end Go.Proofs.Ytieipbobijnmlaa.tq
