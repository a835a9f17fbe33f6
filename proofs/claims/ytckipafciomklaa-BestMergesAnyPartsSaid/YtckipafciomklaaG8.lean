/- Joined: RInt REnc Qv Uq Us Ha. -/
import Derived.Test.YtckipafciomklaaG7

namespace Go.Proofs.Ytckipafciomklaa.wi

open Go.ChangeShapes Go.WideShapes Go.ChangeAt Go.RowKit

set_option linter.unusedVariables false

set_option maxRecDepth 100000 in
set_option maxHeartbeats 2000000 in
theorem refInt_out (n : Int) (w : World) (h0 : -9223372036854775808 ≤ n) (h1 : n ≤ 9223372036854775807) :
    Calls Try.prog 74 #[.int .i64 n] w (OutB (wp.encI n) w) := by
  obtain ⟨i0, hi, hz0, hz1, hz2⟩ := info_parts info5
  have hlen := wp.encI_length h0 h1
  have hz : Lib.zigzag n < 18446744073709551616 := Lib.zigzag_lt h0 h1
  have HE : Hid (wp.encI n = Lib.uvarint (Lib.zigzag n)) := rfl
  rw [HE.out] at hlen
  have hzz : (n < 0 ∧ Hid (((-1 - n) * 2 + 1 : Int) = (Lib.zigzag n : Nat))) ∨ (0 ≤ n ∧ Hid ((n * 2 : Int) = (Lib.zigzag n : Nat))) := by
    rcases Int.lt_or_le n 0 with h | h
    · refine .inl ⟨h, ?_⟩; show _ = _; unfold Lib.zigzag; rw [if_neg (by omega)]; omega
    · refine .inr ⟨h, ?_⟩; show _ = _; unfold Lib.zigzag; rw [if_pos h]; omega
  generalize hgq : Lib.zigzag n = q0 at *
  have HQ := Lib.hid hgq
  clear hgq
  rcases hzz with ⟨hn, HZ⟩ | ⟨hn, HZ⟩
  all_goals
    go_enter Try.func74, Try.ntmps74
    go_wp2_with fail
    go_loopw [3, 4] (fun z v wr => ∃ (q m : Nat) (ys : List Value), z = .int .u64 (q : Int) ∧ q ≤ q0 ∧ ys ++ wp.bc (Lib.uvarint q) = wp.bc (Lib.uvarint q0) ∧ m + (Lib.uvarint q).length = (Lib.uvarint q0).length ∧ wr.ownsRow w.heap.size 5 1 v m ys ∧ Below w.heap.size w wr) (fun z _ _ => (intOf z).toNat)
    case atStart => exact ⟨q0, 0, [], by rw [← HZ.out], Nat.le_refl _, rfl, by omega, World.ownsRow_nil _ _ _ _, Below.refl _ _⟩
    case round =>
      obtain ⟨q, m, ys, rfl, hq, hys, hm, hown1, hbel⟩ := hrel
      have HYS := Lib.hid hys
      have HM := Lib.hid hm
      clear hm hys
      by_cases hlt : q < 128
      · have hU : (Lib.uvarint q).length = 1 := by rw [Lib.uvarint_small hlt]; rfl
        have HU := Lib.hid (wp.uv_small hlt)
        have hkm : m + 1 = (Lib.uvarint q0).length := by have := HM.out; omega
        have hkm' : m + 1 ≤ 140737488355328 := by omega
        clear hz h0 h1 hU hlen hn
        have HKM := Lib.hid hkm
        clear hkm
        go_wp2_with (at_builtin; refine wpList_append_own _ rfl _ _ 39 rfl w.heap.size 5 i0 (.int .u8 0) 1 1 Try.underlying39 hi hz0 hz1 hz2 rfl (by decide) _ _ _ rfl (hown1.alloc _) ⟨wr.heap.size, 0, none⟩ 1 1 [.int .u8 (q : Int)] rfl rfl ?c1 ?c2 ?c3 ?c4 ?c5 ?_)
        case c1 => exact cell_one_new _ _ _
        case c2 => simp [Value.oneCell']
        case c3 => unfold maxLen; omega
        case c4 => omega
        case c5 => have := hbel.size; simp; omega
        intro v' w1 hown' hgrow _
        go_wp2
        go_ret
        refine ⟨v', rfl, ?_, ?_⟩
        · rw [HE.out, ← HKM.out, ← HYS.out, HU.out]; exact hown'
        · exact (hbel.alloc (by have := hbel.size; omega) _).grown hgrow (by have := hbel.size; simp; omega) (fun g hg => (hown1.lt g hg).1)
      · have hU : (Lib.uvarint q).length = (Lib.uvarint (q / 128)).length + 1 := by rw [Lib.uvarint_big (by omega)]; rfl
        have HU := Lib.hid (wp.uv_big (q := q) (by omega))
        have hu1 : 1 ≤ (Lib.uvarint (q / 128)).length := Lib.uvarint_pos _
        have hkm' : m + 2 ≤ 140737488355328 := by have := HM.out; omega
        have HM' : Hid (m + 1 + (Lib.uvarint (q / 128)).length = (Lib.uvarint q0).length) := by have := HM.out; show _ = _; omega
        have hq64 : (q : Int) ≤ 18446744073709551615 := by omega
        clear hz h0 h1 hlen hu1 HM hU hn
        go_wp2_with (at_builtin; refine wpList_append_own _ rfl _ _ 39 rfl w.heap.size 5 i0 (.int .u8 0) 1 1 Try.underlying39 hi hz0 hz1 hz2 rfl (by decide) _ _ _ rfl (hown1.alloc _) ⟨wr.heap.size, 0, none⟩ 1 1 [.int .u8 ((q : Int) % 128 + 128)] rfl rfl ?c1 ?c2 ?c3 ?c4 ?c5 ?_)
        case c1 => exact cell_one_new _ _ _
        case c2 => simp [Value.oneCell']
        case c3 => unfold maxLen; omega
        case c4 => omega
        case c5 => have := hbel.size; simp; omega
        intro v' w1 hown' hgrow _
        go_wp2
        go_roundw
        case rel =>
          refine ⟨q / 128, m + 1, ys ++ [.int .u8 ((q : Int) % 128 + 128)], by simp, by omega, ?_, HM'.out, ?_, ?_⟩
          · rw [← HYS.out, HU.out, List.append_assoc]; rfl
          · exact hown'
          · exact (hbel.alloc (by have := hbel.size; omega) _).grown hgrow (by have := hbel.size; simp; omega) (fun g hg => (hown1.lt g hg).1)
        case measure => simp [intOf]; omega
end Go.Proofs.Ytckipafciomklaa.wi

namespace Go.Proofs.Ytckipafciomklaa.wi

open Go.ChangeShapes Go.WideShapes Go.ChangeAt Go.RowKit

set_option linter.unusedVariables false
set_option maxRecDepth 100000 in
set_option maxHeartbeats 1000000 in
theorem refInts_out (A : Option Addr) (n c : Nat) (l : List Int) (w : World) (hn : l.length = n) (hnc : n ≤ c) (hc : c ≤ 9223372036854775807)
    (hl : wp.RC w A (l.map (Value.int .i64))) (hwf : ∀ x ∈ l, -9223372036854775808 ≤ x ∧ x ≤ 9223372036854775807) (htot : (wp.encIs l).length + 10 ≤ 140737488355328) :
    Calls Try.prog 54 #[.slice A n c] w (OutB (wp.encIs l) w) := by
  obtain ⟨i0, hi, hz0, hz1, hz2⟩ := info_parts info5
  have HL := Lib.hid hl
  have HN := Lib.hid hn
  have HT := Lib.hid htot
  have HW := Lib.hid hwf
  clear hwf
  clear hl hn htot
  have hint : ∀ (n : Nat) (w : World), n ≤ 9223372036854775807 → Calls Try.prog 74 #[.int .i64 (n : Int)] w (OutB (wp.encI (n : Int)) w) := fun n w h => refInt_out (n : Int) w (by omega) (by omega)
  have HI := Lib.hid hint
  clear hint
  go_enter Try.func54, Try.ntmps54
  go_wp2_with fail
  refine (HI.out n w (by omega)).mono ?_
  rintro e w1 ⟨v1, rfl, hown1, hbel1⟩
  go_wp2_with fail
  generalize hB : w.heap.size = B at *
  have HB := Lib.hid hB
  clear hB
  go_loopg [3, 4] n (fun g v x wr => ∃ k : Nat, k + g = n ∧ x = .int .i64 (k : Int) ∧ wr.ownsRow B 5 1 v ((wp.encI (n : Int)).length + ((l.take k).flatMap wp.encI).length) (wp.bc (wp.encI (n : Int)) ++ wp.bc ((l.take k).flatMap wp.encI)) ∧ Below B w wr)
  case atStart => exact ⟨0, by omega, rfl, by simpa [wp.bc] using hown1, hbel1⟩
  case round =>
    obtain ⟨k, hk, rfl, hown, hbel⟩ := hrel
    have HK := Lib.hid hk
    have hkn : k ≤ n := by omega
    have HBW : Hid (B ≤ wr.heap.size) := by have := hbel.size; have := HB.out; show _ ≤ _; omega
    clear hk hown1 hbel1
    by_cases hlt : k < n
    · have hkl : k < l.length := by have := HN.out; omega
      have hlk : l[k]? = some l[k] := List.getElem?_eq_getElem hkl
      obtain ⟨b, o, rfl, hbw, hcell⟩ := HL.out (by simp; omega)
      have hck : wr.cell? ⟨b, o + k, none⟩ = some (.int .i64 l[k]) := by
        rw [hbel.cell (p := ⟨b, o + k, none⟩) (by rw [← HB.out]; exact hbw)]
        exact hcell k _ (by simp [hlk])
      have HX := Lib.hid (HW.out l[k] (List.getElem_mem hkl))
      have HS := Lib.hid (wp.flat_snoc wp.encI hlk)
      have hfl := wp.flat_le wp.encI l (k + 1)
      rw [HS.out, List.length_append] at hfl
      have htt := HT.out
      unfold wp.encIs at htt
      rw [List.length_append, HN.out] at htt
      have HFL : Hid ((wp.encI (n : Int)).length + ((l.take k).flatMap wp.encI).length + (wp.encI l[k]).length ≤ 140737488355318) := by show _ ≤ _; omega
      clear hcell hlk hfl htt
      generalize l[k] = x at *
      generalize (l.take k).flatMap wp.encI = Pk at *
      go_wp2_with fail
      refine (refInt_out x wr HX.out.1 HX.out.2).mono ?_
      rintro e w2 ⟨v2, rfl, hown2, hbel2⟩
      obtain ⟨A2, c2, rfl, hc21, _, hR2⟩ := wp.RC.of_own hown2
      have hpos : 1 ≤ (wp.encI x).length := wp.encI_pos x
      obtain ⟨b2, o2, rfl, _, _⟩ := hR2.rb (by omega)
      have HR2 := Lib.hid (wk.RB.cells hR2.rb)
      have hownW := wk.ownsRow_below hown hbel2
      have HBW2 : Hid (B ≤ w2.heap.size) := by have := HBW.out; have := hbel2.size; show _ ≤ _; omega
      clear hown2 hR2 hpos
      go_wp2_with (at_builtin; refine wpList_append_own _ rfl _ _ 39 rfl B 5 i0 (.int .u8 0) 1 1 Try.underlying39 hi hz0 hz1 hz2 rfl (by decide) _ _ _ rfl hownW ⟨b2, o2, none⟩ _ _ (wp.bc (wp.encI x)) rfl ?c0 HR2.out wp.bc_one ?c3 ?c4 ?c5 ?_)
      case c0 => rw [wp.bc_length, Nat.mul_one]
      case c3 => have := HFL.out; unfold maxLen; omega
      case c4 => have := HFL.out; omega
      case c5 => exact HBW2.out
      intro v3 w3 hown3 hgrow _
      go_wp2_with fail
      go_roundg (gk - 1)
      case measure => have := HK.out; omega
      case rel =>
        refine ⟨k + 1, by have := HK.out; omega, by go_num, ?_, (hbel.trans (hbel2.mono HBW.out)).grown hgrow HBW2.out (fun q hq => (hownW.lt q hq).1)⟩
        rw [HS.out, wp.bc_append, List.length_append, ← Nat.add_assoc]
        exact hown3
    · go_wp2_with fail
      go_ret
      have hkl : k = l.length := by have := HN.out; omega
      refine ⟨_, rfl, ?_, by rw [HB.out]; exact hbel⟩
      unfold wp.encIs
      rw [HB.out, wp.bc_append, List.length_append, HN.out]
      have : l.take k = l := by rw [hkl]; exact List.take_length
      rw [this] at hown
      exact hown

end Go.Proofs.Ytckipafciomklaa.wi
/- VectorReadsBack: its walk. -/
namespace Go.Proofs.Ytckipafciomklaa.vq
theorem getL_enc {v : List Int} (h : ∀ x ∈ v, -9223372036854775808 ≤ x ∧ x ≤ 9223372036854775807) (hl : v.length ≤ 1000) : wp.getL wp.getI 1 (wp.encIs v) = (v, ((wp.encIs v).length : Int), 0) := by
  have := wp.getL_round (one := wp.getI) (enc := wp.encI) v 1 (by omega) (by omega) (fun x hx => wp.encI_pos x) (fun x hx t => wp.getI_encI (h x hx).1 (h x hx).2 t) []
  rw [List.append_nil] at this
  exact this
theorem dec_enc {v : List Int} (h : ∀ x ∈ v, -9223372036854775808 ≤ x ∧ x ≤ 9223372036854775807) (hl : v.length ≤ 1000) : dec (wp.encIs v) = if valid v then (v, 0) else ([], 40) := by
  rw [dec, getL_enc h hl]
  simp
theorem enc_dec (l : List UInt8) : ((dec l).2 = 0 ∧ wp.encIs (dec l).1 = l ∧ (dec l).1.length ≤ 32) ∨ ((dec l).2 ≠ 0 ∧ (dec l).1 = []) := by
  unfold dec
  split
  · rename_i h; exact .inr ⟨h, rfl⟩
  · rename_i h
    have h0 : (wp.getL wp.getI 1 l).2.2 = 0 := by omega
    split
    · exact .inr ⟨by simp, rfl⟩
    · rename_i h1
      split
      · rename_i h2
        have hc := wp.getL_canon (one := wp.getI) (enc := wp.encI) wp.getI_one 1 (by omega) l h0
        refine .inl ⟨rfl, ?_, (valid_iff.1 h2).le⟩
        have : l.take (wp.getL wp.getI 1 l).2.1.toNat = l := List.take_of_length_le (by omega)
        rw [this] at hc
        exact hc.1.symm
      · exact .inr ⟨by simp, rfl⟩
end Go.Proofs.Ytckipafciomklaa.vq

namespace Go.Proofs.Ytckipafciomklaa.vk

open Go.ChangeShapes Go.WideShapes Go.ChangeAt Go.RowKit
theorem isB_below {w w' : World} {A : Option Addr} {n c : Nat} {l : List UInt8} (h : wo.IsB w A n c l) (hb : Below w.heap.size w w') : wo.IsB w' A n c l := ⟨h.1, h.2.1, h.2.2.1, wk.RB.below h.2.2.2 hb⟩
theorem conv_b {w : World} {A : Option Addr} {n c : Nat} {l : List UInt8} (h : wo.IsB w A n c l) : (convert 39 9 (.slice A n c)).run Try.prog w = .ok (.string ⟨l.toArray⟩) w :=
  wk.conv_str (P := Try.prog) w 39 5 9 Try.underlying39 Try.underlying5 Try.underlying9 A n c _ h.1 h.2.2.2
theorem does_conv {P : Program} {Q : Exit → Act → World → Prop} {o : Oper} {E : Operand → Value} {w : World} {R : World → Value → Prop} {src dst : TypeId} {x : Operand} {V v : Value} (ho : o.op = .convert src dst x) (hx : E x = V) (hrun : (convert src dst V).run P w = .ok v w) (hR : R w v) : wk.Does P Q o E w R :=
  wk.does_run (v := v) (by unfold execOp; simp only [ho, hx]; rw [Sem.run_bind, hrun]; rfl) hR
end Go.Proofs.Ytckipafciomklaa.vk

namespace Go.Proofs.Ytckipafciomklaa.vectorReadsBack

open Go.ChangeShapes Go.WideShapes Go.ChangeAt Go.RowKit

open Go.Proofs.Ytckipafciomklaa.vk

set_option linter.unusedVariables false
end Go.Proofs.Ytckipafciomklaa.vectorReadsBack
/- A region that draws, in a round: slots that its head reads may be written by its tail. No program here. -/
namespace Go.Proofs.Ytckipafciomklaa.wk

open Go.RowKit

set_option linter.unusedVariables false

section

variable {P : Program} {ops : Array Oper} {Q : Exit → Act → World → Prop}
theorem region_tailK_in {id n : Nat} {a0 : Act} {w0 : World} (l : Nat) (hnd : noDefer ops = true) (hq : ¬ LetsOut Q) (k : Nat) (R : List SP) (ds : List (Option Tmp)) (hm : P.follows .mixedOrders = true) (hord : orderedB .any ops = true) (hap : apart ops a0.tmps.size = true) (hg : guardedS ops R k = true) (sk : List Nat) (hskl : skipped ops R k = sk) (hsk0 : ∀ p ∈ sk, R.getD p SP.any = .is undef) (hds : (List.range k).map (dstOf ops) = ds) (htl : tailed ops k = true)
    (hstep : ∀ i o, ops[i]? = some o → i < k → skips ops R i = false → ∀ E w, Below w0.drew.heap.size w0.drew w → Due ops R a0 o E w → (∀ s, unwK ops k s = true → E (.tmp s) = a0.eval (.tmp s)) → Does P Q o E w (R.getD i SP.any).has)
    (hdone : ∀ (vals : Nat → Value) w, Below w0.drew.heap.size w0.drew w → (∀ i, i < k → (R.getD i SP.any).has w (vals i)) → wpList P ops Q (ops.toList.drop k) { a0 with tmps := setL ds vals 0 a0.tmps } w) : (Code.region id ops true).wpIn (Fence.wide.inRound l) n P Q a0 w0 := by
  have hsk := skip_of hskl hsk0
  unfold tailed at htl
  simp only [Bool.and_eq_true, decide_eq_true_eq] at htl
  obtain ⟨⟨hkn, hcov⟩, hch⟩ := htl
  have hchain : ∀ i, k ≤ i → i + 1 < ops.size → waitsFor ops (i + 1) i = true := fun i h1 h2 => by
    have := List.all_eq_true.1 hch i (List.mem_range.2 (by omega))
    simp only [Bool.or_eq_true, decide_eq_true_eq] at this
    rcases this with (h | h) | h
    · omega
    · omega
    · exact h
  have hcover : ∀ j, j < k → k < ops.size → ∃ i, j < i ∧ i ≤ k ∧ waitsFor ops i j = true := fun j h1 h2 => by
    have := List.all_eq_true.1 hcov j (List.mem_range.2 h1)
    simp only [Bool.or_eq_true, beq_iff_eq] at this
    rcases this with h | h
    · omega
    · obtain ⟨i, hi, h⟩ := List.any_eq_true.1 h
      simp only [Bool.and_eq_true, decide_eq_true_eq] at h
      exact ⟨i, h.1, by have := List.mem_range.1 hi; omega, h.2⟩
  have hfin : ∀ L a w, VInv ops R w0.drew a0 L a w → (∀ j, j < k → L j = true) → (∀ j, k ≤ j → L j = false) → wpList P ops Q (ops.toList.drop k) a w := fun L a w hI hall hno => by
    have hv : ∀ i, ∃ v, i < k → (R.getD i SP.any).has w v ∧ ∀ d, dstOf ops i = some d → a.tmps[d]? = some v := fun i => by
      by_cases hi : i < k
      · obtain ⟨v, h⟩ := hI.vals i (hall i hi); exact ⟨v, fun _ => h⟩
      · exact ⟨undef, fun h => absurd h hi⟩
    obtain ⟨vals, hvals⟩ := Classical.axiomOfChoice hv
    have ha : a = { a0 with tmps := setAll ops vals k a0.tmps } := by
      obtain ⟨tm, df⟩ := a
      have h1 : df = a0.defers := hI.defers
      have h2 : tm = setAll ops vals k a0.tmps := by
        refine Array.ext_getElem? fun s => ?_
        have hset := setAll_get vals hap s k a0.tmps hkn rfl
        by_cases hk : ∃ i, i < k ∧ dstOf ops i = some s
        · obtain ⟨i, hik, hi⟩ := hk
          rw [hset.2 i hik hi]
          exact (hvals i hik).2 s hi
        · rw [hset.1 fun i hi h => hk ⟨i, hi, h⟩]
          refine hI.rest s fun i hi h => ?_
          rcases Nat.lt_or_ge i k with hl | hl
          · exact hk ⟨i, hl, h⟩
          · rw [hno i hl] at hi; cases hi
      rw [h1, h2]
    rw [ha, setAll_eq, hds]
    exact hdone vals w hI.below fun i hi => (hvals i hi).1
  refine region_invB_in l hnd hq (fun a0 B L a w => (VInv ops R B a0 L a w ∧ (∀ i, k ≤ i → L i = false) ∧ Closed ops L) ∨ ∃ m, k ≤ m ∧ m ≤ ops.size ∧ (∀ i, L i = decide (i < m)) ∧ wpList P ops Q (ops.toList.drop m) a w) hm hord
    (Or.inl ⟨⟨Below.refl _ _, rfl, rfl, fun i h => (Bool.noConfusion h), fun k _ => rfl⟩, fun _ _ => rfl, fun i o _ h => (Bool.noConfusion h)⟩) ?_ ?_
  · intro L a w hI i o ho hLi hdep
    have hio : i < ops.size := (Array.getElem?_eq_some_iff.1 ho).1
    rcases hI with ⟨hI, hno, hcl⟩ | ⟨m, hm1, hm2, hL, hwp⟩
    · by_cases hik : i < k
      · refine wpOp_mono (fun a' w' h => Or.inl ?_) (vinv_stepK R hap hg hsk hik hI ho hLi hdep hno (hstep i o ho hik))
        refine ⟨h, fun j hj => ?_, fun j o' ho' hj e he hb => ?_⟩
        · have hji : j ≠ i := by omega
          simp only [hji, if_false]
          exact hno j hj
        · by_cases hji : j = i
          · subst hji
            rw [ho] at ho'; cases ho'
            by_cases h2 : e.on = j
            · simp [h2]
            · simp only [h2, if_false]; exact hdep e he hb
          · simp only [hji, if_false] at hj
            by_cases h2 : e.on = i
            · simp [h2]
            · simp only [h2, if_false]; exact hcl j o' ho' hj e he hb
      · have hik' : i = k := by
          rcases Nat.lt_or_ge k i with h | h
          · have := waits_done (L := L) (hchain (i - 1) (by omega) (by omega)) (by rw [show i - 1 + 1 = i by omega]; exact ho) hdep
            rw [hno (i - 1) (by omega)] at this; cases this
          · omega
        subst hik'
        have hall : ∀ d j, i - j ≤ d → j < i → L j = true := by
          intro d
          induction d with
          | zero => intro j h1 h2; omega
          | succ d ih =>
            intro j h1 h2
            obtain ⟨q, hq1, hq2, hq3⟩ := hcover j h2 hio
            by_cases hqi : q = i
            · subst hqi; exact waits_done hq3 ho hdep
            · have hq : L q = true := ih q (by omega) (by omega)
              have hqo : ops[q]? = some ops[q] := Array.getElem?_eq_getElem (by omega)
              exact waits_done hq3 hqo (hcl q _ hqo hq)
        refine wpOp_mono (fun a' w' h => Or.inr ⟨i + 1, by omega, by omega, fun j => ?_, h⟩) (wpList_to_op ho (hfin L a w hI (fun j hj => hall _ j (Nat.le_refl _) hj) hno))
        by_cases hji : j = i
        · subst hji; simp
        · simp only [hji, if_false]
          rcases Nat.lt_or_ge j i with h1 | h1
          · rw [hall _ j (Nat.le_refl _) h1]; simp; omega
          · rw [hno j h1]; simp; omega
    · have him : i = m := by
        have h1 : ¬ i < m := fun h => by rw [hL i] at hLi; simp [h] at hLi
        rcases Nat.lt_or_ge m i with h | h
        · have := waits_done (L := L) (hchain (i - 1) (by omega) (by omega)) (by rw [show i - 1 + 1 = i by omega]; exact ho) hdep
          rw [hL (i - 1)] at this
          simp at this; omega
        · omega
      subst him
      refine wpOp_mono (fun a' w' h => Or.inr ⟨i + 1, by omega, by omega, fun j => ?_, h⟩) (wpList_to_op ho hwp)
      by_cases hji : j = i
      · subst hji; simp
      · simp only [hji, if_false]
        rw [hL j]
        rcases Nat.lt_or_ge j i with h1 | h1
        · simp [h1]; omega
        · simp; omega
  · intro L a w hall hI
    rcases hI with ⟨hI, hno, hcl⟩ | ⟨m, hm1, hm2, hL, hwp⟩
    · have hk : k = ops.size := by
        rcases Nat.lt_or_ge k ops.size with h | h
        · have := hall k h; rw [hno k (Nat.le_refl _)] at this; cases this
        · omega
      have := hfin L a w hI (fun j hj => hall j (by omega)) hno
      rw [hk, ← Array.length_toList, List.drop_length] at this
      exact this
    · have hk : m = ops.size := by
        rcases Nat.lt_or_ge m ops.size with h | h
        · have := hall m h; rw [hL m] at this; simp at this
        · omega
      rw [hk, ← Array.length_toList, List.drop_length] at hwp
      exact hwp
end

end Go.Proofs.Ytckipafciomklaa.wk
/- A region that draws, in a round: facts that hang on what is done. No program here. -/
namespace Go.Proofs.Ytckipafciomklaa.wk

open Go.RowKit

set_option linter.unusedVariables false

section

variable {P : Program} {ops : Array Oper} {Q : Exit → Act → World → Prop}
theorem region_lev2_in {id n : Nat} {a0 : Act} {w0 : World} (l : Nat) (hnd : noDefer ops = true) (hq : ¬ LetsOut Q) (k : Nat) (R : (Nat → Bool) → Nat → World → Value → Prop) (ds : List (Option Tmp)) (S : (Nat → Bool) → World → Prop) (h0 : S (fun _ => false) w0.drew) (hm : P.follows .mixedOrders = true) (hord : orderedB .any ops = true) (hap : apart ops a0.tmps.size = true) (hg : noGuard ops k = true) (hds : (List.range k).map (dstOf ops) = ds) (htl : tailed ops k = true)
    (hstep : ∀ i o, ops[i]? = some o → i < k → ∀ E L w, S L w → L i = false → (∀ e ∈ o.after, Region.binds .any e = true → L e.on = true) → DueG ops (R L) a0 o E w → DoesT P Q o E w (fun w' v => R (fun j => if j = i then true else L j) i w' v ∧ (∀ j u, L j = true → (∀ d, dstOf ops j = some d → E (.tmp d) = u) → R L j w u → R (fun j => if j = i then true else L j) j w' u) ∧ S (fun j => if j = i then true else L j) w'))
    (hdone : ∀ (vals : Nat → Value) L w, (∀ j, j < k → L j = true) → S L w → (∀ i, i < k → R L i w (vals i)) → wpList P ops Q (ops.toList.drop k) { a0 with tmps := setL ds vals 0 a0.tmps } w) : (Code.region id ops true).wpIn (Fence.wide.inRound l) n P Q a0 w0 := by
  unfold tailed at htl
  simp only [Bool.and_eq_true, decide_eq_true_eq] at htl
  obtain ⟨⟨hkn, hcov⟩, hch⟩ := htl
  have hchain : ∀ i, k ≤ i → i + 1 < ops.size → waitsFor ops (i + 1) i = true := fun i h1 h2 => by
    have := List.all_eq_true.1 hch i (List.mem_range.2 (by omega))
    simp only [Bool.or_eq_true, decide_eq_true_eq] at this
    rcases this with (h | h) | h
    · omega
    · omega
    · exact h
  have hcover : ∀ j, j < k → k < ops.size → ∃ i, j < i ∧ i ≤ k ∧ waitsFor ops i j = true := fun j h1 h2 => by
    have := List.all_eq_true.1 hcov j (List.mem_range.2 h1)
    simp only [Bool.or_eq_true, beq_iff_eq] at this
    rcases this with h | h
    · omega
    · obtain ⟨i, hi, h⟩ := List.any_eq_true.1 h
      simp only [Bool.and_eq_true, decide_eq_true_eq] at h
      exact ⟨i, h.1, by have := List.mem_range.1 hi; omega, h.2⟩
  have hfin : ∀ L a w, LInv ops R a0 L a w → S L w → (∀ j, j < k → L j = true) → (∀ j, k ≤ j → L j = false) → wpList P ops Q (ops.toList.drop k) a w := fun L a w hI hw hall hno => by
    have hv : ∀ i, ∃ v, i < k → R L i w v ∧ ∀ d, dstOf ops i = some d → a.tmps[d]? = some v := fun i => by
      by_cases hi : i < k
      · obtain ⟨v, h⟩ := hI.vals i (hall i hi); exact ⟨v, fun _ => h⟩
      · exact ⟨undef, fun h => absurd h hi⟩
    obtain ⟨vals, hvals⟩ := Classical.axiomOfChoice hv
    have ha : a = { a0 with tmps := setAll ops vals k a0.tmps } := by
      obtain ⟨tm, df⟩ := a
      have h1 : df = a0.defers := hI.defers
      have h2 : tm = setAll ops vals k a0.tmps := by
        refine Array.ext_getElem? fun s => ?_
        have hset := setAll_get vals hap s k a0.tmps hkn rfl
        by_cases hk : ∃ i, i < k ∧ dstOf ops i = some s
        · obtain ⟨i, hik, hi⟩ := hk
          rw [hset.2 i hik hi]
          exact (hvals i hik).2 s hi
        · rw [hset.1 fun i hi h => hk ⟨i, hi, h⟩]
          refine hI.rest s fun i hi h => ?_
          rcases Nat.lt_or_ge i k with hl | hl
          · exact hk ⟨i, hl, h⟩
          · rw [hno i hl] at hi; cases hi
      rw [h1, h2]
    rw [ha, setAll_eq, hds]
    exact hdone vals L w hall hw fun i hi => (hvals i hi).1
  refine region_invB_in l hnd hq (fun a0' B L a w => (LInv ops R a0 L a w ∧ S L w ∧ (∀ i, k ≤ i → L i = false) ∧ Closed ops L) ∨ ∃ m, k ≤ m ∧ m ≤ ops.size ∧ (∀ i, L i = decide (i < m)) ∧ wpList P ops Q (ops.toList.drop m) a w) hm hord
    (Or.inl ⟨⟨rfl, rfl, fun i h => (Bool.noConfusion h), fun k _ => rfl⟩, h0, fun _ _ => rfl, fun i o _ h => (Bool.noConfusion h)⟩) ?_ ?_
  · intro L a w hI i o ho hLi hdep
    have hio : i < ops.size := (Array.getElem?_eq_some_iff.1 ho).1
    rcases hI with ⟨hI, hSw, hno, hcl⟩ | ⟨m, hm1, hm2, hL, hwp⟩
    · by_cases hik : i < k
      · refine wpOp_mono (fun a' w' h => Or.inl ?_) (linv_step2 R hap hg hik hI ho hdep (S := S (fun j => if j = i then true else L j)) fun E hE => hstep i o ho hik E L w hSw hLi hdep hE)
        refine ⟨h.1, h.2, fun j hj => ?_, fun j o' ho' hj e he hb => ?_⟩
        · have hji : j ≠ i := by omega
          simp only [hji, if_false]
          exact hno j hj
        · by_cases hji : j = i
          · subst hji
            rw [ho] at ho'; cases ho'
            by_cases h2 : e.on = j
            · simp [h2]
            · simp only [h2, if_false]; exact hdep e he hb
          · simp only [hji, if_false] at hj
            by_cases h2 : e.on = i
            · simp [h2]
            · simp only [h2, if_false]; exact hcl j o' ho' hj e he hb
      · have hik' : i = k := by
          rcases Nat.lt_or_ge k i with h | h
          · have := waits_done (L := L) (hchain (i - 1) (by omega) (by omega)) (by rw [show i - 1 + 1 = i by omega]; exact ho) hdep
            rw [hno (i - 1) (by omega)] at this; cases this
          · omega
        subst hik'
        have hall : ∀ d j, i - j ≤ d → j < i → L j = true := by
          intro d
          induction d with
          | zero => intro j h1 h2; omega
          | succ d ih =>
            intro j h1 h2
            obtain ⟨q, hq1, hq2, hq3⟩ := hcover j h2 hio
            by_cases hqi : q = i
            · subst hqi; exact waits_done hq3 ho hdep
            · have hq : L q = true := ih q (by omega) (by omega)
              have hqo : ops[q]? = some ops[q] := Array.getElem?_eq_getElem (by omega)
              exact waits_done hq3 hqo (hcl q _ hqo hq)
        refine wpOp_mono (fun a' w' h => Or.inr ⟨i + 1, by omega, by omega, fun j => ?_, h⟩) (wpList_to_op ho (hfin L a w hI hSw (fun j hj => hall _ j (Nat.le_refl _) hj) hno))
        by_cases hji : j = i
        · subst hji; simp
        · simp only [hji, if_false]
          rcases Nat.lt_or_ge j i with h1 | h1
          · rw [hall _ j (Nat.le_refl _) h1]; simp; omega
          · rw [hno j h1]; simp; omega
    · have him : i = m := by
        have h1 : ¬ i < m := fun h => by rw [hL i] at hLi; simp [h] at hLi
        rcases Nat.lt_or_ge m i with h | h
        · have := waits_done (L := L) (hchain (i - 1) (by omega) (by omega)) (by rw [show i - 1 + 1 = i by omega]; exact ho) hdep
          rw [hL (i - 1)] at this
          simp at this; omega
        · omega
      subst him
      refine wpOp_mono (fun a' w' h => Or.inr ⟨i + 1, by omega, by omega, fun j => ?_, h⟩) (wpList_to_op ho hwp)
      by_cases hji : j = i
      · subst hji; simp
      · simp only [hji, if_false]
        rw [hL j]
        rcases Nat.lt_or_ge j i with h1 | h1
        · simp [h1]; omega
        · simp; omega
  · intro L a w hall hI
    rcases hI with ⟨hI, hSw, hno, hcl⟩ | ⟨m, hm1, hm2, hL, hwp⟩
    · have hk : k = ops.size := by
        rcases Nat.lt_or_ge k ops.size with h | h
        · have := hall k h; rw [hno k (Nat.le_refl _)] at this; cases this
        · omega
      have := hfin L a w hI hSw (fun j hj => hall j (by omega)) hno
      rw [hk, ← Array.length_toList, List.drop_length] at this
      exact this
    · have hk : m = ops.size := by
        rcases Nat.lt_or_ge m ops.size with h | h
        · have := hall m h; rw [hL m] at this; simp at this
        · omega
      rw [hk, ← Array.length_toList, List.drop_length] at hwp
      exact hwp
end

end Go.Proofs.Ytckipafciomklaa.wk
/- The first hits, plainly. -/
namespace Go.Proofs.Ytckipafciomklaa.bq

set_option linter.unusedVariables false
abbrev H := Int × Int × Int
def cmpH (a b : H) : Int := if vq.cmpI a.2.2 b.2.2 = 0 then (if vq.cmpI a.1 b.1 = 0 then vq.cmpI a.2.1 b.2.1 else vq.cmpI a.1 b.1) else vq.cmpI a.2.2 b.2.2
def lt (a b : H) : Bool := decide (cmpH a b < 0)
theorem cmpI_lt {a b : Int} (h : a < b) : vq.cmpI a b = -1 := by unfold vq.cmpI; rw [if_pos h]
theorem cmpI_gt {a b : Int} (h : b < a) : vq.cmpI a b = 1 := by unfold vq.cmpI; rw [if_neg (by omega), if_pos h]
theorem cmpI_eq (a : Int) : vq.cmpI a a = 0 := by unfold vq.cmpI; rw [if_neg (by omega), if_neg (by omega)]
theorem tri (a b : Int) : a < b ∨ a = b ∨ b < a := by omega
theorem cmpH_cases (a b : H) : (cmpH a b = -1 ∧ (a.2.2 < b.2.2 ∨ a.2.2 = b.2.2 ∧ (a.1 < b.1 ∨ a.1 = b.1 ∧ a.2.1 < b.2.1))) ∨ (cmpH a b = 0 ∧ a = b) ∨ (cmpH a b = 1 ∧ (b.2.2 < a.2.2 ∨ b.2.2 = a.2.2 ∧ (b.1 < a.1 ∨ b.1 = a.1 ∧ b.2.1 < a.2.1))) := by
  obtain ⟨a1, a2, a3⟩ := a
  obtain ⟨b1, b2, b3⟩ := b
  unfold cmpH
  dsimp only
  rcases tri a3 b3 with h | h | h
  · rw [cmpI_lt h, if_neg (by omega)]; exact .inl ⟨rfl, .inl h⟩
  · subst h
    rw [cmpI_eq, if_pos rfl]
    rcases tri a1 b1 with h | h | h
    · rw [cmpI_lt h, if_neg (by omega)]; exact .inl ⟨rfl, .inr ⟨rfl, .inl h⟩⟩
    · subst h
      rw [cmpI_eq, if_pos rfl]
      rcases tri a2 b2 with h | h | h
      · rw [cmpI_lt h]; exact .inl ⟨rfl, .inr ⟨rfl, .inr ⟨rfl, h⟩⟩⟩
      · subst h; rw [cmpI_eq]; exact .inr (.inl ⟨rfl, rfl⟩)
      · rw [cmpI_gt h]; exact .inr (.inr ⟨rfl, .inr ⟨rfl, .inr ⟨rfl, h⟩⟩⟩)
    · rw [cmpI_gt h, if_neg (by omega)]; exact .inr (.inr ⟨rfl, .inr ⟨rfl, .inl h⟩⟩)
  · rw [cmpI_gt h, if_neg (by omega)]; exact .inr (.inr ⟨rfl, .inl h⟩)
theorem lt_iff {a b : H} : lt a b = true ↔ a.2.2 < b.2.2 ∨ a.2.2 = b.2.2 ∧ (a.1 < b.1 ∨ a.1 = b.1 ∧ a.2.1 < b.2.1) := by
  unfold lt
  rw [decide_eq_true_eq]
  rcases cmpH_cases a b with ⟨h1, h2⟩ | ⟨h1, rfl⟩ | ⟨h1, h2⟩ <;> rw [h1] <;> omega
theorem lt_irrefl (a : H) : lt a a = false := by
  rw [← Bool.not_eq_true, lt_iff]; omega
theorem lt_trans {a b c : H} (h : lt a b = true) (h' : lt b c = true) : lt a c = true := by rw [lt_iff] at *; omega
theorem lt_asymm {a b : H} (h : lt a b = true) : lt b a = false := by rw [← Bool.not_eq_true, lt_iff]; rw [lt_iff] at h; omega
theorem lt_tri {a b : H} (h : lt a b = false) (h' : lt b a = false) : a = b := by
  rw [← Bool.not_eq_true, lt_iff] at h h'
  obtain ⟨a1, a2, a3⟩ := a
  obtain ⟨b1, b2, b3⟩ := b
  dsimp only at h h'
  obtain rfl : a3 = b3 := by omega
  obtain rfl : a1 = b1 := by omega
  obtain rfl : a2 = b2 := by omega
  rfl
theorem cmpH_zero {a b : H} : cmpH a b = 0 ↔ a = b := by
  rcases cmpH_cases a b with ⟨h1, h2⟩ | ⟨h1, rfl⟩ | ⟨h1, h2⟩
  · exact ⟨fun h => by omega, fun h => by subst h; omega⟩
  · simp [h1]
  · exact ⟨fun h => by omega, fun h => by subst h; omega⟩
theorem cmpH_pos {a b : H} : 0 < cmpH a b ↔ lt b a = true := by
  rw [lt_iff]
  rcases cmpH_cases a b with ⟨h1, h2⟩ | ⟨h1, rfl⟩ | ⟨h1, h2⟩ <;> rw [h1] <;> omega
theorem le_trans {a b c : H} (h : a = b ∨ lt a b = true) (h' : lt b c = true) : lt a c = true := by
  rcases h with rfl | h
  · exact h'
  · exact lt_trans h h'
/- Ascending lists. -/
def Asc (l : List H) : Prop := l.Pairwise fun a b => lt a b = true
theorem asc_ext : ∀ {s t : List H}, Asc s → Asc t → (∀ h, h ∈ s ↔ h ∈ t) → s = t
  | [], [], _, _, _ => rfl
  | [], b :: t, _, _, h => by have := (h b).2 (by simp); simp at this
  | a :: s, [], _, _, h => by have := (h a).1 (by simp); simp at this
  | a :: s, b :: t, hs, ht, h => by
    have hs' := List.pairwise_cons.1 hs
    have ht' := List.pairwise_cons.1 ht
    have e : a = b := by
      rcases List.mem_cons.1 ((h a).1 (by simp)) with e | h1
      · exact e
      · rcases List.mem_cons.1 ((h b).2 (by simp)) with e | h2
        · exact e.symm
        · have := lt_asymm (ht'.1 _ h1); rw [hs'.1 _ h2] at this; cases this
    subst e
    rw [asc_ext hs'.2 ht'.2 fun x => ?_]
    refine ⟨fun hx => ?_, fun hx => ?_⟩
    · rcases List.mem_cons.1 ((h x).1 (by simp [hx])) with e | h1
      · subst e; have := hs'.1 _ hx; rw [lt_irrefl] at this; cases this
      · exact h1
    · rcases List.mem_cons.1 ((h x).2 (by simp [hx])) with e | h1
      · subst e; have := ht'.1 _ hx; rw [lt_irrefl] at this; cases this
      · exact h1
def ins (h : H) : List H → List H
  | [] => [h]
  | a :: t => if lt h a = true then h :: a :: t else if h = a then a :: t else a :: ins h t
theorem mem_ins {h x : H} : ∀ {s : List H}, x ∈ ins h s ↔ x = h ∨ x ∈ s
  | [] => by simp [ins]
  | a :: t => by
    unfold ins
    by_cases h1 : lt h a = true
    · rw [if_pos h1]; simp
    · rw [if_neg h1]
      by_cases h2 : h = a
      · rw [if_pos h2]; subst h2; simp
      · rw [if_neg h2, List.mem_cons, mem_ins, List.mem_cons]
        constructor
        · rintro (h | h | h)
          · exact .inr (.inl h)
          · exact .inl h
          · exact .inr (.inr h)
        · rintro (h | h | h)
          · exact .inr (.inl h)
          · exact .inl h
          · exact .inr (.inr h)
theorem asc_ins {h : H} : ∀ {s : List H}, Asc s → Asc (ins h s)
  | [], _ => by simp [ins, Asc]
  | a :: t, hs => by
    have hs' := List.pairwise_cons.1 hs
    unfold ins
    by_cases h1 : lt h a = true
    · rw [if_pos h1]
      refine List.pairwise_cons.2 ⟨fun x hx => ?_, hs⟩
      rcases List.mem_cons.1 hx with rfl | hx
      · exact h1
      · exact lt_trans h1 (hs'.1 _ hx)
    · rw [if_neg h1]
      by_cases h2 : h = a
      · rw [if_pos h2]; exact hs
      · rw [if_neg h2]
        refine List.pairwise_cons.2 ⟨fun x hx => ?_, asc_ins hs'.2⟩
        rcases mem_ins.1 hx with rfl | hx
        · cases hc : lt a x with
          | true => rfl
          | false => exact absurd (lt_tri (by simpa using h1) hc) h2
        · exact hs'.1 _ hx
def srt (l : List H) : List H := l.foldr ins []
theorem mem_srt {x : H} : ∀ {l : List H}, x ∈ srt l ↔ x ∈ l
  | [] => by simp [srt]
  | a :: l => by
    have : srt (a :: l) = ins a (srt l) := rfl
    rw [this, mem_ins, mem_srt, List.mem_cons]
theorem asc_srt : ∀ (l : List H), Asc (srt l)
  | [] => by simp [srt, Asc]
  | a :: l => by
    have : srt (a :: l) = ins a (srt l) := rfl
    rw [this]; exact asc_ins (asc_srt l)
def unb (l : List H) (h : H) : Bool := l.all fun g => !(g.1 == h.1 && lt g h)
def bst (l : List H) : List H := srt (l.filter (unb l))
def ofL (l : List H) (k : Nat) : List H := (bst l).take k
def Dst (l : List H) : Prop := (l.map (·.1)).Nodup
def Lst (l : List H) : Prop := Asc l ∧ Dst l
theorem unb_iff {l : List H} {h : H} : unb l h = true ↔ ∀ g ∈ l, g.1 = h.1 → lt g h = false := by
  unfold unb
  rw [List.all_eq_true]
  refine forall_congr' fun g => forall_congr' fun _ => ?_
  by_cases h1 : g.1 = h.1 <;> simp [h1]
theorem mem_bst {l : List H} {h : H} : h ∈ bst l ↔ h ∈ l ∧ ∀ g ∈ l, g.1 = h.1 → lt g h = false := by
  unfold bst
  rw [mem_srt, List.mem_filter, unb_iff]
theorem asc_bst (l : List H) : Asc (bst l) := asc_srt _
theorem id_bst {l : List H} {x y : H} (hx : x ∈ bst l) (hy : y ∈ bst l) (h : x.1 = y.1) : x = y :=
  lt_tri ((mem_bst.1 hy).2 _ (mem_bst.1 hx).1 h) ((mem_bst.1 hx).2 _ (mem_bst.1 hy).1 h.symm)
theorem dst_of {l : List H} (ha : Asc l) (h : ∀ x ∈ l, ∀ y ∈ l, x.1 = y.1 → x = y) : Dst l := by
  unfold Dst
  rw [List.nodup_iff_pairwise_ne, List.pairwise_map]
  refine List.Pairwise.imp_of_mem (fun {a b} hx hy hl he => ?_) ha
  have := h _ hx _ hy he
  subst this
  rw [lt_irrefl] at hl
  cases hl
theorem lst_bst (l : List H) : Lst (bst l) := ⟨asc_bst l, dst_of (asc_bst l) fun _ hx _ hy h => id_bst hx hy h⟩
theorem dst_id : ∀ {l : List H}, Dst l → ∀ x ∈ l, ∀ y ∈ l, x.1 = y.1 → x = y
  | [], _, x, hx, _, _, _ => by simp at hx
  | a :: l, h, x, hx, y, hy, e => by
    unfold Dst at h
    rw [List.map_cons, List.nodup_cons] at h
    rcases List.mem_cons.1 hx with h1 | h1 <;> rcases List.mem_cons.1 hy with h2 | h2
    · rw [h1, h2]
    · subst h1; exact absurd (List.mem_map.2 ⟨y, h2, e.symm⟩) h.1
    · subst h2; exact absurd (List.mem_map.2 ⟨x, h1, e⟩) h.1
    · exact dst_id h.2 _ h1 _ h2 e
theorem bst_of_lst {l : List H} (h : Lst l) : bst l = l :=
  asc_ext (asc_bst l) h.1 fun x => by
    rw [mem_bst]
    refine ⟨fun h' => h'.1, fun h' => ⟨h', fun g hg e => ?_⟩⟩
    rw [dst_id h.2 _ hg _ h' e]; exact lt_irrefl _
theorem asc_take {l : List H} (h : Asc l) (k : Nat) : Asc (l.take k) := h.sublist (List.take_sublist k l)
theorem dst_take {l : List H} (h : Dst l) (k : Nat) : Dst (l.take k) := h.sublist ((List.take_sublist k l).map _)
theorem lst_ofL (l : List H) (k : Nat) : Lst (ofL l k) := ⟨asc_take (asc_bst l) k, dst_take (lst_bst l).2 k⟩
theorem ofL_of_lst {l : List H} {k : Nat} (h : Lst l) (hk : l.length ≤ k) : ofL l k = l := by
  unfold ofL; rw [bst_of_lst h, List.take_of_length_le hk]
theorem ofL_eq_iff {l : List H} {k : Nat} (hk : l.length ≤ k) : l = ofL l k ↔ Lst l :=
  ⟨fun h => by rw [h]; exact lst_ofL l k, fun h => (ofL_of_lst h hk).symm⟩
theorem bst_congr {a b : List H} (h : ∀ x, x ∈ a ↔ x ∈ b) : bst a = bst b :=
  asc_ext (asc_bst a) (asc_bst b) fun x => by
    rw [mem_bst, mem_bst, h x]
    exact and_congr_right fun _ => forall_congr' fun g => by rw [h g]
theorem ofL_congr {a b : List H} (k : Nat) (h : ∀ x, x ∈ a ↔ x ∈ b) : ofL a k = ofL b k := by unfold ofL; rw [bst_congr h]
theorem ofL_len (l : List H) (k : Nat) : (ofL l k).length ≤ k := by unfold ofL; rw [List.length_take]; omega
theorem ofL_mem {l : List H} {k : Nat} {x : H} (h : x ∈ ofL l k) : x ∈ l := (mem_bst.1 (List.mem_of_mem_take h)).1
theorem bst_len {l : List H} : (bst l).length ≤ (l.filter (unb l)).length := by
  unfold bst
  generalize l.filter (unb l) = s
  induction s with
  | nil => exact Nat.le_refl _
  | cons a s ih =>
    have e : ∀ (h : H) (t : List H), (ins h t).length ≤ t.length + 1 := by
      intro h t
      induction t with
      | nil => exact Nat.le_refl _
      | cons b t ih => unfold ins; (repeat' split) <;> simp only [List.length_cons] <;> omega
    have h1 : srt (a :: s) = ins a (srt s) := rfl
    have := e a (srt s)
    rw [h1, List.length_cons]; omega
theorem bst_le (l : List H) : (bst l).length ≤ l.length := Nat.le_trans bst_len (List.length_filter_le _ _)
/- Counting. -/
theorem pigeon : ∀ {a b : List Int}, a.Nodup → (∀ x ∈ a, x ∈ b) → a.length ≤ b.length
  | [], b, _, _ => by simp
  | x :: a, b, h, hs => by
    obtain ⟨b1, b2, rfl⟩ := List.append_of_mem (hs x (by simp))
    rw [List.nodup_cons] at h
    have := pigeon (a := a) (b := b1 ++ b2) h.2 fun y hy => by
      have := hs y (by simp [hy])
      rw [List.mem_append, List.mem_cons] at this
      rw [List.mem_append]
      rcases this with h1 | rfl | h1
      · exact .inl h1
      · exact absurd hy h.1
      · exact .inr h1
    rw [List.length_append] at this
    rw [List.length_cons, List.length_append, List.length_cons]; omega
theorem min_ex : ∀ {l : List H}, l ≠ [] → ∃ m ∈ l, ∀ g ∈ l, lt g m = false
  | [], h => absurd rfl h
  | [a], _ => ⟨a, by simp, fun g hg => by rw [List.mem_singleton.1 hg]; exact lt_irrefl _⟩
  | a :: b :: l, _ => by
    obtain ⟨m, hm, hl⟩ := min_ex (l := b :: l) (by simp)
    cases hc : lt a m with
    | true =>
      refine ⟨a, by simp, fun g hg => ?_⟩
      rcases List.mem_cons.1 hg with rfl | hg
      · exact lt_irrefl _
      · cases hd : lt g a with
        | false => rfl
        | true => have := hl _ hg; rw [lt_trans hd hc] at this; cases this
    | false =>
      refine ⟨m, List.mem_cons_of_mem _ hm, fun g hg => ?_⟩
      rcases List.mem_cons.1 hg with rfl | hg
      · exact hc
      · exact hl _ hg
theorem rep {l : List H} {h : H} (hl : h ∈ l) : ∃ g ∈ bst l, g.1 = h.1 ∧ (g = h ∨ lt g h = true) := by
  obtain ⟨m, hm, hmin⟩ := min_ex (l := l.filter fun g => g.1 == h.1) (by
    intro e
    have : h ∈ l.filter fun g => g.1 == h.1 := List.mem_filter.2 ⟨hl, by simp⟩
    rw [e] at this; simp at this)
  rw [List.mem_filter] at hm
  have hid : m.1 = h.1 := by simpa using hm.2
  refine ⟨m, mem_bst.2 ⟨hm.1, fun g hg e => hmin g (List.mem_filter.2 ⟨hg, by simp [e, hid]⟩)⟩, hid, ?_⟩
  have := hmin h (List.mem_filter.2 ⟨hl, by simp⟩)
  cases hc : lt m h with
  | true => exact .inr rfl
  | false => exact .inl (lt_tri hc this)
def cnt (l : List H) (h : H) : Nat := ((bst l).filter (lt · h)).length
theorem mem_take_asc : ∀ {s : List H} {h : H} {k : Nat}, Asc s → (h ∈ s.take k ↔ h ∈ s ∧ (s.filter (lt · h)).length < k)
  | [], h, k, _ => by simp
  | a :: s, h, 0, _ => by simp
  | a :: s, h, k + 1, hs => by
    have hs' := List.pairwise_cons.1 hs
    rw [List.take_succ_cons, List.mem_cons, List.mem_cons, mem_take_asc hs'.2]
    by_cases e : h = a
    · subst e
      have : s.filter (lt · h) = [] := by
        rw [List.filter_eq_nil_iff]
        intro x hx
        simp [lt_asymm (hs'.1 _ hx)]
      simp [lt_irrefl, this]
    · constructor
      · rintro (h1 | h1)
        · exact absurd h1 e
        · refine ⟨.inr h1.1, ?_⟩
          rw [List.filter_cons]
          split <;> (try rw [List.length_cons]) <;> omega
      · rintro ⟨h1 | h1, h2⟩
        · exact absurd h1 e
        · refine .inr ⟨h1, ?_⟩
          rw [List.filter_cons, if_pos (hs'.1 _ h1), List.length_cons] at h2
          omega
theorem mem_ofL {l : List H} {k : Nat} {h : H} : h ∈ ofL l k ↔ h ∈ bst l ∧ cnt l h < k := mem_take_asc (asc_bst l)
theorem cnt_ge {s b : List H} {h : H} (hd : Dst s) (hs : ∀ x ∈ s, x ∈ b ∧ lt x h = true) : s.length ≤ cnt b h := by
  have := pigeon (a := s.map fun x : H => x.1) (b := ((bst b).filter (lt · h)).map fun x : H => x.1) hd fun i hi => by
    obtain ⟨x, hx, rfl⟩ := List.mem_map.1 hi
    obtain ⟨g, hg, e, hl⟩ := rep (hs x hx).1
    exact List.mem_map.2 ⟨g, List.mem_filter.2 ⟨hg, le_trans hl (hs x hx).2⟩, e⟩
  rwa [List.length_map, List.length_map] at this
theorem dst_filter {l : List H} (h : Dst l) (p : H → Bool) : Dst (l.filter p) := h.sublist (List.filter_sublist.map _)
theorem cnt_mono {a b : List H} {h : H} (hs : ∀ x ∈ a, x ∈ b) : cnt a h ≤ cnt b h :=
  cnt_ge (dst_filter (lst_bst a).2 _) fun x hx => by
    rw [List.mem_filter] at hx
    exact ⟨hs _ (mem_bst.1 hx.1).1, hx.2⟩
theorem cnt_le {a : List H} {g x : H} (h : g = x ∨ lt g x = true) : cnt a g ≤ cnt a x :=
  cnt_ge (dst_filter (lst_bst a).2 _) fun y hy => by
    rw [List.mem_filter] at hy
    refine ⟨(mem_bst.1 hy.1).1, ?_⟩
    rcases h with rfl | h
    · exact hy.2
    · exact lt_trans hy.2 h
theorem keepA {a X : List H} {k : Nat} {g h : H} (hX : ∀ x ∈ ofL a k, x ∈ X) (hc : cnt X h < k) (hg : g ∈ bst a) (hl : g = h ∨ lt g h = true) : g ∈ ofL a k := by
  refine Classical.byContradiction fun hn => ?_
  have h1 : k ≤ cnt a g := by
    refine Nat.le_of_not_lt fun h' => hn (mem_ofL.2 ⟨hg, h'⟩)
  have h2 : (ofL a k).length = k := by
    have : cnt a g ≤ (bst a).length := List.length_filter_le _ _
    unfold ofL; rw [List.length_take]; omega
  have h3 := cnt_ge (s := ofL a k) (b := X) (h := h) (lst_ofL a k).2 fun x hx => by
    refine ⟨hX x hx, ?_⟩
    have h4 := (mem_ofL.1 hx).2
    have h5 : lt x g = true := by
      cases hd : lt x g with
      | true => rfl
      | false =>
        have : g = x ∨ lt g x = true := by
          cases he : lt g x with
          | true => exact .inr rfl
          | false => exact .inl (lt_tri he hd)
        have := cnt_le (a := a) this
        omega
    rcases hl with rfl | hl
    · exact h5
    · exact lt_trans h5 hl
  omega
theorem ofL_left (a b : List H) (k : Nat) : ofL (ofL a k ++ b) k = ofL (a ++ b) k := by
  refine asc_ext (lst_ofL _ _).1 (lst_ofL _ _).1 fun h => ?_
  have hX : ∀ x ∈ ofL a k, x ∈ ofL a k ++ b := fun x hx => List.mem_append.2 (.inl hx)
  have hXY : ∀ x ∈ ofL a k ++ b, x ∈ a ++ b := fun x hx => by
    rcases List.mem_append.1 hx with h1 | h1
    · exact List.mem_append.2 (.inl (ofL_mem h1))
    · exact List.mem_append.2 (.inr h1)
  rw [mem_ofL, mem_ofL]
  constructor
  · rintro ⟨h1, h2⟩
    refine ⟨mem_bst.2 ⟨hXY _ (mem_bst.1 h1).1, fun g hg e => ?_⟩, ?_⟩
    · cases hc : lt g h with
      | false => rfl
      | true =>
        rcases List.mem_append.1 hg with hg | hg
        · obtain ⟨g', hg', e', hl⟩ := rep hg
          have := (mem_bst.1 h1).2 g' (hX _ (keepA hX h2 hg' (.inr (le_trans hl hc)))) (e'.trans e)
          rw [le_trans hl hc] at this; cases this
        · have := (mem_bst.1 h1).2 g (List.mem_append.2 (.inr hg)) e
          rw [hc] at this; cases this
    · refine Nat.lt_of_le_of_lt (cnt_ge (s := (bst (a ++ b)).filter (lt · h)) (dst_filter (lst_bst _).2 _) fun x hx => ?_) h2
      rw [List.mem_filter] at hx
      refine ⟨?_, hx.2⟩
      have hb := mem_bst.1 hx.1
      rcases List.mem_append.1 hb.1 with h3 | h3
      · exact hX _ (keepA hX h2 (mem_bst.2 ⟨h3, fun g hg e => hb.2 g (List.mem_append.2 (.inl hg)) e⟩) (.inr hx.2))
      · exact List.mem_append.2 (.inr h3)
  · rintro ⟨h1, h2⟩
    have h3 : cnt (ofL a k ++ b) h < k := Nat.lt_of_le_of_lt (cnt_mono hXY) h2
    have hb := mem_bst.1 h1
    refine ⟨mem_bst.2 ⟨?_, fun g hg e => hb.2 g (hXY g hg) e⟩, h3⟩
    rcases List.mem_append.1 hb.1 with h4 | h4
    · exact hX _ (keepA hX h3 (mem_bst.2 ⟨h4, fun g hg e => hb.2 g (List.mem_append.2 (.inl hg)) e⟩) (.inl rfl))
    · exact List.mem_append.2 (.inr h4)
theorem mem_comm (a b : List H) : ∀ x, x ∈ a ++ b ↔ x ∈ b ++ a := fun x => by rw [List.mem_append, List.mem_append]; exact or_comm
theorem ofL_right (a b : List H) (k : Nat) : ofL (a ++ ofL b k) k = ofL (a ++ b) k := by
  rw [ofL_congr k (mem_comm a (ofL b k)), ofL_left, ofL_congr k (mem_comm b a)]
/- Merging. -/
def mg : List H → List H → List H
  | [], b => b
  | x :: a, [] => x :: a
  | x :: a, y :: b => if cmpH x y < 0 then x :: mg a (y :: b) else if 0 < cmpH x y then y :: mg (x :: a) b else mg a (y :: b)
termination_by a b => a.length + b.length
theorem mg_nil (a : List H) : mg a [] = a := by cases a <;> simp [mg]
theorem mem_mg {x : H} : ∀ {a b : List H}, x ∈ mg a b ↔ x ∈ a ∨ x ∈ b
  | [], b => by simp [mg]
  | y :: a, [] => by simp [mg]
  | y :: a, z :: b => by
    rw [mg]
    split
    · rw [List.mem_cons, mem_mg, List.mem_cons (l := a), or_assoc]
    · split
      · rw [List.mem_cons, mem_mg, List.mem_cons (l := b)]
        constructor
        · rintro (h | h | h)
          · exact .inr (.inl h)
          · exact .inl h
          · exact .inr (.inr h)
        · rintro (h | h | h)
          · exact .inr (.inl h)
          · exact .inl h
          · exact .inr (.inr h)
      · rename_i h1 h2
        have e : y = z := cmpH_zero.1 (by omega)
        subst e
        rw [mem_mg, List.mem_cons, List.mem_cons]
        constructor
        · rintro (h | h | h)
          · exact .inl (.inr h)
          · exact .inl (.inl h)
          · exact .inr (.inr h)
        · rintro ((h | h) | h | h)
          · exact .inr (.inl h)
          · exact .inl h
          · exact .inr (.inl h)
          · exact .inr (.inr h)
termination_by a b => a.length + b.length
theorem asc_mg : ∀ {a b : List H}, Asc a → Asc b → Asc (mg a b)
  | [], b, _, hb => by rw [mg]; exact hb
  | y :: a, [], ha, _ => by rw [mg_nil]; exact ha
  | y :: a, z :: b, ha, hb => by
    have ha' := List.pairwise_cons.1 ha
    have hb' := List.pairwise_cons.1 hb
    rw [mg]
    split
    · rename_i h1
      have hl : lt y z = true := by unfold lt; exact decide_eq_true h1
      refine List.pairwise_cons.2 ⟨fun x hx => ?_, asc_mg ha'.2 hb⟩
      rcases mem_mg.1 hx with hx | hx
      · exact ha'.1 _ hx
      · rcases List.mem_cons.1 hx with rfl | hx
        · exact hl
        · exact lt_trans hl (hb'.1 _ hx)
    · split
      · rename_i h1 h2
        have hl : lt z y = true := cmpH_pos.1 h2
        refine List.pairwise_cons.2 ⟨fun x hx => ?_, asc_mg ha hb'.2⟩
        rcases mem_mg.1 hx with hx | hx
        · rcases List.mem_cons.1 hx with rfl | hx
          · exact hl
          · exact lt_trans hl (ha'.1 _ hx)
        · exact hb'.1 _ hx
      · exact asc_mg ha'.2 hb
termination_by a b => a.length + b.length
def bt (b : List H) (h : H) : Bool := b.any fun o => o.1 == h.1 && lt o h
def unbt (a b : List H) : List H := a.filter fun h => !bt b h
theorem bt_iff {b : List H} {h : H} : bt b h = false ↔ ∀ o ∈ b, o.1 = h.1 → lt o h = false := by
  unfold bt
  rw [List.any_eq_false]
  refine forall_congr' fun o => forall_congr' fun _ => ?_
  by_cases h1 : o.1 = h.1 <;> simp [h1]
theorem mem_unbt {a b : List H} {h : H} : h ∈ unbt a b ↔ h ∈ a ∧ ∀ o ∈ b, o.1 = h.1 → lt o h = false := by
  unfold unbt
  rw [List.mem_filter, ← bt_iff]
  simp
theorem mg_eq {a b : List H} (ha : Lst a) (hb : Lst b) : mg (unbt a b) (unbt b a) = bst (a ++ b) := by
  refine asc_ext (asc_mg (ha.1.sublist List.filter_sublist) (hb.1.sublist List.filter_sublist)) (asc_bst _) fun h => ?_
  rw [mem_mg, mem_unbt, mem_unbt, mem_bst]
  constructor
  · rintro (⟨h1, h2⟩ | ⟨h1, h2⟩)
    · refine ⟨List.mem_append.2 (.inl h1), fun g hg e => ?_⟩
      rcases List.mem_append.1 hg with hg | hg
      · rw [dst_id ha.2 _ hg _ h1 e]; exact lt_irrefl _
      · exact h2 g hg e
    · refine ⟨List.mem_append.2 (.inr h1), fun g hg e => ?_⟩
      rcases List.mem_append.1 hg with hg | hg
      · exact h2 g hg e
      · rw [dst_id hb.2 _ hg _ h1 e]; exact lt_irrefl _
  · rintro ⟨h1, h2⟩
    rcases List.mem_append.1 h1 with h1 | h1
    · exact .inl ⟨h1, fun o ho e => h2 o (List.mem_append.2 (.inr ho)) e⟩
    · exact .inr ⟨h1, fun o ho e => h2 o (List.mem_append.2 (.inl ho)) e⟩
def mergeL (a b : List H) (k : Nat) : List H := (mg (unbt a b) (unbt b a)).take k
theorem mergeL_eq {a b : List H} (ha : Lst a) (hb : Lst b) (k : Nat) : mergeL a b k = ofL (a ++ b) k := by unfold mergeL ofL; rw [mg_eq ha hb]
theorem lst_one (h : H) : Lst [h] := ⟨by simp [Asc], by simp [Dst]⟩
def right (h : H) : Bool := decide (1 ≤ h.1 ∧ h.1 ≤ 1073741824) && decide (1 ≤ h.2.1 ∧ h.2.1 ≤ 1073741824) && decide (0 ≤ h.2.2 ∧ h.2.2 ≤ 134217728)
def okK (k : Int) : Bool := decide (1 ≤ k ∧ k ≤ 64)
def vld (l : List H) (k : Int) : Bool := okK k && decide ((l.length : Int) ≤ k) && l.all right && l == ofL l k.toNat
theorem vld_iff {l : List H} {k : Int} : vld l k = true ↔ (1 ≤ k ∧ k ≤ 64) ∧ (l.length : Int) ≤ k ∧ (∀ h ∈ l, right h = true) ∧ Lst l := by
  unfold vld okK
  rw [Bool.and_eq_true, Bool.and_eq_true, Bool.and_eq_true, decide_eq_true_eq, decide_eq_true_eq, List.all_eq_true, beq_iff_eq]
  constructor
  · rintro ⟨⟨⟨h1, h2⟩, h3⟩, h4⟩
    exact ⟨h1, h2, h3, (ofL_eq_iff (by omega)).1 h4⟩
  · rintro ⟨h1, h2, h3, h4⟩
    exact ⟨⟨⟨h1, h2⟩, h3⟩, (ofL_eq_iff (by omega)).2 h4⟩
def worst (l : List H) (k : Int) : Int := if (l.length : Int) < max k 1 then 134217728 else (l.getLast?.getD (0, 0, 0)).2.2 - 1
def com (a b : List H) : Int := (a.length : Int) + b.length - (bst (a ++ b)).length
end Go.Proofs.Ytckipafciomklaa.bq
