/- Joined: Qv Jg Jh Ji Jj Qr. -/
import Derived.Test.YtjhagfggelhpkaaDoorG8
/- VectorReadsBack: its walk. -/
namespace Go.Proofs.YtjhagfggelhpkaaDoor.vq
theorem getL_enc {v : List Int} (h : ∀ x ∈ v, -9223372036854775808 ≤ x ∧ x ≤ 9223372036854775807) (hl : v.length ≤ 1000) : wp.getL wp.getI 1 (wp.encIs v) = (v, ((wp.encIs v).length : Int), 0) := by
  have := wp.getL_round (one := wp.getI) (enc := wp.encI) v 1 (by omega) (by omega) (fun x hx => wp.encI_pos x) (fun x hx t => wp.getI_encI (h x hx).1 (h x hx).2 t) []
  rw [List.append_nil] at this
  exact this
theorem dec_enc {v : List Int} (h : ∀ x ∈ v, -9223372036854775808 ≤ x ∧ x ≤ 9223372036854775807) (hl : v.length ≤ 1000) : dec (wp.encIs v) = if valid v then (v, 0) else ([], 40) := by
  rw [dec, getL_enc h hl]
  simp
theorem enc_dec (l : List UInt8) : ((dec l).2 = 0 ∧ wp.encIs (dec l).1 = l ∧ (dec l).1.length ≤ 32) ∨ ((dec l).2 ≠ 0 ∧ (dec l).1 = []) := by
  unfold dec
  split
  · rename_i h; exact .inr ⟨h, rfl⟩
  · rename_i h
    have h0 : (wp.getL wp.getI 1 l).2.2 = 0 := by omega
    split
    · exact .inr ⟨by simp, rfl⟩
    · rename_i h1
      split
      · rename_i h2
        have hc := wp.getL_canon (one := wp.getI) (enc := wp.encI) wp.getI_one 1 (by omega) l h0
        refine .inl ⟨rfl, ?_, (valid_iff.1 h2).le⟩
        have : l.take (wp.getL wp.getI 1 l).2.1.toNat = l := List.take_of_length_le (by omega)
        rw [this] at hc
        exact hc.1.symm
      · exact .inr ⟨by simp, rfl⟩
end Go.Proofs.YtjhagfggelhpkaaDoor.vq

namespace Go.Proofs.YtjhagfggelhpkaaDoor.vk

open Go.ChangeShapes Go.WideShapes Go.ChangeAt Go.RowKit
theorem isB_below {w w' : World} {A : Option Addr} {n c : Nat} {l : List UInt8} (h : wo.IsB w A n c l) (hb : Below w.heap.size w w') : wo.IsB w' A n c l := ⟨h.1, h.2.1, h.2.2.1, wk.RB.below h.2.2.2 hb⟩
theorem conv_b {w : World} {A : Option Addr} {n c : Nat} {l : List UInt8} (h : wo.IsB w A n c l) : (convert 67 9 (.slice A n c)).run Tryd.prog w = .ok (.string ⟨l.toArray⟩) w :=
  wk.conv_str (P := Tryd.prog) w 67 5 9 Tryd.underlying67 Tryd.underlying5 Tryd.underlying9 A n c _ h.1 h.2.2.2
theorem does_conv {P : Program} {Q : Exit → Act → World → Prop} {o : Oper} {E : Operand → Value} {w : World} {R : World → Value → Prop} {src dst : TypeId} {x : Operand} {V v : Value} (ho : o.op = .convert src dst x) (hx : E x = V) (hrun : (convert src dst V).run P w = .ok v w) (hR : R w v) : wk.Does P Q o E w R :=
  wk.does_run (v := v) (by unfold execOp; simp only [ho, hx]; rw [Sem.run_bind, hrun]; rfl) hR
end Go.Proofs.YtjhagfggelhpkaaDoor.vk

namespace Go.Proofs.YtjhagfggelhpkaaDoor.vectorReadsBack

open Go.ChangeShapes Go.WideShapes Go.ChangeAt Go.RowKit

open Go.Proofs.YtjhagfggelhpkaaDoor.vk

set_option linter.unusedVariables false
end Go.Proofs.YtjhagfggelhpkaaDoor.vectorReadsBack
/- Lines: the program. -/
namespace Go.Proofs.YtjhagfggelhpkaaDoor.jk

open Go.ChangeShapes Go.WideShapes Go.ChangeAt Go.RowKit

open Go.Proofs.YtjhagfggelhpkaaDoor.jq Go.Proofs.YtjhagfggelhpkaaDoor.vk Go.Proofs.YtjhagfggelhpkaaDoor.wk

set_option linter.unusedVariables false
def bytesD (seed k h : Int) : List UInt8 := (hs.sha (hi.tagB 7 :: wp.encB (wp.encIs [seed, k, h]))).take 16
def dg (b : UInt8) : Int := (b.toNat : Int) % 3 - 1
def rawD (seed k : Int) : List Int := (bytesD seed k 0 ++ bytesD seed k 1).map dg
def fixl (l : List Int) : List Int := if isLine l then l else l.set 0 1
def drawnL (seed k : Int) (d : Nat) : List Int := fixl ((rawD seed k).take d)
theorem bytesD_len (seed k h : Int) : (bytesD seed k h).length = 16 := by
  unfold bytesD
  have : (hs.sha (hi.tagB 7 :: wp.encB (wp.encIs [seed, k, h]))).length = 32 := rfl
  rw [List.length_take, this]; rfl
theorem rawD_len (seed k : Int) : (rawD seed k).length = 32 := by simp [rawD, bytesD_len]
theorem raw_at {seed k : Int} {h j : Nat} {b : UInt8} (hh : h < 2) (hb : (bytesD seed k (h : Int))[j]? = some b) : (rawD seed k)[16 * h + j]? = some (dg b) := by
  have hj : j < 16 := by have := (List.getElem?_eq_some_iff.1 hb).1; rwa [bytesD_len] at this
  have e : (bytesD seed k 0 ++ bytesD seed k 1)[16 * h + j]? = some b := by
    rcases (by omega : h = 0 ∨ h = 1) with rfl | rfl
    · rw [List.getElem?_append_left (by rw [bytesD_len]; omega), Nat.mul_zero, Nat.zero_add]; exact hb
    · rw [List.getElem?_append_right (by rw [bytesD_len]; omega), bytesD_len, show 16 * 1 + j - 16 = j by omega]; exact hb
  unfold rawD
  rw [List.getElem?_map, e]; rfl
theorem dg_bd (b : UInt8) : -1 ≤ dg b ∧ dg b ≤ 1 := by unfold dg; omega
theorem rawD_bd {seed k : Int} : ∀ x ∈ rawD seed k, -1 ≤ x ∧ x ≤ 1 := fun x hx => by
  unfold rawD at hx
  obtain ⟨b, -, rfl⟩ := List.mem_map.1 hx
  exact dg_bd b
theorem fixl_len (l : List Int) : (fixl l).length = l.length := by unfold fixl; split <;> simp
theorem drawnL_len (seed k : Int) {d : Nat} (hd : d ≤ 32) : (drawnL seed k d).length = d := by
  unfold drawnL; rw [fixl_len, List.length_take, rawD_len]; omega
theorem drawnL_line {seed k : Int} {d : Nat} (h1 : 1 ≤ d) (hd : d ≤ 32) : isLine (drawnL seed k d) = true := by
  unfold drawnL fixl
  split
  · assumption
  · refine isLine_iff.2 ⟨fun x hx => ?_, 1, ?_, by decide⟩
    · rcases List.mem_or_eq_of_mem_set hx with h | h
      · have := rawD_bd x (List.mem_of_mem_take h); omega
      · omega
    · exact List.mem_iff_getElem.2 ⟨0, by rw [List.length_set, List.length_take, rawD_len]; omega, by simp⟩
/-- the first d cells of a block are a list -/
def LineAt (w : World) (g d : Nat) (l : List Int) : Prop := l.length = d ∧ ∃ cur, w.heap[g]? = some (.cells cur 3 (0, 0)) ∧ cur.toList.take d = iv l
theorem LineAt.lt {w : World} {g d : Nat} {l : List Int} (h : LineAt w g d l) : g < w.heap.size := by
  obtain ⟨-, cur, h, -⟩ := h
  exact (Array.getElem?_eq_some_iff.1 h).1
theorem LineAt.below {w w' : World} {g d : Nat} {l : List Int} (h : LineAt w g d l) (hb : Below w.heap.size w w') : LineAt w' g d l := by
  have hl := h.lt
  obtain ⟨h0, cur, h1, h2⟩ := h
  exact ⟨h0, cur, (hb.block g hl).trans h1, h2⟩
theorem LineAt.rc {w : World} {g d : Nat} {l : List Int} (h : LineAt w g d l) : wp.RC w (some ⟨g, 0, none⟩) (iv l) := by
  obtain ⟨h0, cur, h1, h2⟩ := h
  refine wo.rc_of fun i u hu => ?_
  rw [wk.add_at, Nat.zero_add, cell_of_row _ _ _ _ _ _ h1]
  rw [← h2] at hu
  have hi : i < d := by
    rcases Nat.lt_or_ge i d with h' | h'
    · exact h'
    · rw [List.getElem?_eq_none (by rw [List.length_take]; omega)] at hu; cases hu
  rw [List.getElem?_take_of_lt hi] at hu
  simpa using hu
theorem LineAt.is {w : World} {g d : Nat} {l : List Int} (h : LineAt w g d l) (hd : d ≤ 32) (hb : ∀ x ∈ l, -9223372036854775808 ≤ x ∧ x ≤ 9223372036854775807) : wo.IsI w (some ⟨g, 0, none⟩) d d l := ⟨h.1, Nat.le_refl _, by omega, h.rc, hb⟩
theorem LineAt.kept {w w' : World} {g d B n size : Nat} {l : List Int} {v : Value} {xs : List Value} {e : TypeId} (h : LineAt w g d l) (ho : w.ownsRow B e size v n xs) (hne : e ≠ 3) (hg : w.grownBy w' v.ownBlock) : LineAt w' g d l := by
  have hl := h.lt
  obtain ⟨h0, cur, h1, h2⟩ := h
  refine ⟨h0, cur, (hg.block g hl ?_).trans h1, h2⟩
  intro he
  rcases ho.2 with ⟨rfl, _⟩ | ⟨g1, cap1, cur1, rfl, _, hh1, _⟩
  · simp [Value.ownBlock] at he
  · have : g = g1 := by injection he
    subst this
    rw [h1] at hh1
    injection hh1 with hh
    injection hh with _ h3 _
    exact hne h3.symm
theorem own_row {w : World} {B n : Nat} {v : Value} {xs : List Value} {e : TypeId} (h : w.ownsRow B e 1 v n xs) (hn : 1 ≤ n) : ∃ g cap cur, v = .slice (some ⟨g, 0, none⟩) n cap ∧ B ≤ g ∧ w.heap[g]? = some (.cells cur e (0, 0)) ∧ n ≤ cap ∧ cap ≤ maxLen ∧ cur.toList.take n = xs ∧ cur.size = cap := by
  rcases h.2 with ⟨_, h0⟩ | ⟨g, cap, cur, rfl, hb, hg, h1, h2, h3, h4⟩
  · omega
  · exact ⟨g, cap, cur, rfl, hb, hg, h1, h2, by rw [Nat.mul_one] at h4; exact h4, by omega⟩
theorem run_uptoI (w' : World) (b o n c k : Nat) (hk : k ≤ n) (hc : n ≤ c) : (Instr.slice 24 (.slice (some ⟨b, o, none⟩) n c) none (some (.int .i64 (k : Int))) none).run Tryd.prog w' = .ok (.slice (some ⟨b, o, none⟩) k c) w' := by
  have ht : Tryd.prog.underlying 24 = some (.slice (Tryd.prog.elem 24)) := by simp [Program.elem, Tryd.underlying24]
  have he : Tryd.prog.elem 24 = 3 := by simp [Program.elem, Tryd.underlying24]
  rw [run_slice_h w' 24 (some ⟨b, o, none⟩) n c ht .i64 (k : Int) (by omega) (by omega), he, wk.run_sizeOf w' 3 1 (by kernel_rfl)]
  simp only [Result.andThen, sliced, Int.toNat_natCast, Option.map_some, wk.add_at, Nat.mul_one, Nat.sub_zero, Nat.add_zero, ite_self]
set_option maxRecDepth 100000 in
theorem clip_calls (g n c : Nat) (w : World) (hn : n ≤ c) (hc : c ≤ 9223372036854775807) : Calls Tryd.prog 60 #[.slice (some ⟨g, 0, none⟩) n c] w fun e w' => e = .returned (.slice (some ⟨g, 0, none⟩) n n) ∧ w' = w := by
  have hcut : ∀ w', (Instr.slice 24 (.slice (some ⟨g, 0, none⟩) n c) none (some (.int .i64 (n : Int))) (some (.int .i64 (n : Int)))).run Tryd.prog w' = .ok (.slice (some ⟨g, 0, none⟩) n n) w' := fun w' => wk.run_cut_full w' 24 3 Tryd.underlying24 (by kernel_rfl) ⟨g, 0, none⟩ n c hn
  go_enter Tryd.func60, Tryd.ntmps60
  go_wp2_with fail
  go_ret
  exact ⟨rfl, rfl⟩
theorem enc3_len (s k h : Int) (hs : -9223372036854775808 ≤ s ∧ s ≤ 9223372036854775807) (hk : -9223372036854775808 ≤ k ∧ k ≤ 9223372036854775807) (hh : -9223372036854775808 ≤ h ∧ h ≤ 9223372036854775807) : (wp.encIs [s, k, h]).length ≤ 40 :=
  vq.encIs_length [s, k, h] (fun x hx => by simp at hx; rcases hx with rfl | rfl | rfl <;> assumption) (by simp)
theorem encB_len (l : List UInt8) (h : l.length ≤ 1000) : (wp.encB l).length ≤ 1010 := by
  unfold wp.encB
  have := wp.encI_length (n := (l.length : Int)) (by omega) (by omega)
  rw [List.length_append]; omega
set_option maxRecDepth 100000 in
set_option maxHeartbeats 8000000 in
theorem drawn_calls (seed : Int) (k d : Nat) (w : World) (hsd : -9223372036854775808 ≤ seed ∧ seed ≤ 9223372036854775807) (hk : k ≤ 1000) (h1 : 1 ≤ d) (hd : d ≤ 32) (hT : hi.TabK w) :
    Calls Tryd.prog 40 #[.int .i64 seed, .int .i64 (k : Int), .int .i64 (d : Int)] w fun e w' => ∃ g, e = .returned (.slice (some ⟨g, 0, none⟩) d d) ∧ LineAt w' g d (drawnL seed (k : Int) d) ∧ Below w.heap.size w w' := by
  obtain ⟨i0, hi9, hz0, hz1, hz2⟩ := info_parts wi.infoI
  have HT := Lib.hid hT
  clear hT
  have hnI : (i0.bytes : Nat) * d ≤ 281474976710656 := by rw [hz2]; omega
  obtain ⟨w1, hmk, hown, hgr⟩ := run_make_own (P := Tryd.prog) w (w).heap.size 24 3 i0 (.int .i64 0) 1 Tryd.underlying24 hi9 hz0 hz1 .i64 .i64 d hnI (by unfold maxLen; omega) (Nat.le_refl _)
  have HB1 : Hid (Below (w).heap.size (w) w1) := (Below.refl _ _).grown hgr (Nat.le_refl _) (fun k hk => by cases hk)
  have HOWN := Lib.hid hown
  clear hown hgr
  generalize hG : w.heap.size = B at *
  have HG := Lib.hid hG
  clear hG
  have HS := Lib.hid hsd
  go_enter Tryd.func40, Tryd.ntmps40
  go_wp2_with fail
  go_loopg [7, 13] 2 (fun g v x wr => ∃ (h : Nat) (v0 : Value), h + g = 2 ∧ v0 = v ∧ x = .int .i64 (h : Int) ∧ wr.ownsRow B 3 1 v0 (16 * h) (iv ((rawD seed (k : Int)).take (16 * h))) ∧ Below B w wr)
  case atStart => exact ⟨0, _, by omega, rfl, rfl, HOWN.out, HB1.out⟩
  case round =>
    obtain ⟨h, v0, hk0, rfl, rfl, hown, hbel⟩ := hrel
    have HK := Lib.hid hk0
    have HOWN2 := Lib.hid hown
    have HBEL := Lib.hid hbel
    have hkn : h ≤ 2 := by omega
    clear hk0 hown hbel
    by_cases hlt : h < 2
    · have hlt0 : (h : Int) < 2 := by omega
      have hbn := below_new wr (.cells #[.int .i64 seed, .int .i64 (k : Int), .int .i64 (h : Int)] 3)
      have HBN := Lib.hid hbn
      have HEL := Lib.hid (enc3_len seed (k : Int) (h : Int) hsd (by omega) (by omega))
      have hINT := (wi.ints_out (some ⟨wr.heap.size, 0, none⟩) 3 3 [seed, (k : Int), (h : Int)] (wr.alloc (.cells #[.int .i64 seed, .int .i64 (k : Int), .int .i64 (h : Int)] 3)) rfl (by omega) (by omega) (wi.RC_new rfl _ _ rfl) (fun x hx => by simp at hx; rcases hx with rfl | rfl | rfl <;> omega) (by have := HEL.out; omega)).mono fun e w' hh => isB_of_out hh
      have HINT := Lib.hid hINT
      clear hINT hbn
      go_wp2_with fail
      refine HINT.out.mono ?_
      rintro e w3 ⟨A3, c3, rfl, hI3, hb3⟩
      have hcv := conv_b hI3
      have hlen := hI3.2.1
      have hm3 := hI3.2.2.1
      have HEQ : Hid (([⟨(wp.encIs [seed, (k : Int), (h : Int)]).toArray⟩] : List ByteArray).flatMap (fun s => wp.encB s.data.toList) = wp.encB (wp.encIs [seed, (k : Int), (h : Int)])) := by show _ = _; simp
      have HDD : Hid ((hs.sha (hi.tagB 7 :: wp.encB (wp.encIs [seed, (k : Int), (h : Int)]))).take 16 = bytesD seed (k : Int) (h : Int)) := rfl
      have HB3 := Lib.hid (Below.andThen HBN.out hb3)
      have HOWN3 := Lib.hid (keptB HOWN2.out HB3.out)
      have hBw : B ≤ wr.heap.size := by have := HBEL.out.size; have := HG.out; omega
      have HBEL3 := Lib.hid (HBEL.out.trans (HB3.out.mono hBw))
      have HELB := Lib.hid (encB_len (wp.encIs [seed, (k : Int), (h : Int)]) (by have := HEL.out; omega))
      have hbn := below_new w3 (.cells #[.string ⟨(wp.encIs [seed, (k : Int), (h : Int)]).toArray⟩] 9)
      have HBN3 := Lib.hid hbn
      have hHB : B ≤ w3.heap.size := by have := HBEL3.out.size; have := HG.out; omega
      have HTT : Hid (hi.TabK (w3.alloc (.cells #[.string ⟨(wp.encIs [seed, (k : Int), (h : Int)]).toArray⟩] 9))) := HT.out.below (by have := HT.out.1; have := HG.out; omega) (HBEL3.out.trans (HBN3.out.mono hHB))
      have hOF := hi.of_calls 7 (some ⟨w3.heap.size, 0, none⟩) 1 1 [⟨(wp.encIs [seed, (k : Int), (h : Int)]).toArray⟩] (w3.alloc (.cells #[.string ⟨(wp.encIs [seed, (k : Int), (h : Int)]).toArray⟩] 9)) rfl (by omega) (by omega) (wi.RC_new rfl _ _ rfl) (by omega) (by rw [HEQ.out]; have := HELB.out; omega) HTT.out
      rw [HEQ.out, HDD.out] at hOF
      have HOF := Lib.hid hOF
      have HDL := Lib.hid (bytesD_len seed (k : Int) (h : Int))
      have HRAW := Lib.hid (fun (j : Nat) (b : UInt8) (hb : (bytesD seed (k : Int) (h : Int))[j]? = some b) => raw_at (seed := seed) (k := (k : Int)) hlt hb)
      clear hOF hbn hI3 hb3 HINT HEL HBN HELB HEQ HDD HTT
      generalize bytesD seed (k : Int) (h : Int) = D at *
      generalize (wp.encIs [seed, (k : Int), (h : Int)]) = E at *
      go_wp2_with fail
      refine HOF.out.mono ?_
      rintro e w4 ⟨rfl, hb4⟩
      have HB4 := Lib.hid (Below.andThen HBN3.out hb4)
      have HOWN4 := Lib.hid (keptB HOWN3.out HB4.out)
      have HBEL4 := Lib.hid (HBEL3.out.trans (HB4.out.mono hHB))
      clear hb4 HOF hcv hlen hm3 HOWN3 HBN3 HBEL3 HB3 hBw hHB HOWN2 HBEL
      go_wp2_with fail
      go_loopg [7, 24] 16 (fun g v x wr => ∃ (j : Nat) (v1 : Value), j + g = 16 ∧ v1 = v ∧ x = .int .i64 (j : Int) ∧ wr.ownsRow B 3 1 v1 (16 * h + j) (iv ((rawD seed (k : Int)).take (16 * h + j))) ∧ Below B w wr)
      case atStart => exact ⟨0, _, by omega, rfl, rfl, HOWN4.out, HBEL4.out⟩
      case round =>
        obtain ⟨j, v1, hj, rfl, rfl, hown, hbel⟩ := hrel
        have HJ := Lib.hid hj
        have HOWNJ := Lib.hid hown
        have HBELJ := Lib.hid hbel
        have hjn : j ≤ 16 := by omega
        clear hj hown hbel
        by_cases hlj : j < 16
        · have hlj0 : (j : Int) < 16 := by omega
          obtain ⟨b, hb⟩ : ∃ b, D[j]? = some b := ⟨_, List.getElem?_eq_getElem (by rw [HDL.out]; exact hlj)⟩
          have HS2 : Hid ((rawD seed (k : Int)).take (16 * h + j + 1) = (rawD seed (k : Int)).take (16 * h + j) ++ [dg b]) := jq.take_snoc (HRAW.out j b hb)
          have hix : ∀ w', (Instr.index 65 (.agg (wp.bc D).toArray) (.int .i64 (j : Int))).run Tryd.prog w' = .ok (.int .u8 (b.toNat : Int)) w' := fun w' => wk.run_index_arr w' _ _ 16 .u8 Tryd.underlying65 Tryd.underlying5 (by kernel_rfl) _ j _ hlj (by simp [wp.bc, hb])
          have hz255 : (b.toNat : Int) ≤ 255 := by have := UInt8.toNat_lt b; omega
          have htm : (b.toNat : Int).tmod 3 = (b.toNat : Int) % 3 := Int.tmod_eq_emod_of_nonneg (by omega)
          have hdg : (b.toNat : Int) % 3 - 1 = dg b := rfl
          have hz0' : 0 ≤ (b.toNat : Int) := by omega
          have hr0 : 0 ≤ (b.toNat : Int) % 3 := by omega
          have hr3 : (b.toNat : Int) % 3 < 3 := by omega
          have hdb := dg_bd b
          have HDG := Lib.hid hdg
          clear hdg hb
          generalize dg b = z at *
          generalize (b.toNat : Int) % 3 = r at *
          generalize (b.toNat : Int) = y at *
          have hrz : r - 1 = z := HDG.out
          have hBW : B ≤ wr.heap.size := by have := HBELJ.out.size; have := HG.out; omega
          go_wp2_with (at_builtin; refine wpList_append_own _ rfl _ _ 24 rfl B 3 i0 (.int .i64 0) 1 8 Tryd.underlying24 hi9 hz0 hz1 hz2 rfl (by decide) _ _ _ rfl (HOWNJ.out.alloc _) ⟨wr.heap.size, 0, none⟩ 1 1 [.int .i64 z] rfl rfl ?c1 ?c2 ?c3 ?c4 ?c5 ?_)
          case c1 => exact cell_one_new _ _ _
          case c2 => simp [Value.oneCell']
          case c3 => unfold maxLen; omega
          case c4 => omega
          case c5 => simp; omega
          intro v' w5 hown2 hgrow _
          have hbe : Below B w w5 := (HBELJ.out.alloc hBW _).grown hgrow (by simp; omega) (fun q hq => (HOWNJ.out.lt q hq).1)
          have HB5 := Lib.hid hbe
          have HO5 := Lib.hid hown2
          clear hown2 hgrow hbe hix
          go_wp2_with fail
          go_roundg (gk - 1)
          case measure => have := HJ.out; omega
          case rel =>
            refine ⟨j + 1, _, by have := HJ.out; omega, rfl, by go_num, ?_, HB5.out⟩
            have hO := HO5.out
            show _
            rw [← Nat.add_assoc, HS2.out]
            unfold iv at hO ⊢
            rw [List.map_append]
            simpa using hO
        · obtain rfl : j = 16 := by omega
          go_wp2_with fail
          go_roundg (2 - (h + 1))
          case measure => have := HK.out; omega
          case rel => exact ⟨h + 1, _, by omega, rfl, by go_num, by rw [show 16 * (h + 1) = 16 * h + 16 by omega]; exact HOWNJ.out, HBELJ.out⟩
    · obtain rfl : h = 2 := by omega
      have ho := HOWN2.out
      rw [List.take_of_length_le (by rw [rawD_len]; omega)] at ho
      obtain ⟨g, cap, cur, rfl, hBg, hrow, hcap, hcap2, htk, hsz⟩ := own_row ho (by omega)
      have hcap' : cap ≤ 9223372036854775807 := by unfold maxLen at hcap2; omega
      have hcut := fun w' => run_uptoI w' g 0 32 cap d hd hcap
      have hLA : LineAt wr g d ((rawD seed (k : Int)).take d) := ⟨by rw [List.length_take, rawD_len]; omega, cur, hrow, by
        have e : cur.toList.take d = (cur.toList.take (16 * 2)).take d := by rw [List.take_take, Nat.min_eq_left (by omega)]
        rw [e, htk]; simp [iv, List.map_take]⟩
      have hgl : g < wr.heap.size := (Array.getElem?_eq_some_iff.1 hrow).1
      have HLA := Lib.hid hLA
      have hd32 : d ≤ cap := by omega
      have HCL := Lib.hid (clip_calls g d cap wr hd32 hcap')
      have HIL := Lib.hid (isLine_calls (some ⟨g, 0, none⟩) d d _ wr (hLA.is hd (fun x hx => by have := rawD_bd x (List.mem_of_mem_take hx); omega)))
      have hcell : ∃ u, wr.cell? ⟨g, 0, none⟩ = some u := by
        rw [cell_of_row _ _ _ _ _ _ hrow]
        exact ⟨_, Array.getElem?_eq_getElem (by omega)⟩
      obtain ⟨u0, hc0⟩ := hcell
      have hf0 : wr.frozen? ⟨g, 0, none⟩ = false := frozen_of_row _ _ _ _ _ hrow
      have HROW := Lib.hid hrow
      have HTK := Lib.hid htk
      have HSZ := Lib.hid hsz
      have HDE : Hid (drawnL seed (k : Int) d = fixl ((rawD seed (k : Int)).take d)) := rfl
      have hd0 : (0 : Int) < (d : Int) := by omega
      have hd0' : 0 < d := by omega
      clear ho hrow htk hLA HOWN2 hsz
      generalize (rawD seed (k : Int)).take d = L at *
      go_wp2_with fail
      refine HCL.out.mono ?_
      rintro e w' ⟨rfl, rfl⟩
      go_wp2_with fail
      refine HIL.out.mono ?_
      rintro e w'' ⟨rfl, rfl⟩
      cases hli : isLine L
      · go_wp2_with fail
        go_ret
        refine ⟨g, rfl, ?_, ?_⟩
        · rw [HDE.out]
          unfold fixl
          rw [hli]
          refine ⟨by simp [HLA.out.1], _, heap_setCell_same _ _ _ _ _ _ HROW.out, ?_⟩
          obtain ⟨h0, cur2, h2, h3⟩ := HLA.out
          rw [HROW.out] at h2
          injection h2 with h2
          injection h2 with h4 _ _
          subst h4
          simp only [Bool.false_eq_true, if_false, Array.toList_setIfInBounds]
          rw [List.take_set, h3]
          simp [iv, List.map_set]
        · first | exact HBEL.out.setCell (p := ⟨g, _, none⟩) hBg _ | (rw [HG.out]; exact HBEL.out.setCell (p := ⟨g, _, none⟩) hBg _)
      · go_wp2_with fail
        go_ret
        refine ⟨g, rfl, ?_, by first | exact HBEL.out | (rw [HG.out]; exact HBEL.out)⟩
        rw [HDE.out]
        unfold fixl
        rw [hli]
        exact HLA.out
end Go.Proofs.YtjhagfggelhpkaaDoor.jk
/- Lines; the reference: what lines and ranges are. -/
namespace Go.Proofs.YtjhagfggelhpkaaDoor.jk

open Go.ChangeShapes Go.WideShapes Go.ChangeAt Go.RowKit

open Go.Proofs.YtjhagfggelhpkaaDoor.jq Go.Proofs.YtjhagfggelhpkaaDoor.vk Go.Proofs.YtjhagfggelhpkaaDoor.wk

set_option linter.unusedVariables false
def linesL (seed : Int) (n d : Nat) : List (List Int) := (List.range n).map fun k : Nat => drawnL seed (k : Int) d
theorem linesL_len (seed : Int) (n d : Nat) : (linesL seed n d).length = n := by simp [linesL]
theorem linesL_at {seed : Int} {n d k : Nat} (h : k < n) : (linesL seed n d)[k]? = some (drawnL seed (k : Int) d) := by simp [linesL, h]
theorem drawnL_bd {seed k : Int} {d : Nat} : ∀ x ∈ drawnL seed k d, -1 ≤ x ∧ x ≤ 1 := fun x hx => by
  unfold drawnL fixl at hx
  split at hx
  · exact rawD_bd x (List.mem_of_mem_take hx)
  · rcases List.mem_or_eq_of_mem_set hx with h | h
    · exact rawD_bd x (List.mem_of_mem_take h)
    · omega
theorem linesL_valid {seed : Int} {n d : Nat} (h1 : 1 ≤ n) (h8 : n ≤ 8) (hd1 : 1 ≤ d) (hd : d ≤ 32) : validL (linesL seed n d) d = true := by
  unfold validL
  rw [linesL_len]
  simp only [Bool.and_eq_true, decide_eq_true_eq, List.all_eq_true]
  refine ⟨⟨⟨⟨h1, h8⟩, by omega⟩, by omega⟩, fun l hl => ?_⟩
  unfold linesL at hl
  obtain ⟨k, -, rfl⟩ := List.mem_map.1 hl
  unfold lineFor
  rw [drawnL_len seed k hd, drawnL_line hd1 hd]
  simp
theorem infoVz : (Tryd.prog.info? 24).map (fun i => (i.zero, i.size, i.bytes)) = some (some (.slice none 0 0), 1, 24) := by kernel_rfl
def gsv (gs : List Nat) (d : Nat) : List Value := gs.map fun g => .slice (some ⟨g, 0, none⟩) d d
theorem isVV_of_own {w : World} {B n d : Nat} {v : Value} {gs : List Nat} {L : List (List Int)} (h : w.ownsRow B 24 1 v n (gsv gs d)) (hd : d ≤ 32) (hl : gs.length = L.length) (hL : ∀ (i g : Nat) (l : List Int), gs[i]? = some g → L[i]? = some l → LineAt w g d l) (hb : ∀ l ∈ L, ∀ x ∈ l, -9223372036854775808 ≤ x ∧ x ≤ 9223372036854775807) : ∃ A c, v = .slice A n c ∧ IsVV w A n c L := by
  have hn : gs.length = n := by have := h.1; simpa [gsv] using this
  rcases h.2 with ⟨hv, hn0⟩ | ⟨g, cap, cur, hv, hb2, hh, h3, h4, h5, h6⟩
  · subst hv
    exact ⟨none, 0, by rw [hn0], by omega, by omega, by omega, fun k l hk => by have := (List.getElem?_eq_some_iff.1 hk).1; omega⟩
  · subst hv
    refine ⟨_, _, rfl, by omega, h3, by unfold maxLen at h4; omega, fun k l hk => ?_⟩
    have hkl := (List.getElem?_eq_some_iff.1 hk).1
    have hg : gs[k]? = some (gs[k]'(by omega)) := List.getElem?_eq_getElem _
    have hc := h.cells rfl k (.slice (some ⟨gs[k]'(by omega), 0, none⟩) d d) (by simp [gsv, hg])
    rw [wk.add_at] at hc
    exact ⟨g, 0, _, d, d, rfl, (Array.getElem?_eq_some_iff.1 hh).1, hc, (hL k _ l hg hk).is hd (hb l (List.mem_of_getElem? hk))⟩
set_option maxRecDepth 100000 in
set_option maxHeartbeats 4000000 in
theorem lines_calls (seed : Int) (n d : Nat) (w : World) (hsd : -9223372036854775808 ≤ seed ∧ seed ≤ 9223372036854775807) (h1 : 1 ≤ n) (h8 : n ≤ 8) (hd1 : 1 ≤ d) (hd : d ≤ 32) (hT : hi.TabK w) :
    Calls Tryd.prog 13 #[.int .i64 seed, .int .i64 (n : Int), .int .i64 (d : Int)] w fun e w' => ∃ A c, e = .returned (.slice A n c) ∧ IsVV w' A n c (linesL seed n d) ∧ Below w.heap.size w w' := by
  obtain ⟨i0, hi9, hz0, hz1, hz2⟩ := info_parts infoVz
  have HT := Lib.hid hT
  clear hT
  have hnI : (i0.bytes : Nat) * n ≤ 281474976710656 := by rw [hz2]; omega
  have hE : gsv [] d = [] := rfl
  obtain ⟨w1, hmk, hown, hgr⟩ := run_make_own (P := Tryd.prog) w w.heap.size 22 24 i0 (.slice none 0 0) 1 Tryd.underlying22 hi9 hz0 hz1 .i64 .i64 n hnI (by unfold maxLen; omega) (Nat.le_refl _)
  have HB1 : Hid (Below w.heap.size w w1) := (Below.refl _ _).grown hgr (Nat.le_refl _) (fun k hk => by cases hk)
  have HOWN := Lib.hid hown
  clear hown hgr
  generalize hG : w.heap.size = B at *
  have HG := Lib.hid hG
  clear hG
  go_enter Tryd.func13, Tryd.ntmps13
  go_wp2_with fail
  go_loopg [7, 26] n (fun g v x wr => ∃ (k : Nat) (v0 : Value) (gs : List Nat), k + g = n ∧ v0 = v ∧ x = .int .i64 (k : Int) ∧ gs.length = k ∧ wr.ownsRow B 24 1 v0 k (gsv gs d) ∧ (∀ (i g : Nat), gs[i]? = some g → LineAt wr g d (drawnL seed (i : Int) d)) ∧ Below B w wr)
  case atStart => exact ⟨0, _, [], by omega, rfl, rfl, rfl, HOWN.out, fun i g h => by simp at h, HB1.out⟩
  case round =>
    obtain ⟨k, v0, gs, hk0, rfl, rfl, hgl, hown, hls, hbel⟩ := hrel
    have HK := Lib.hid hk0
    have HGL := Lib.hid hgl
    have HOWN2 := Lib.hid hown
    have HLS := Lib.hid hls
    have HBEL := Lib.hid hbel
    have hkn : k ≤ n := by omega
    clear hk0 hown hbel hls hgl
    by_cases hlt : k < n
    · have hBw : B ≤ wr.heap.size := by have := HBEL.out.size; have := HG.out; omega
      have HTK : Hid (hi.TabK wr) := HT.out.below (by have := HT.out.1; have := HG.out; omega) HBEL.out
      have HDR := Lib.hid (drawn_calls seed k d wr hsd (by omega) hd1 hd HTK.out)
      have hlt0 : (k : Int) < (n : Int) := by omega
      go_wp2_with fail
      refine HDR.out.mono ?_
      rintro e w4 ⟨g4, rfl, hl4, hb4⟩
      have HOWN4 := Lib.hid (keptB HOWN2.out hb4)
      have HBEL4 := Lib.hid (HBEL.out.trans (hb4.mono hBw))
      have HLS4 : Hid (∀ (i g : Nat), (gs ++ [g4])[i]? = some g → LineAt w4 g d (drawnL seed (i : Int) d)) := fun i g h => by
        rcases Nat.lt_trichotomy i gs.length with h' | h' | h'
        · rw [List.getElem?_append_left h'] at h
          exact (HLS.out i g h).below hb4
        · rw [List.getElem?_append_right (by omega), h', Nat.sub_self] at h
          simp at h
          subst h
          rw [h', HGL.out]
          exact hl4
        · rw [List.getElem?_eq_none (by simp; omega)] at h; cases h
      have hBW4 : B ≤ w4.heap.size := by have := hb4.size; omega
      clear hl4 hb4 HDR HOWN2 HLS HBEL HTK
      go_wp2_with (at_builtin; refine wpList_append_own _ rfl _ _ 22 rfl B 24 i0 (.slice none 0 0) 1 24 Tryd.underlying22 hi9 hz0 hz1 hz2 rfl (by decide) _ _ _ rfl (HOWN4.out.alloc _) ⟨w4.heap.size, 0, none⟩ 1 1 [.slice (some ⟨g4, 0, none⟩) d d] rfl rfl ?c1 ?c2 ?c3 ?c4 ?c5 ?_)
      case c1 => exact cell_one_new _ _ _
      case c2 => simp [Value.oneCell']
      case c3 => unfold maxLen; omega
      case c4 => omega
      case c5 => simp; omega
      intro v' w5 hown2 hgrow _
      have hbe : Below B w w5 := (HBEL4.out.alloc hBW4 _).grown hgrow (by simp; omega) (fun q hq => (HOWN4.out.lt q hq).1)
      have HLS5 : Hid (∀ (i g : Nat), (gs ++ [g4])[i]? = some g → LineAt w5 g d (drawnL seed (i : Int) d)) := fun i g h => ((HLS4.out i g h).below (below_new _ _)).kept (HOWN4.out.alloc _) (by decide) hgrow
      have HB5 := Lib.hid hbe
      have HO5 := Lib.hid hown2
      clear hown2 hgrow hbe HLS4 HOWN4 HBEL4
      go_wp2_with fail
      go_roundg (gk - 1)
      case measure => have := HK.out; omega
      case rel =>
        refine ⟨k + 1, _, gs ++ [g4], by have := HK.out; omega, rfl, by go_num, by simp [HGL.out], ?_, HLS5.out, HB5.out⟩
        have hO := HO5.out
        unfold gsv at hO ⊢
        rw [List.map_append]
        simpa using hO
    · obtain rfl : k = n := by omega
      obtain ⟨A, c, rfl, hVV⟩ := isVV_of_own (L := linesL seed k d) HOWN2.out hd (by rw [HGL.out, linesL_len]) (fun i g l hg hl => by
        have hi := (List.getElem?_eq_some_iff.1 hl).1
        rw [linesL_len] at hi
        rw [linesL_at hi] at hl
        injection hl with hl
        subst hl
        exact HLS.out i g hg) (fun l hl x hx => by
          unfold linesL at hl
          obtain ⟨i, -, rfl⟩ := List.mem_map.1 hl
          have := drawnL_bd x hx; omega)
      have HVV := Lib.hid hVV
      clear hVV
      go_wp2_with fail
      go_ret
      exact ⟨A, c, rfl, HVV.out, by first | exact HBEL.out | (rw [HG.out]; exact HBEL.out)⟩
set_option maxRecDepth 100000 in
set_option maxHeartbeats 4000000 in
theorem refsteep_calls (d : Int) (A : Option Addr) (n c : Nat) (l : List Int) (w : World) (h : wo.IsI w A n c l) :
    Calls Tryd.prog 39 #[.slice A n c, .int .i64 d] w fun e w' => e = .returned (.bool (lineFor d l)) ∧ w' = w := by
  have hm := h.2.2.1
  have hnc := h.2.1
  have hE : lineFor d l = (decide ((n : Int) = d) && (l.all okS && l.any nz)) := by unfold lineFor isLine; rw [h.1]
  rw [hE]
  have H := Lib.hid h
  clear h hE
  go_enter Tryd.func39, Tryd.ntmps39
  go_wp2_with fail
  go_loopg [5, 6] n (fun g v x wr => ∃ (k : Nat) (b : Bool), k + g = n ∧ v = .bool b ∧ x = .int .i64 (k : Int) ∧ wr = w ∧ (l.take k).any nz = b ∧ (l.take k).all okS = true)
  case atStart => exact ⟨0, false, by omega, rfl, rfl, rfl, by simp, by simp⟩
  case round =>
    obtain ⟨k, b, hk, rfl, rfl, rfl, hr, hr2⟩ := hrel
    have HK := Lib.hid hk
    have HR := Lib.hid hr
    have HR2 := Lib.hid hr2
    have hkn : k ≤ n := by omega
    clear hk hr hr2
    by_cases hlt : k < n
    · obtain ⟨bb, o, x, rfl, hc, hx0, -, -⟩ := isI_at H.out hlt
      have hlt0 : (k : Int) < (n : Int) := by omega
      have HX := Lib.hid hx0
      clear hx0
      by_cases g1 : x < -16
      · go_wp2_with fail
        go_ret
        refine ⟨?_, rfl⟩
        have h1 : l.all okS = false := by
          rw [List.all_eq_false]; exact ⟨x, List.mem_of_getElem? HX.out, by simp [okS]; omega⟩
        rw [h1]; simp
      · by_cases g2 : x > 16
        · go_wp2_with fail
          go_ret
          refine ⟨?_, rfl⟩
          have h1 : l.all okS = false := by
            rw [List.all_eq_false]; exact ⟨x, List.mem_of_getElem? HX.out, by simp [okS]; omega⟩
          rw [h1]; simp
        · have HOK : Hid (okS x = true) := by show _ = _; simp [okS]; omega
          cases b
          · by_cases g3 : x = 0
            · subst g3
              go_wp2_with fail
              go_roundg (gk - 1)
              case measure => have := HK.out; omega
              case rel => exact ⟨k + 1, false, by have := HK.out; omega, rfl, by go_num, rfl, by rw [jq.take_snoc HX.out, List.any_append, HR.out]; rfl, by rw [jq.take_snoc HX.out, List.all_append, HR2.out]; simp [HOK.out]⟩
            · go_wp2_with fail
              go_roundg (gk - 1)
              case measure => have := HK.out; omega
              case rel => exact ⟨k + 1, true, by have := HK.out; omega, by first | rfl | simp [g3], by go_num, rfl, by rw [jq.take_snoc HX.out, List.any_append, HR.out]; simp [nz, g3], by rw [jq.take_snoc HX.out, List.all_append, HR2.out]; simp [HOK.out]⟩
          · go_wp2_with fail
            go_roundg (gk - 1)
            case measure => have := HK.out; omega
            case rel => exact ⟨k + 1, true, by have := HK.out; omega, rfl, by go_num, rfl, by rw [jq.take_snoc HX.out, List.any_append, HR.out]; rfl, by rw [jq.take_snoc HX.out, List.all_append, HR2.out]; simp [HOK.out]⟩
    · have h1 := HR.out
      have h2 := HR2.out
      rw [List.take_of_length_le (by have := H.out.1; omega)] at h1 h2
      have H1 := Lib.hid h1
      have H2 := Lib.hid h2
      clear h1 h2
      cases b
      · go_wp2_with fail
        go_ret
        exact ⟨by rw [H1.out, H2.out]; simp, rfl⟩
      · by_cases hd : (n : Int) = d
        · subst hd
          go_wp2_with fail
          go_ret
          exact ⟨by rw [H1.out, H2.out]; simp, rfl⟩
        · have hd' : decide ((n : Int) = d) = false := decide_eq_false hd
          go_wp2_with fail
          go_ret
          exact ⟨by rw [H1.out, H2.out]; first | (simp [hd]; done) | simp [hd'], rfl⟩
set_option maxRecDepth 100000 in
set_option maxHeartbeats 4000000 in
theorem refvalid_calls (d : Int) (A : Option Addr) (n c : Nat) (L : List (List Int)) (w : World) (h : IsVV w A n c L) :
    Calls Tryd.prog 12 #[.slice A n c, .int .i64 d] w fun e w' => e = .returned (.bool (validL L d)) ∧ w' = w := by
  have hm := h.2.2.1
  have hnc := h.2.1
  have hE : validL L d = (decide (1 ≤ n) && decide (n ≤ 8) && decide (1 ≤ d) && decide (d ≤ 32) && L.all (lineFor d)) := by simp only [validL, h.1]
  rw [hE]
  have H := Lib.hid h
  clear h hE
  by_cases h3 : 1 ≤ d
  ·
    by_cases h4 : d ≤ 32
    ·
      by_cases h1 : 1 ≤ n
      ·
        by_cases h2 : n ≤ 8
        ·
          rw [decide_eq_true h1, decide_eq_true h2, decide_eq_true h3, decide_eq_true h4]
          go_enter Tryd.func12, Tryd.ntmps12
          go_wp2_with fail
          go_loopg [5] n (fun g x wr => ∃ k : Nat, k + g = n ∧ x = .int .i64 (k : Int) ∧ wr = w ∧ (L.take k).all (lineFor d) = true)
          case atStart => exact ⟨0, by omega, rfl, rfl, by simp⟩
          case round =>
            obtain ⟨k, hk, rfl, rfl, hr⟩ := hrel
            have HK := Lib.hid hk
            have HR := Lib.hid hr
            have hkn : k ≤ n := by omega
            clear hk hr
            by_cases hlt : k < n
            · obtain ⟨b, o, A', n', c', l, rfl, hb, hc, hI, hx0⟩ := isVV_get H.out hlt
              have hlt0 : (k : Int) < (n : Int) := by omega
              have HC := Lib.hid (refsteep_calls d A' n' c' l wr hI)
              have HX := Lib.hid hx0
              clear hx0 hI
              cases hx : lineFor d l
              · rw [hx] at HC
                go_wp2_with fail
                refine HC.out.mono ?_
                rintro e w' ⟨rfl, rfl⟩
                go_wp2_with fail
                go_ret
                have h5 : L.all (lineFor d) = false := by
                  rw [List.all_eq_false]
                  exact ⟨l, List.mem_of_getElem? HX.out, by simp [hx]⟩
                exact ⟨by rw [h5]; rfl, rfl⟩
              · rw [hx] at HC
                go_wp2_with fail
                refine HC.out.mono ?_
                rintro e w' ⟨rfl, rfl⟩
                go_wp2_with fail
                go_roundg (gk - 1)
                case measure => have := HK.out; omega
                case rel =>
                  refine ⟨k + 1, by have := HK.out; omega, by go_num, rfl, ?_⟩
                  rw [jq.take_snoc HX.out, List.all_append, HR.out]
                  simp [hx]
            · go_wp2_with fail
              go_ret
              have h5 := HR.out
              rw [List.take_of_length_le (by have := H.out.1; omega)] at h5
              exact ⟨by rw [h5]; rfl, rfl⟩
        ·
          rw [show (decide (1 ≤ n) && decide (n ≤ 8) && decide (1 ≤ d) && decide (d ≤ 32) && L.all (lineFor d)) = false by simp [h2]]
          go_enter Tryd.func12, Tryd.ntmps12
          go_wp2_with fail
          go_ret
          exact ⟨rfl, rfl⟩
      ·
        rw [show (decide (1 ≤ n) && decide (n ≤ 8) && decide (1 ≤ d) && decide (d ≤ 32) && L.all (lineFor d)) = false by simp [h1]]
        go_enter Tryd.func12, Tryd.ntmps12
        go_wp2_with fail
        go_ret
        exact ⟨rfl, rfl⟩
    ·
      rw [show (decide (1 ≤ n) && decide (n ≤ 8) && decide (1 ≤ d) && decide (d ≤ 32) && L.all (lineFor d)) = false by simp [h4]]
      go_enter Tryd.func12, Tryd.ntmps12
      go_wp2_with fail
      go_ret
      exact ⟨rfl, rfl⟩
  ·
    rw [show (decide (1 ≤ n) && decide (n ≤ 8) && decide (1 ≤ d) && decide (d ≤ 32) && L.all (lineFor d)) = false by simp [h3]]
    go_enter Tryd.func12, Tryd.ntmps12
    go_wp2_with fail
    go_ret
    exact ⟨rfl, rfl⟩
set_option maxRecDepth 100000 in
set_option maxHeartbeats 4000000 in
theorem ranges_calls (m : Int) {r : List R} {n c : Nat} {A : Option Addr} (w : World) (h : IsR w A n c r) :
    Calls Tryd.prog 30 #[.slice A n c, .int .i64 m] w fun e w' => e = .returned (.bool (ranges r m)) ∧ ∃ q, w' = w.drewN q := by
  have hm := h.2.2.1
  have hnc := h.2.1
  have hE : ranges r m = (decide ((n : Int) = m) && r.all okR) := by unfold ranges; rw [h.1]
  rw [hE]
  have H := Lib.hid h
  clear h hE
  go_enter Tryd.func30, Tryd.ntmps30
  go_wp2_with fail
  go_loopg [5] n (fun g x wr => ∃ k q : Nat, k + g = n ∧ x = .int .i64 (k : Int) ∧ wr = w.drewN q ∧ (r.take k).all okR = true)
  case atStart => exact ⟨0, 0, by omega, rfl, rfl, by simp⟩
  case round =>
    obtain ⟨k, q, hk, rfl, rfl, hr⟩ := hrel
    have HK := Lib.hid hk
    have HR := Lib.hid hr
    have hkn : k ≤ n := by omega
    clear hk hr
    by_cases hlt : k < n
    · obtain ⟨b, o, ⟨lo, hi⟩, rfl, hx1, hx2, hb1, hX, hwx⟩ := isR_get H.out hlt
      dsimp only at hx1 hx2
      have HX := Lib.hid hX
      have hlt0 : (k : Int) < (n : Int) := by omega
      clear hX hwx hb1
      by_cases g1 : hi < lo
      ·
        have HN : Hid (okR (lo, hi) = false) := by show _ = _; unfold okR; simp; omega
        go_wp2_with fail
        go_quiet (fail)
        go_wp2_with fail
        go_ret
        refine ⟨?_, _, by first | rfl | exact drewN_add _ _ _⟩
        have h1 : r.all okR = false := by
          rw [List.all_eq_false]
          exact ⟨_, List.mem_of_getElem? HX.out, by simp [HN.out]⟩
        rw [h1]; simp
      · by_cases g2 : lo < -1073741824
        ·
          have HN : Hid (okR (lo, hi) = false) := by show _ = _; unfold okR; simp; omega
          go_wp2_with fail
          go_quiet (fail)
          go_wp2_with fail
          go_ret
          refine ⟨?_, _, by first | rfl | exact drewN_add _ _ _⟩
          have h1 : r.all okR = false := by
            rw [List.all_eq_false]
            exact ⟨_, List.mem_of_getElem? HX.out, by simp [HN.out]⟩
          rw [h1]; simp
        · by_cases g3 : 1073741824 < hi
          ·
            have HN : Hid (okR (lo, hi) = false) := by show _ = _; unfold okR; simp; omega
            go_wp2_with fail
            go_quiet (fail)
            go_wp2_with fail
            go_ret
            refine ⟨?_, _, by first | rfl | exact drewN_add _ _ _⟩
            have h1 : r.all okR = false := by
              rw [List.all_eq_false]
              exact ⟨_, List.mem_of_getElem? HX.out, by simp [HN.out]⟩
            rw [h1]; simp
          · have HN : Hid (okR (lo, hi) = true) := by show _ = _; unfold okR; simp; omega
            go_wp2_with fail
            go_quiet (fail)
            go_wp2_with fail
            go_roundg (gk - 1)
            case measure => have := HK.out; omega
            case rel => exact ⟨k + 1, _, by have := HK.out; omega, by go_num, by first | rfl | exact drewN_add _ _ _, by rw [jq.take_snoc HX.out, List.all_append, HR.out]; simp [HN.out]⟩
    · have h1 := HR.out
      rw [List.take_of_length_le (by have := H.out.1; omega)] at h1
      have H1 := Lib.hid h1
      clear h1
      by_cases hd : (n : Int) = m
      · subst hd
        go_wp2_with fail
        go_ret
        exact ⟨by rw [H1.out]; simp, q, rfl⟩
      · have hd' : decide ((n : Int) = m) = false := decide_eq_false hd
        go_wp2_with fail
        go_ret
        exact ⟨by rw [H1.out]; first | (simp [hd]; done) | simp [hd'], q, rfl⟩
end Go.Proofs.YtjhagfggelhpkaaDoor.jk
/- The reference: what fits, equal ranges. -/
namespace Go.Proofs.YtjhagfggelhpkaaDoor.jk

open Go.ChangeShapes Go.WideShapes Go.ChangeAt Go.RowKit

open Go.Proofs.YtjhagfggelhpkaaDoor.jq Go.Proofs.YtjhagfggelhpkaaDoor.vk Go.Proofs.YtjhagfggelhpkaaDoor.wk

set_option linter.unusedVariables false
set_option maxRecDepth 100000 in
set_option maxHeartbeats 4000000 in
theorem fits_calls {L V : List (List Int)} {n c nv cv : Nat} {A AV : Option Addr} (w : World) (h : IsVV w A n c L) (hV : IsVV w AV nv cv V) :
    Calls Tryd.prog 16 #[.slice A n c, .slice AV nv cv] w fun e w' => e = .returned (.bool (vq.allv V 20 && validL L ((V.headD []).length : Int))) ∧ ∃ q, w' = w.drewN q := by
  have HA := Lib.hid (rall_calls AV nv cv V w hV)
  have hnc := hV.2.1
  have hm := hV.2.2.1
  cases hal : vq.allv V 20
  · rw [hal] at HA
    clear h hV hal
    go_enter Tryd.func16, Tryd.ntmps16
    go_wp2_with fail
    refine HA.out.mono ?_
    rintro e w' ⟨rfl, q, rfl⟩
    go_wp2_with fail
    go_ret
    exact ⟨rfl, q, rfl⟩
  · rw [hal] at HA
    have h20 := (vq.allv_iff.1 hal).2.1
    have hl := hV.1
    obtain ⟨b, o, A0, n0, c0, l0, rfl, hb0, hc0, hI0, hL0⟩ := isVV_get hV (k := 0) (by omega)
    rw [Nat.add_zero] at hc0
    have hd : (V.headD []).length = n0 := by cases V with
      | nil => simp at hL0
      | cons a V => simp at hL0; subst hL0; exact hI0.1
    rw [hd]
    have HV := Lib.hid (fun q => refvalid_calls (n0 : Int) A n c L (w.drewN q) (isVV_drewN h q))
    have h0 : (0 : Int) < (nv : Int) := by omega
    have h0' : 0 < nv := by omega
    clear h hV hal hL0 hI0 hd hb0 h20 hl
    generalize validL L (n0 : Int) = bv at *
    go_enter Tryd.func16, Tryd.ntmps16
    go_wp2_with fail
    refine HA.out.mono ?_
    rintro e w' ⟨rfl, q, rfl⟩
    go_wp2_with fail
    refine (HV.out q).mono ?_
    rintro e w' ⟨rfl, rfl⟩
    go_wp2_with fail
    go_ret
    exact ⟨by simp, q, rfl⟩
theorem g1 : Tryd.prog.eqGuardType Tryd.prog.depth 47 = false := by kernel_rfl
theorem g3 : Tryd.prog.stoodInHeld 47 = false := by kernel_rfl
theorem g2 : Tryd.prog.underlying 47 = some (.struct (Tryd.prog.fieldsOf 47)) := by kernel_rfl
theorem eq_rng (w : World) (x1 x2 y1 y2 : Int) : (Op.equalIn 10000 47 (.agg #[.int .i64 x1, .int .i64 x2]) (.agg #[.int .i64 y1, .int .i64 y2])).run Tryd.prog w = .ok (decide (x1 = y1 ∧ x2 = y2)) w := by
  rw [show (10000 : Nat) = 9999 + 1 from rfl, run_equalIn_agg w 9999 _ _ _ g2 g3]
  simp only [Program.fieldsOf, Tryd.underlying47]
  go_simp
  by_cases h1 : x1 = y1 <;> by_cases h2 : x2 = y2 <;> simp [h1, h2]
theorem drop_eq_iff {a b : List R} {k : Nat} {x y : R} (h : a[k]? = some x) (h' : b[k]? = some y) : (a.drop k == b.drop k) = (x == y && (a.drop (k + 1) == b.drop (k + 1))) := by
  have e : ∀ {l : List R} {z : R}, l[k]? = some z → l.drop k = z :: l.drop (k + 1) := fun {l z} hz => by
    obtain ⟨hk, rfl⟩ := List.getElem?_eq_some_iff.1 hz
    exact List.drop_eq_getElem_cons hk
  rw [e h, e h']; rfl
set_option maxRecDepth 100000 in
set_option maxHeartbeats 4000000 in
theorem rsame_calls {r s : List R} {n c n' c' : Nat} {A A' : Option Addr} (w : World) (h : IsR w A n c r) (h' : IsR w A' n' c' s) :
    Calls Tryd.prog 21 #[.slice A n c, .slice A' n' c'] w fun e w' => e = .returned (.bool (r == s)) ∧ ∃ q, w' = w.drewN q := by
  have hm := h.2.2.1
  have hnc := h.2.1
  have hm' := h'.2.2.1
  have hnc' := h'.2.1
  by_cases hnn : n = n'
  · subst hnn
    have H := Lib.hid h
    have H' := Lib.hid h'
    clear h h'
    go_enter Tryd.func21, Tryd.ntmps21
    go_wp2_with fail
    go_loopg [5] n (fun g x wr => ∃ k q : Nat, k + g = n ∧ x = .int .i64 (k : Int) ∧ wr = w.drewN q ∧ (r == s) = (r.drop k == s.drop k))
    case atStart => exact ⟨0, 0, by omega, rfl, rfl, rfl⟩
    case round =>
      obtain ⟨k, q, hk, rfl, rfl, hr⟩ := hrel
      have HK := Lib.hid hk
      have HR := Lib.hid hr
      have hkn : k ≤ n := by omega
      clear hk hr
      by_cases hlt : k < n
      · obtain ⟨b, o, ⟨x1, x2⟩, rfl, hx1, hx2, hb1, hX, hwx⟩ := isR_get H.out hlt
        obtain ⟨b2, o2, ⟨y1, y2⟩, rfl, hy1, hy2, hb2, hY, hwy⟩ := isR_get H'.out hlt
        dsimp only at hx1 hx2 hy1 hy2
        have HS := Lib.hid (drop_eq_iff hX hY)
        have hlt0 : (k : Int) < (n : Int) := by omega
        have hg1 := g1
        have hee := fun w' => eq_rng w' x1 x2 y1 y2
        clear hX hY hwx hwy hb1 hb2
        by_cases hxy : x1 = y1 ∧ x2 = y2
        · have HBE : Hid (((x1, x2) : R) == (y1, y2)) := by show _ = true; obtain ⟨h1, h2⟩ := hxy; subst h1 h2; simp
          go_wp2_with fail
          go_quiet (fail)
          go_wp2_with fail
          go_roundg (gk - 1)
          case measure => have := HK.out; omega
          case rel => exact ⟨k + 1, _, by have := HK.out; omega, by go_num, by first | rfl | exact drewN_add _ _ _, by rw [HR.out, HS.out, HBE.out]; rfl⟩
        · have HBE : Hid ((((x1, x2) : R) == (y1, y2)) = false) := by
            show _ = _
            rw [beq_eq_false_iff_ne]
            intro h; injection h with h1 h2; exact hxy ⟨h1, h2⟩
          go_wp2_with fail
          go_quiet (fail)
          go_wp2_with fail
          go_ret
          exact ⟨by rw [HR.out, HS.out, HBE.out]; rfl, _, by first | rfl | exact drewN_add _ _ _⟩
      · have h1 := HR.out
        rw [List.drop_of_length_le (by have := H.out.1; omega), List.drop_of_length_le (by have := H'.out.1; omega)] at h1
        have H1 := Lib.hid h1
        clear h1
        go_wp2_with fail
        go_ret
        exact ⟨by rw [H1.out]; rfl, q, rfl⟩
  · have hE : (r == s) = false := by
      rw [beq_eq_false_iff_ne]
      intro h2; subst h2; exact hnn (h.1.symm.trans h'.1)
    rw [hE]
    have hne : ((n : Int) == (n' : Int)) = false := by simp; omega
    clear h h' hE
    go_enter Tryd.func21, Tryd.ntmps21
    go_wp2_with fail
    go_ret
    exact ⟨rfl, 0, rfl⟩
end Go.Proofs.YtjhagfggelhpkaaDoor.jk
/- The examples of the chapter. -/
namespace Go.Proofs.YtjhagfggelhpkaaDoor.jk

open Go.ChangeShapes Go.WideShapes Go.ChangeAt Go.RowKit

open Go.Proofs.YtjhagfggelhpkaaDoor.jq Go.Proofs.YtjhagfggelhpkaaDoor.vk Go.Proofs.YtjhagfggelhpkaaDoor.wk

set_option linter.unusedVariables false
theorem isI_new2 (w : World) (a b : Int) (ha : -9223372036854775808 ≤ a ∧ a ≤ 9223372036854775807) (hb : -9223372036854775808 ≤ b ∧ b ≤ 9223372036854775807) : wo.IsI (w.alloc (.cells #[.int .i64 a, .int .i64 b] 3)) (some ⟨w.heap.size, 0, none⟩) 2 2 [a, b] :=
  ⟨rfl, by omega, by omega, wi.RC_new rfl _ _ rfl, fun x hx => by simp at hx; rcases hx with rfl | rfl <;> assumption⟩
theorem isR_new2 (w : World) (a b c d : Int) (h : Wd (a, b)) (h' : Wd (c, d)) : IsR (w.alloc (.cells #[.int .i64 a, .int .i64 b, .int .i64 c, .int .i64 d] 47)) (some ⟨w.heap.size, 0, none⟩) 2 2 [(a, b), (c, d)] :=
  ⟨rfl, by omega, by omega, wi.RC_new rfl _ _ rfl, fun x hx => by simp at hx; rcases hx with rfl | rfl <;> assumption⟩
abbrev W2 (w : World) (a b c d : Int) : World := ((w.alloc (.cells #[.int .i64 a, .int .i64 b] 3)).alloc (.cells #[.int .i64 c, .int .i64 d] 3)).alloc (.cells #[.slice (some ⟨w.heap.size, 0, none⟩) 2 2, .slice (some ⟨w.heap.size + 1, 0, none⟩) 2 2] 24)
theorem below_W2 (w : World) (a b c d : Int) : Below w.heap.size w (W2 w a b c d) := (Below.andThen (Below.andThen (below_new _ _) (below_new _ _)) (below_new _ _))
theorem isVV_W2 (w : World) (a b c d : Int) (ha : -1000 ≤ a ∧ a ≤ 1000) (hb : -1000 ≤ b ∧ b ≤ 1000) (hc : -1000 ≤ c ∧ c ≤ 1000) (hd : -1000 ≤ d ∧ d ≤ 1000) : IsVV (W2 w a b c d) (some ⟨w.heap.size + 1 + 1, 0, none⟩) 2 2 [[a, b], [c, d]] := by
  have h1 := isI_below (isI_below (isI_new2 w a b (by omega) (by omega)) (below_new _ (.cells #[.int .i64 c, .int .i64 d] 3))) (below_new _ (.cells #[.slice (some ⟨w.heap.size, 0, none⟩) 2 2, .slice (some ⟨w.heap.size + 1, 0, none⟩) 2 2] 24))
  have h2 := isI_below (isI_new2 (w.alloc (.cells #[.int .i64 a, .int .i64 b] 3)) c d (by omega) (by omega)) (below_new _ (.cells #[.slice (some ⟨w.heap.size, 0, none⟩) 2 2, .slice (some ⟨w.heap.size + 1, 0, none⟩) 2 2] 24))
  rw [size_new] at h2
  have hs : ((w.alloc (.cells #[.int .i64 a, .int .i64 b] 3)).alloc (.cells #[.int .i64 c, .int .i64 d] 3)).heap.size = w.heap.size + 1 + 1 := by rw [size_new, size_new]
  have hrow : (W2 w a b c d).heap[w.heap.size + 1 + 1]? = some (.cells #[.slice (some ⟨w.heap.size, 0, none⟩) 2 2, .slice (some ⟨w.heap.size + 1, 0, none⟩) 2 2] 24 (0, 0)) := by
    rw [← hs]; exact heap_alloc_new _ _
  have hlt := (Array.getElem?_eq_some_iff.1 hrow).1
  refine ⟨rfl, by omega, by omega, fun k l hk => ?_⟩
  rcases (by have := (List.getElem?_eq_some_iff.1 hk).1; simp at this; omega : k = 0 ∨ k = 1) with rfl | rfl
  · simp at hk; subst hk
    exact ⟨_, _, _, 2, 2, rfl, hlt, by rw [cell_of_row _ _ _ _ _ _ hrow]; rfl, h1⟩
  · simp at hk; subst hk
    exact ⟨_, _, _, 2, 2, rfl, hlt, by rw [cell_of_row _ _ _ _ _ _ hrow]; rfl, h2⟩
def sL : List (List Int) := [[1, 1], [2, -1]]
def sV : List (List Int) := [[0, 0], [3, 1]]
def sR : List R := [(0, 4), (0, 5)]
theorem s_of : ofR sL sV = sR := by decide +kernel
theorem s_apply : apply sL [3, 1] = [4, 5] := by decide +kernel
theorem s_b1 : bound 1 sL sR [5, 5] = 6 := by decide +kernel
theorem s_b2 : bound 2 sL sR [5, 5] = 18 := by decide +kernel
theorem s_b3 : bound 3 sL sR [5, 5] = 3 := by decide +kernel
theorem s_h1 : has sR [4, 5] = true := by decide +kernel
theorem s_h2 : has sR [5, 5] = false := by decide +kernel
theorem s_w : widest sR = 1 := by decide +kernel
theorem s_v2 : validL sL 2 = true := by decide +kernel
theorem s_v3 : validL sL 3 = false := by decide +kernel
theorem s_fit : Fit sL 2 := valid_iff.1 (by exact s_v2)
theorem vec2 {a b : Int} (ha : -1000 ≤ a ∧ a ≤ 1000) (hb : -1000 ≤ b ∧ b ≤ 1000) : vq.Vec [a, b] := ⟨by simp, by simp, fun x hx => by simp at hx; omega, fun x hx => by simp at hx; omega⟩
theorem tab_below {w w' : World} (h : hi.TabK w) (hb : Below w.heap.size w w') : hi.TabK w' := h.below h.1 hb
structure SF (w0 : World) (A1 A2 : Option Addr) (c2 g : Nat) (w : World) : Prop where
  lines : IsVV w A1 2 2 sL
  rng : IsR w A2 2 c2 sR
  q : wo.IsI w (some ⟨g, 0, none⟩) 2 2 [5, 5]
  tab : hi.TabK w
  bel : Below w0.heap.size w0 w
theorem SF.next {w0 : World} {A1 A2 : Option Addr} {c2 g : Nat} {w w' : World} (h : SF w0 A1 A2 c2 g w) (hb : Below w.heap.size w w') : SF w0 A1 A2 c2 g w' :=
  ⟨isVV_below h.lines hb, isR_below h.rng hb, isI_below h.q hb, tab_below h.tab hb, Below.andThen h.bel hb⟩
theorem SF.drew {w0 : World} {A1 A2 : Option Addr} {c2 g : Nat} {w : World} (h : SF w0 A1 A2 c2 g w) (q : Nat) : SF w0 A1 A2 c2 g (w.drewN q) := ⟨h.lines, h.rng, h.q, h.tab, below_drewN h.bel q⟩
theorem SF.args {w0 : World} {A1 A2 : Option Addr} {c2 g : Nat} {w : World} (h : SF w0 A1 A2 c2 g w) : BArgs w sL sR [5, 5] 2 2 2 A1 c2 A2 2 (some ⟨g, 0, none⟩) :=
  ⟨h.lines, h.rng, h.q, s_fit, vec2 (by omega) (by omega), fun x hx => by simp [sR] at hx; rcases hx with rfl | rfl <;> (dsimp only; omega)⟩
set_option maxRecDepth 100000 in
set_option maxHeartbeats 8000000 in
theorem san7_calls (w : World) (hT : hi.TabK w) : Calls Tryd.prog 10 #[] w fun e w' => e = .returned (.bool true) ∧ Below w.heap.size w w' := by
  have HT := Lib.hid hT
  clear hT
  go_enter Tryd.func10, Tryd.ntmps10
  go_upto_region 2 with fail
  change Code.wp _ _ _ _ (W2 w 1 1 2 (-1))
  have HL := Lib.hid (isVV_W2 w 1 1 2 (-1) (by omega) (by omega) (by omega) (by omega))
  have HB := Lib.hid (below_W2 w 1 1 2 (-1))
  generalize W2 w 1 1 2 (-1) = w1 at *
  generalize w.heap.size + 1 + 1 = gl at *
  have HV := Lib.hid (isVV_W2 w1 0 0 3 1 (by omega) (by omega) (by omega) (by omega))
  have HB1 := Lib.hid (below_W2 w1 0 0 3 1)
  have HOF := Lib.hid (of_calls (d := 2) _ (isVV_below HL.out HB1.out) HV.out s_fit (by omega) (by omega) (by intro l hl; simp at hl; rcases hl with rfl | rfl <;> rfl) (by intro l hl; simp at hl; rcases hl with rfl | rfl; exact vec2 (by omega) (by omega); exact vec2 (by omega) (by omega)))
  go_wp2_with fail
  refine HOF.out.mono ?_
  rintro e w2 ⟨A2, c2, rfl, hR, hb⟩
  have hR' : IsR w2 A2 2 c2 sR := by rw [← s_of]; exact hR
  have HB2 := Lib.hid (Below.andThen HB1.out hb)
  have HS : Hid (SF w (some ⟨gl, 0, none⟩) A2 c2 w2.heap.size (w2.alloc (.cells #[.int .i64 5, .int .i64 5] 3))) :=
    ⟨isVV_below (isVV_below HL.out HB2.out) (below_new _ _), isR_below hR' (below_new _ _), isI_new2 w2 5 5 (by omega) (by omega), tab_below (tab_below (tab_below HT.out HB.out) HB2.out) (below_new _ _), Below.andThen (Below.andThen HB.out HB2.out) (below_new _ _)⟩
  clear hR hR' hb HOF HV HB1 HB2 HL HT HB
  go_upto_region 4 with fail
  change Code.wp _ _ _ _ (w2.alloc (.cells #[.int .i64 5, .int .i64 5] 3))
  generalize w2.alloc (.cells #[.int .i64 5, .int .i64 5] 3) = w3 at *
  generalize w2.heap.size = gq at *
  have HN := Lib.hid (rsame_calls (w3.alloc (.cells #[.int .i64 0, .int .i64 4, .int .i64 0, .int .i64 5] 47)) (isR_below HS.out.rng (below_new _ _)) (isR_new2 w3 0 4 0 5 (by unfold Wd; dsimp only; omega) (by unfold Wd; dsimp only; omega)))
  rw [show (sR == [(0, 4), (0, 5)]) = true by decide +kernel] at HN
  go_wp2_with fail
  refine HN.out.mono ?_
  rintro e w' ⟨rfl, q, rfl⟩
  replace HS := Lib.hid (SF.drew (HS.out.next (below_new w3 (.cells #[.int .i64 0, .int .i64 4, .int .i64 0, .int .i64 5] 47))) q)
  generalize ((w3.alloc (.cells #[.int .i64 0, .int .i64 4, .int .i64 0, .int .i64 5] 47)).drewN q) = w4 at *
  clear HN
  have HN := Lib.hid (apply_calls (w4.alloc (.cells #[.int .i64 3, .int .i64 1] 3)) (isVV_below HS.out.lines (below_new _ _)) (isI_new2 w4 3 1 (by omega) (by omega)) s_fit (vec2 (by omega) (by omega)))
  go_wp2_with fail
  refine HN.out.mono ?_
  rintro e w5 ⟨v3, rfl, ho, hb⟩
  replace HS := Lib.hid ((HS.out.next (below_new w4 (.cells #[.int .i64 3, .int .i64 1] 3))).next hb)
  obtain ⟨A5, c5, rfl, hI5⟩ := apply_is s_fit (vec2 (by omega) (by omega)) ho
  rw [s_apply] at hI5
  have HI5 := Lib.hid hI5
  clear hI5 ho
  clear hb
  clear HN
  have HN := Lib.hid (same_calls A5 _ 2 2 c5 2 [4, 5] [4, 5] (w5.alloc (.cells #[.int .i64 4, .int .i64 5] 3)) (isI_below HI5.out (below_new _ _)) (isI_new2 w5 4 5 (by omega) (by omega)))
  rw [show (([4, 5] : List Int) == [4, 5]) = true by decide +kernel] at HN
  go_wp2_with fail
  refine HN.out.mono ?_
  rintro e w' ⟨rfl, q, rfl⟩
  replace HS := Lib.hid (SF.drew (HS.out.next (below_new w5 (.cells #[.int .i64 4, .int .i64 5] 3))) q)
  generalize ((w5.alloc (.cells #[.int .i64 4, .int .i64 5] 3)).drewN q) = w6 at *
  clear HN
  have HN := Lib.hid (bound_calls 1 (Or.inl rfl) w6 HS.out.args)
  rw [s_b1] at HN
  go_wp2_with fail
  refine HN.out.mono ?_
  rintro e w7 ⟨rfl, hb⟩
  replace HS := Lib.hid (HS.out.next hb)
  clear hb
  clear HN
  have HN := Lib.hid (bound_calls 2 (Or.inr (Or.inl rfl)) w7 HS.out.args)
  rw [s_b2] at HN
  go_wp2_with fail
  refine HN.out.mono ?_
  rintro e w8 ⟨rfl, hb⟩
  replace HS := Lib.hid (HS.out.next hb)
  clear hb
  clear HN
  have HN := Lib.hid (bound_calls 3 (Or.inr (Or.inr rfl)) w8 HS.out.args)
  rw [s_b3] at HN
  go_wp2_with fail
  refine HN.out.mono ?_
  rintro e w9 ⟨rfl, hb⟩
  replace HS := Lib.hid (HS.out.next hb)
  clear hb
  clear HN
  have HN := Lib.hid (has_calls (w9.alloc (.cells #[.int .i64 4, .int .i64 5] 3)) (isR_below HS.out.rng (below_new _ _)) (isI_new2 w9 4 5 (by omega) (by omega)))
  rw [s_h1] at HN
  go_wp2_with fail
  refine HN.out.mono ?_
  rintro e w' ⟨rfl, q, rfl⟩
  replace HS := Lib.hid (SF.drew (HS.out.next (below_new w9 (.cells #[.int .i64 4, .int .i64 5] 3))) q)
  generalize ((w9.alloc (.cells #[.int .i64 4, .int .i64 5] 3)).drewN q) = w10 at *
  clear HN
  have HN := Lib.hid (has_calls (w10.alloc (.cells #[.int .i64 5, .int .i64 5] 3)) (isR_below HS.out.rng (below_new _ _)) (isI_new2 w10 5 5 (by omega) (by omega)))
  rw [s_h2] at HN
  go_wp2_with fail
  refine HN.out.mono ?_
  rintro e w' ⟨rfl, q, rfl⟩
  replace HS := Lib.hid (SF.drew (HS.out.next (below_new w10 (.cells #[.int .i64 5, .int .i64 5] 3))) q)
  generalize ((w10.alloc (.cells #[.int .i64 5, .int .i64 5] 3)).drewN q) = w11 at *
  clear HN
  have HN := Lib.hid (widest_calls w11 HS.out.rng (fun x hx => by simp [sR] at hx; rcases hx with rfl | rfl <;> (dsimp only; omega)))
  rw [s_w] at HN
  go_wp2_with fail
  refine HN.out.mono ?_
  rintro e w' ⟨rfl, q, rfl⟩
  replace HS := Lib.hid (SF.drew (HS.out) q)
  generalize ((w11).drewN q) = w12 at *
  clear HN
  have HN := Lib.hid (pvalid_calls 2 _ 2 2 sL w12 HS.out.lines)
  rw [s_v2] at HN
  go_wp2_with fail
  refine HN.out.mono ?_
  rintro e w13 ⟨rfl, hb⟩
  replace HS := Lib.hid (HS.out.next hb)
  clear hb
  clear HN
  have HN := Lib.hid (pvalid_calls 3 _ 2 2 sL w13 HS.out.lines)
  rw [s_v3] at HN
  go_wp2_with fail
  refine HN.out.mono ?_
  rintro e w14 ⟨rfl, hb⟩
  replace HS := Lib.hid (HS.out.next hb)
  clear hb
  clear HN
  have HN := Lib.hid (lines_calls 1 2 3 w14 (by omega) (by omega) (by omega) (by omega) (by omega) HS.out.tab)
  go_wp2_with fail
  refine HN.out.mono ?_
  rintro e w15 ⟨A9, c9, rfl, h9, hb⟩
  replace HS := Lib.hid (HS.out.next hb)
  clear hb
  clear HN
  go_wp2_with fail
  go_ret
  exact ⟨rfl, HS.out.bel⟩
end Go.Proofs.YtjhagfggelhpkaaDoor.jk
/- Norms and keys: inequalities. No program here. -/
namespace Go.Proofs.YtjhagfggelhpkaaDoor.vq
theorem two_elim {motive : (a b : List Int) → a.length = b.length → Prop} (nil : motive [] [] rfl) (cons : ∀ x y a b (h : a.length = b.length), motive a b h → motive (x :: a) (y :: b) (by simp [h])) : ∀ a b (h : a.length = b.length), motive a b h
  | [], [], _ => nil
  | x :: a, y :: b, h => cons x y a b (by simpa using h) (two_elim nil cons a b _)
  | [], _ :: _, h => by simp at h
  | _ :: _, [], h => by simp at h
/-- Cauchy and Schwarz, for a list of pairs -/
def pp (l : List (Int × Int)) : Int := sm (l.map fun p => p.1 * p.1)
def qq (l : List (Int × Int)) : Int := sm (l.map fun p => p.2 * p.2)
def pq (l : List (Int × Int)) : Int := sm (l.map fun p => p.1 * p.2)
theorem form_nonneg (s t : Int) : ∀ l : List (Int × Int), 0 ≤ s * s * pp l + 2 * s * t * pq l + t * t * qq l
  | [] => by simp [pp, pq, qq, sm]
  | x :: l => by
    have h := form_nonneg s t l
    have h2 := sq_nonneg (s * x.1 + t * x.2)
    simp only [pp, pq, qq, List.map_cons, sm] at h ⊢
    grind
theorem pp_nonneg : ∀ l, 0 ≤ pp l
  | [] => by simp [pp, sm]
  | x :: l => by have := pp_nonneg l; have := sq_nonneg x.1; simp only [pp, List.map_cons, sm] at *; omega
theorem qq_nonneg : ∀ l, 0 ≤ qq l
  | [] => by simp [qq, sm]
  | x :: l => by have := qq_nonneg l; have := sq_nonneg x.2; simp only [qq, List.map_cons, sm] at *; omega
theorem cauchy (l : List (Int × Int)) : pq l * pq l ≤ pp l * qq l := by
  have hA := pp_nonneg l
  have hB := qq_nonneg l
  have hf := fun s t => form_nonneg s t l
  generalize pp l = A at *
  generalize qq l = B at *
  generalize pq l = C at *
  rcases (by omega : B = 0 ∨ 0 < B) with h0 | h0
  · subst h0
    have h := hf 1 (-(A + 1) * C)
    rcases Int.lt_trichotomy C 0 with hc | hc | hc
    · exfalso
      have h1 : 1 ≤ C * C := by have := Int.mul_nonneg (show 0 ≤ -C - 1 by omega) (show 0 ≤ -C + 1 by omega); grind
      have h2 := Int.mul_nonneg (show 0 ≤ A + 1 by omega) (show 0 ≤ C * C - 1 by omega)
      grind
    · subst hc; simp
    · exfalso
      have h1 : 1 ≤ C * C := by have := Int.mul_nonneg (show 0 ≤ C - 1 by omega) (show 0 ≤ C + 1 by omega); grind
      have h2 := Int.mul_nonneg (show 0 ≤ A + 1 by omega) (show 0 ≤ C * C - 1 by omega)
      grind
  · have h := hf B (-C)
    have h1 : 0 ≤ B * (A * B - C * C) := by grind
    rcases Int.lt_or_le (A * B - C * C) 0 with h2 | h2
    · exfalso
      have := Int.mul_neg_of_pos_of_neg h0 h2
      omega
    · omega
theorem ab_sq (x : Int) : ab x * ab x = x * x := by
  rcases Int.le_total 0 x with h | h
  · rw [show ab x = x by unfold ab; omega]
  · rw [show ab x = -x by unfold ab; omega, Int.neg_mul_neg]
theorem mx_ge {v : List Int} {x : Int} (h : x ∈ v) : ab x ≤ mx v := by
  induction v with
  | nil => cases h
  | cons y v ih =>
    simp only [mx]
    rcases List.mem_cons.1 h with rfl | h
    · omega
    · have := ih h; omega
theorem mx_le_sm : ∀ v : List Int, mx v ≤ sm (v.map ab)
  | [] => by simp [mx, sm]
  | x :: v => by have := mx_le_sm v; have := ab_nonneg x; have := sm_ab_nonneg v; simp only [mx, List.map_cons, sm]; omega
theorem sm_ab_le {M : Int} : ∀ v : List Int, (∀ x ∈ v, ab x ≤ M) → sm (v.map ab) ≤ v.length * M
  | [], _ => by simp [sm]
  | x :: v, h => by
    have := sm_ab_le v fun y hy => h y (by simp [hy])
    have := h x (by simp)
    simp only [List.map_cons, sm, List.length_cons]
    have e : ((v.length + 1 : Nat) : Int) * M = v.length * M + M := by push_cast; rw [Int.add_mul, Int.one_mul]
    omega
theorem sm_sq_le {M : Int} : ∀ v : List Int, (∀ x ∈ v, ab x ≤ M) → sm (v.map fun x => x * x) ≤ M * sm (v.map ab)
  | [], _ => by simp [sm]
  | x :: v, h => by
    have h1 := sm_sq_le v fun y hy => h y (by simp [hy])
    have h2 := h x (by simp)
    have h3 := Int.mul_le_mul_of_nonneg_right h2 (ab_nonneg x)
    rw [ab_sq] at h3
    simp only [List.map_cons, sm]
    rw [Int.mul_add]
    omega
theorem sq_le_sm {x : Int} : ∀ v : List Int, x ∈ v → x * x ≤ sm (v.map fun x => x * x)
  | [], h => by cases h
  | y :: v, h => by
    simp only [List.map_cons, sm]
    have h1 := sq_nonneg y
    have h2 := sm_sq_nonneg v
    rcases List.mem_cons.1 h with rfl | h
    · omega
    · have := sq_le_sm v h; omega
theorem mx_at : ∀ v : List Int, mx v = 0 ∨ ∃ x ∈ v, ab x = mx v
  | [] => .inl rfl
  | x :: v => by
    have h0 := mx_nonneg v
    have h1 := ab_nonneg x
    rcases (by omega : mx v ≤ ab x ∨ ab x < mx v) with h | h
    · exact .inr ⟨x, by simp, by simp only [mx]; omega⟩
    · rcases mx_at v with h2 | ⟨y, hy, h2⟩
      · omega
      · exact .inr ⟨y, by simp [hy], by simp only [mx]; omega⟩
theorem mx_sq_le (v : List Int) : mx v * mx v ≤ sm (v.map fun x => x * x) := by
  rcases mx_at v with h | ⟨x, hx, h⟩
  · rw [h]; have := sm_sq_nonneg v; omega
  · rw [← h, ab_sq]; exact sq_le_sm v hx
theorem ones (v : List Int) : pp (v.map fun x => (ab x, 1)) = sm (v.map fun x => x * x) ∧ qq (v.map fun x => (ab x, 1)) = v.length ∧ pq (v.map fun x => (ab x, 1)) = sm (v.map ab) := by
  induction v with
  | nil => simp [pp, qq, pq, sm]
  | cons x v ih =>
    obtain ⟨h1, h2, h3⟩ := ih
    simp only [pp, qq, pq, List.map_cons, sm, List.length_cons, ab_sq] at h1 h2 h3 ⊢
    rw [h1, h2, h3]
    refine ⟨rfl, by omega, by omega⟩
theorem sm_ab_sq (v : List Int) : sm (v.map ab) * sm (v.map ab) ≤ v.length * sm (v.map fun x => x * x) := by
  have := cauchy (v.map fun x => (ab x, 1))
  obtain ⟨h1, h2, h3⟩ := ones v
  rw [h1, h2, h3] at this
  rw [Int.mul_comm (v.length : Int)]
  exact this
theorem norms (v : List Int) : norm 3 v ≤ norm 1 v ∧ norm 1 v ≤ v.length * norm 3 v ∧ norm 3 v * norm 3 v ≤ norm 2 v ∧ norm 2 v ≤ norm 3 v * norm 1 v ∧ norm 1 v * norm 1 v ≤ v.length * norm 2 v ∧ dot v v = norm 2 v := by
  rw [norm1, norm2, norm3]
  refine ⟨mx_le_sm v, sm_ab_le v fun x hx => mx_ge hx, mx_sq_le v, sm_sq_le v fun x hx => mx_ge hx, sm_ab_sq v, ?_⟩
  rw [dot_sm]
  congr 1
  have : v.zip v = v.map fun x => (x, x) := by induction v with
    | nil => rfl
    | cons x v ih => simpa using ih
  rw [this, List.map_map]
  rfl
theorem key2_dot {a b : List Int} (h : a.length = b.length) : key 2 a b = norm 2 a + norm 2 b - 2 * dot a b := by
  rw [key, norm2, norm2, norm2, dot_sm]
  induction a, b, h using two_elim with
  | nil =>
    simp [sub, sm]
  | cons x y a b h ih =>
    simp only [sub, List.zip_cons_cons, List.map_cons, sm] at ih ⊢
    grind
theorem norm_mul_bd {m n d : Int} (h1 : 0 ≤ m) (h2 : m ≤ d) (h3 : 0 ≤ n) (h4 : n ≤ 200000000) (hd : d ≤ 200000000) : 0 ≤ m * n ∧ m * n ≤ 40000000000000000 := by
  have := Int.mul_nonneg h1 h3
  have a := Int.mul_le_mul_of_nonneg_right (show m ≤ 200000000 by omega) h3
  omega
/-- keys are distances -/
theorem ab_add (x y : Int) : ab (x + y) ≤ ab x + ab y := by unfold ab; omega
theorem sub_add {a b c : List Int} (h : a.length = b.length) (h' : b.length = c.length) : sub a c = ((sub a b).zip (sub b c)).map fun p => p.1 + p.2 := by
  revert c
  induction a, b, h using two_elim with
  | nil =>
    intro c h; simp [sub]
  | cons x y a b h ih =>
    intro c hc
    cases c with
    | nil => simp at hc
    | cons z c =>
      have := ih (c := c) (by simpa using hc)
      simp only [sub, List.zip_cons_cons, List.map_cons] at this ⊢
      rw [this]
      congr 1
      omega
theorem sub_neg {a b : List Int} : sub b a = (sub a b).map fun x => -x := by
  induction a generalizing b with
  | nil => simp [sub]
  | cons x a ih =>
    cases b with
    | nil => simp [sub]
    | cons y b =>
      have := ih (b := b)
      simp only [sub, List.zip_cons_cons, List.map_cons] at this ⊢
      rw [this]
      congr 1
      omega
theorem norm_neg (m : Int) (v : List Int) : norm m (v.map fun x => -x) = norm m v := by
  have : ∀ n x, grow m n (-x) = grow m n x := by
    intro n x
    unfold grow
    split
    · omega
    · split
      · rw [Int.neg_mul_neg]
      · split <;> omega
  rw [norm, List.foldl_map, norm]
  congr 1
  funext n x
  exact this n x
theorem key_comm (m : Int) (a b : List Int) : key m a b = key m b a := by
  rw [key, key, sub_neg (a := b) (b := a), norm_neg]
theorem sm_zero : ∀ {v : List Int} {f : Int → Int}, (∀ x, 0 ≤ f x) → (∀ x, f x = 0 → x = 0) → sm (v.map f) = 0 → ∀ x ∈ v, x = 0
  | [], _, _, _, _ => by intro x hx; cases hx
  | y :: v, f, h0, h1, h => by
    have h2 : 0 ≤ sm (v.map f) := sm_nonneg fun z hz => by obtain ⟨u, _, rfl⟩ := List.mem_map.1 hz; exact h0 u
    have h3 := h0 y
    simp only [List.map_cons, sm] at h
    intro x hx
    rcases List.mem_cons.1 hx with rfl | hx
    · exact h1 x (by omega)
    · exact sm_zero h0 h1 (by omega) x hx
theorem mul_self_zero {x : Int} (h : x * x = 0) : x = 0 := by
  rcases Int.mul_eq_zero.1 h with h | h <;> exact h
theorem norm_zero {m : Int} (h1 : 1 ≤ m) (h3 : m ≤ 3) {v : List Int} (h : norm m v = 0) : ∀ x ∈ v, x = 0 := by
  rcases (by omega : m = 1 ∨ m = 2 ∨ m = 3) with rfl | rfl | rfl
  · rw [norm1] at h
    exact sm_zero ab_nonneg (fun x hx => by unfold ab at hx; omega) h
  · rw [norm2] at h
    exact sm_zero sq_nonneg (fun x hx => mul_self_zero hx) h
  · rw [norm3] at h
    intro x hx
    have := mx_ge hx
    have := ab_nonneg x
    unfold ab at *
    omega
theorem sub_zero {a b : List Int} (h : a.length = b.length) : (∀ x ∈ sub a b, x = 0) → a = b := by
  induction a, b, h using two_elim with
  | nil =>
    intro _; rfl
  | cons x y a b h ih =>
    intro hz
    simp only [sub, List.zip_cons_cons, List.map_cons] at hz
    have h1 := hz (x - y) (by simp)
    have h2 := ih fun z hz' => hz z (by simp only [List.mem_cons]; exact .inr hz')
    rw [h2, show x = y by omega]
theorem norm_self (m : Int) (a : List Int) : key m a a = 0 := by
  have h : ∀ x ∈ sub a a, x = 0 := by
    intro x hx
    obtain ⟨p, hp, rfl⟩ := List.mem_map.1 hx
    obtain ⟨i, hi, rfl⟩ := List.mem_iff_getElem.1 hp
    simp
  have : sub a a = List.replicate (sub a a).length 0 := List.eq_replicate_iff.2 ⟨rfl, h⟩
  rw [key, this]
  generalize (sub a a).length = n
  have h2 : ∀ (n : Nat) (c : Int), (c = 0) → (List.replicate n (0 : Int)).foldl (grow m) c = 0 := by
    intro n
    induction n with
    | zero => intro c hc; simpa using hc
    | succ n ih =>
      intro c hc
      rw [List.replicate_succ, List.foldl_cons]
      refine ih _ ?_
      subst hc
      unfold grow
      split
      · omega
      · split
        · omega
        · split <;> omega
  exact h2 n 0 rfl
theorem key_zero {m : Int} (h1 : 1 ≤ m) (h3 : m ≤ 3) {a b : List Int} (h : a.length = b.length) : key m a b = 0 ↔ a = b :=
  ⟨fun hk => sub_zero h (norm_zero h1 h3 hk), fun hk => by rw [hk]; exact norm_self m b⟩
theorem tri1 {u v : List Int} : u.length = v.length → sm (((u.zip v).map fun p => p.1 + p.2).map ab) ≤ sm (u.map ab) + sm (v.map ab) := by
  intro hl0
  induction u, v, hl0 using two_elim with
  | nil =>
    simp [sm]
  | cons x y a b h ih =>
    have := ab_add x y
    simp only [List.zip_cons_cons, List.map_cons, sm] at ih ⊢
    omega
theorem tri3 {u v : List Int} : u.length = v.length → mx ((u.zip v).map fun p => p.1 + p.2) ≤ mx u + mx v := by
  intro hl0
  induction u, v, hl0 using two_elim with
  | nil =>
    simp [mx]
  | cons x y a b h ih =>
    have := ab_add x y
    simp only [List.zip_cons_cons, List.map_cons, mx] at ih ⊢
    omega
theorem tri2 {u v : List Int} : u.length = v.length → sm (((u.zip v).map fun p => p.1 + p.2).map fun x => x * x) = sm (u.map fun x => x * x) + sm (v.map fun x => x * x) + 2 * pq (u.zip v) ∧ pp (u.zip v) = sm (u.map fun x => x * x) ∧ qq (u.zip v) = sm (v.map fun x => x * x) := by
  intro hl0
  induction u, v, hl0 using two_elim with
  | nil =>
    simp [sm, pq, pp, qq]
  | cons x y a b h ih =>
    obtain ⟨h1, h2, h3⟩ := ih
    simp only [List.zip_cons_cons, List.map_cons, sm, pq, pp, qq] at h1 h2 h3 ⊢
    refine ⟨by grind, by omega, by omega⟩
theorem triangle {m : Int} (h1 : 1 ≤ m) (h3 : m ≤ 3) (h2 : m ≠ 2) {a b c : List Int} (h : a.length = b.length) (h' : b.length = c.length) : key m a c ≤ key m a b + key m b c := by
  have hl : (sub a b).length = (sub b c).length := by rw [sub_length h, sub_length h']; exact h
  rw [key, sub_add h h', key, key]
  rcases (by omega : m = 1 ∨ m = 3) with rfl | rfl
  · rw [norm1, norm1, norm1]; exact tri1 hl
  · rw [norm3, norm3, norm3]; exact tri3 hl
theorem triangle2 {a b c : List Int} (h : a.length = b.length) (h' : b.length = c.length) : (key 2 a c - key 2 a b - key 2 b c) * (key 2 a c - key 2 a b - key 2 b c) ≤ 4 * key 2 a b * key 2 b c := by
  have hl : (sub a b).length = (sub b c).length := by rw [sub_length h, sub_length h']; exact h
  have e : key 2 a c = norm 2 (((sub a b).zip (sub b c)).map fun p => p.1 + p.2) := by rw [key, sub_add h h']
  obtain ⟨e1, e2, e3⟩ := tri2 hl
  have hc := cauchy ((sub a b).zip (sub b c))
  rw [e2, e3] at hc
  rw [e, key, key, norm2, norm2, norm2, e1]
  grind
end Go.Proofs.YtjhagfggelhpkaaDoor.vq
