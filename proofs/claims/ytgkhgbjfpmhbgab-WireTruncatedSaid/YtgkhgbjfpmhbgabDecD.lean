import Derived.Test.YtgkhgbjfpmhbgabDecL
import Derived.Test.YtgkhgbjfpmhbgabEncD
namespace Go.Proofs.Ytgkhgbjfpmhbgab.wi
open Go.ChangeShapes Go.WideShapes Go.ChangeAt Go.RowKit
set_option linter.unusedVariables false

set_option maxRecDepth 100000 in
set_option maxHeartbeats 1000000 in
theorem getDigest_any (A : Option Addr) (n c : Nat) (l : List UInt8) (w : World) (hn : n ≤ c) (hc : c ≤ 9223372036854775807) (hln : l.length = n) (hl : wp.RB w A l) (h16 : 16 ≤ n) :
    Calls Try.prog 32 #[.slice A n c] w fun e w' => e = .returned (.tuple #[dg (l.take 16), .int .i64 16, .int .i64 0]) ∧ Below w.heap.size w w' := by
  obtain ⟨b, o, rfl, hbw, hcell⟩ := hl (by omega)
  have HC := Lib.hid hcell
  have HLN := Lib.hid hln
  have HT : Hid ((wp.bc (l.take 16)).length = 16) := by show _ = _; rw [wp.bc_length]; simp; omega
  clear hcell hln
  go_enter Try.func32, Try.ntmps32
  go_wp2_with (first | refine wk.copy_new rfl (.tmp 6) (.tmp 7) 27 27 rfl 5 Try.underlying27 size5 49 _ ⟨b, o, none⟩ 16 16 n c _ rfl ?cg rfl (wp.bc (l.take 16)) HT.out rfl h16 ?c1 wp.bc_one ?_ | refine wk.load_agg rfl 49 (.tmp 5) rfl _ rfl (wp.bc (l.take 16)) _ ?c2 Try.underlying49 rfl (by rw [info55, HT.out]) ?_ | refine wk.store_below rfl 49 (.tmp 2) (.tmp 9) rfl _ _ _ (wp.bc (l.take 16)) rfl rfl (by rw [info55, HT.out]) (by rw [HT.out]; rfl) wp.bc_one ?_)
  case cg => simp
  case c1 =>
    intro j u hu
    rw [wk.add_at, World.cell?_alloc_lt _ _ _ (by simp; omega), World.cell?_alloc_lt _ _ _ hbw]
    rw [wk.bc_at] at hu
    obtain ⟨x, hx, rfl⟩ := hu
    refine HC.out j x ?_
    rw [List.getElem?_take] at hx
    split at hx
    · exact hx
    · cases hx
  case c2 => exact wk.cells_new' (by simp) _ _
  refine bodyPost_ret (v := .tuple #[dg (l.take 16), .int .i64 16, .int .i64 0]) ?_ rfl ⟨rfl, ?_⟩
  · exact wk.results_cell2 (fn := Try.f32) rfl _ _ ⟨w.heap.size, 0, none⟩ (wp.bc (l.take 16)) _ rfl (wk.cells_under w _ _ _) Try.underlying49 rfl (by rw [info55, HT.out])
  · exact ((Below.refl _ _).alloc (Nat.le_refl _) _).alloc (by simp) _

def zeroD : Value := .agg (Array.replicate 16 (.int .u8 0))
theorem infoD : (Try.prog.info? 49).map (fun i => (i.zero, i.size, i.bytes)) = some (some zeroD, 16, 16) := by kernel_rfl
theorem infoD' : (Try.prog.info? 49).map (·.size) = some 16 := info55

set_option maxRecDepth 100000 in
set_option maxHeartbeats 1000000 in
theorem getList_D (A : Option Addr) (n c : Nat) (l : List UInt8) (w : World) (hn : n ≤ c) (hc : c ≤ 9223372036854775807) (hln : l.length = n) (hl : wp.RB w A l) (h40 : n ≤ 1099511627776) :
    Calls Try.prog 31 #[.slice A n c, .int .i64 16, .func (.func 32) #[] #[]] w fun e w' => ∃ v, e = .returned (.tuple #[v, .int .i64 (wp.getL wp.getD1 16 l).2.1, .int .i64 (wp.getL wp.getD1 16 l).2.2]) ∧ w'.ownsRow w.heap.size 49 16 v (wp.getL wp.getD1 16 l).1.length ((wp.getL wp.getD1 16 l).1.flatMap wp.bc) ∧ Below w.heap.size w w' := by
  obtain ⟨i0, hi, hz0, hz1, hz2⟩ := info_parts infoD
  have HG := Lib.hid (getCount_any A n c 16 l w hn hc hln hl (by decide) (by decide))
  have hf := wp.getC_facts l 16 (by decide)
  have hE : wp.getL wp.getD1 16 l = if (wp.getC l 16).2.2 ≠ 0 then ([], 0, (wp.getC l 16).2.2) else wp.getN wp.getD1 l (wp.getC l 16).1.toNat [] (wp.getC l 16).2.1 := rfl
  obtain ⟨f1, f2, f3, f4, f5, f6, f7, -⟩ := hf
  rw [hln] at f2 f4
  have HL := Lib.hid hl
  have HLN := Lib.hid hln
  clear hl hln
  have HE := Lib.hid hE
  clear hE
  generalize wp.getC l 16 = r at *
  obtain ⟨r1, r2, r3⟩ := r
  dsimp only at *
  generalize wp.getL wp.getD1 16 l = RES at *
  obtain ⟨cnt, rfl⟩ := Int.eq_ofNat_of_zero_le f1
  rw [Int.toNat_natCast] at HE
  by_cases h3 : 0 < r3
  · have hb : (r3 != 0) = true := by rw [bne_iff_ne]; omega
    go_enter Try.func31, Try.ntmps31
    go_wp2_with fail
    refine HG.out.mono ?_
    rintro e w' ⟨rfl, rfl⟩
    go_wp2_with fail
    go_ret3
    exact ⟨_, by rw [HE.out, if_pos (by omega)]; rfl, by rw [HE.out, if_pos (by omega)]; exact World.ownsRow_nil _ _ _ _, Below.refl _ _⟩
  · have hb : (r3 != 0) = false := by rw [bne_eq_false_iff_eq]; omega
    have HE' : Hid (RES = wp.getN wp.getD1 l cnt [] r2) := by show _ = _; rw [HE.out, if_neg (by omega)]
    clear HE f5 f6 f7 f1
    go_enter Try.func31, Try.ntmps31
    go_wp2_with fail
    refine HG.out.mono ?_
    rintro e w' ⟨rfl, rfl⟩
    clear HG
    go_wp2_with (at_make; refine wpList_make_own _ rfl _ _ 24 rfl w.heap.size 49 i0 zeroD 16 Try.underlying24 hi hz0 hz1 _ _ _ cnt rfl rfl rfl ?b2 ?b3 ?b4 ?_)
    case b2 => rw [hz2]; omega
    case b3 => unfold maxLen; omega
    case b4 => exact Nat.le_refl _
    intro w1 hown1 hgr1
    have hbel1 : Below w.heap.size w w1 := (Below.refl _ _).grown hgr1 (Nat.le_refl _) (fun k hk => by cases hk)
    go_wp2_with fail
    generalize hB : w.heap.size = B at *
    have HB := Lib.hid hB
    clear hB
    go_loopg [10, 12, 29] cnt (fun g u v x wr => ∃ (k : Nat) (used : Int) (acc : List (List UInt8)), k + g = cnt ∧ x = .int .i64 (k : Int) ∧ u = .int .i64 used ∧ 0 ≤ used ∧ used + 16 * g ≤ n ∧ acc.length = k ∧ wp.getN wp.getD1 l g acc used = RES ∧ wr.ownsRow B 49 16 v k (acc.flatMap wp.bc) ∧ Below B w wr)
    case atStart => exact ⟨0, r2, [], by omega, rfl, rfl, by omega, by omega, rfl, HE'.out.symm, hown1, hbel1⟩
    case round =>
      obtain ⟨k, used, acc, hk, rfl, rfl, hu0, hun, hacc, hres, hown, hbel⟩ := hrel
      have HK := Lib.hid hk
      have HACC := Lib.hid hacc
      have hkc : k ≤ cnt := by omega
      have HBW : Hid (B ≤ wr.heap.size) := by have := hbel.size; have := HB.out; show _ ≤ _; omega
      clear hk hown1 hbel1 hacc
      by_cases hlt : k < cnt
      · obtain ⟨g, rfl⟩ : ∃ g, gk = g + 1 := ⟨gk - 1, by have := HK.out; omega⟩
        have hrb : wp.RB wr A l := wk.RB.below HL.out (by rw [HB.out]; exact hbel)
        obtain ⟨A2, m, c2, hcut, hm2, hc2, hlen2, hrb2⟩ := wk.cut_l (P := Try.prog) wr 27 5 Try.underlying27 size5 A n c l HLN.out hn hrb used hu0 (by omega)
        have HC := Lib.hid (getDigest_any A2 m c2 (l.drop used.toNat) wr hm2 (by omega) hlen2 hrb2 (by rw [← hlen2, List.length_drop, HLN.out]; omega))
        have hres' : wp.getN wp.getD1 l g (acc ++ [(l.drop used.toNat).take 16]) (used + 16) = RES := by
          rw [wp.getN] at hres
          simpa [wp.getD1] using hres
        have HRES := Lib.hid hres'
        have HS : Hid (((l.drop used.toNat).take 16).length = 16) := by show _ = _; rw [List.length_take, List.length_drop, HLN.out]; omega
        have hkm : k + 1 ≤ 1099511627776 := by omega
        clear hres hres' hrb hlen2 hrb2 f2 f4
        generalize (l.drop used.toNat).take 16 = d at *
        have hdl : (wp.bc d).length = 16 := by rw [wp.bc_length, HS.out]
        go_wp2_with fail
        refine HC.out.mono ?_
        rintro e w2 ⟨rfl, hbel2⟩
        have hown2 := wk.ownsRow_below hown hbel2
        have HBW2 : Hid (B ≤ w2.heap.size) := by have := HBW.out; have := hbel2.size; show _ ≤ _; omega
        unfold dg
        have hfold : List.foldl (fun (cs : Array Value) (x : Value × Nat) => cs.setIfInBounds x.2 x.1) #[.int .u8 0, .int .u8 0, .int .u8 0, .int .u8 0, .int .u8 0, .int .u8 0, .int .u8 0, .int .u8 0, .int .u8 0, .int .u8 0, .int .u8 0, .int .u8 0, .int .u8 0, .int .u8 0, .int .u8 0, .int .u8 0] (wp.bc d).zipIdx = (wp.bc d).toArray :=
          wk.fold_set (wp.bc d) [] (List.replicate 16 (.int .u8 0)) (by rw [hdl]; rfl)
        go_wp2_with (first | (at_builtin; refine wpList_append_own _ rfl _ _ 24 rfl B 49 i0 zeroD 16 16 Try.underlying24 hi hz0 hz1 hz2 rfl (by decide) _ _ _ rfl ((hown2.alloc _).alloc _) ⟨w2.heap.size + 1, 0, none⟩ 1 1 (wp.bc d) rfl (by rw [hdl]) ?c1 wp.bc_one ?c3 ?c4 ?c5 ?_) | refine wk.store_new rfl 49 (.tmp 13) (.tmp 37) rfl _ _ (wp.bc d) rfl rfl (by rw [infoD', wp.bc_length, HS.out]) (by rw [wp.bc_length, HS.out]; rfl) wp.bc_one ?_ | refine wk.load_agg rfl 49 (.tmp 13) rfl _ rfl (wp.bc d) _ (wk.cells_new _ _ _) Try.underlying49 rfl (by rw [infoD', wp.bc_length, HS.out]) ?_)
        case c1 => exact wk.cells_new' (by simp) _ _
        case c3 => unfold maxLen; omega
        case c4 => omega
        case c5 => have := HBW2.out; simp; omega
        intro v' w3 hown3 hgrow _
        clear hfold
        go_wp2_with fail
        go_roundg g
        case measure => omega
        case rel =>
          refine ⟨k + 1, used + 16, acc ++ [d], by have := HK.out; omega, by go_num, rfl, by omega, by omega, by simp [HACC.out], HRES.out, by simpa using hown3, ?_⟩
          exact ((((hbel.trans (hbel2.mono HBW.out)).alloc HBW2.out _).alloc (by have := HBW2.out; simp; omega) _).grown hgrow (by have := HBW2.out; simp; omega) (fun q hq => (hown2.lt q hq).1))
      · have hg : gk = 0 := by have := HK.out; omega
        subst hg
        rw [wp.getN] at hres
        have HRES := Lib.hid hres
        clear hres
        go_wp2_with fail
        go_ret3
        exact ⟨_, by rw [← HRES.out]; rfl, by rw [← HRES.out, HACC.out, HB.out]; exact hown, by rw [HB.out]; exact hbel⟩

theorem getDigests_any (A : Option Addr) (n c : Nat) (l : List UInt8) (w : World) (hn : n ≤ c) (hc : c ≤ 9223372036854775807) (hln : l.length = n) (hl : wp.RB w A l) (h40 : n ≤ 1099511627776) :
    Calls Try.prog 16 #[.slice A n c] w fun e w' => ∃ v, e = .returned (.tuple #[v, .int .i64 (wp.getL wp.getD1 16 l).2.1, .int .i64 (wp.getL wp.getD1 16 l).2.2]) ∧ w'.ownsRow w.heap.size 49 16 v (wp.getL wp.getD1 16 l).1.length ((wp.getL wp.getD1 16 l).1.flatMap wp.bc) ∧ Below w.heap.size w w' := by
  have H := Lib.hid (getList_D A n c l w hn hc hln hl h40)
  clear hl hln
  generalize wp.getL wp.getD1 16 l = RES at *
  go_enter Try.func16, Try.ntmps16
  go_wp2_with fail
  refine H.out.mono ?_
  rintro e w1 ⟨v1, rfl, hown1, hbel1⟩
  go_wp2_with fail
  go_ret3
  exact ⟨v1, rfl, hown1, hbel1⟩
end Go.Proofs.Ytgkhgbjfpmhbgab.wi
