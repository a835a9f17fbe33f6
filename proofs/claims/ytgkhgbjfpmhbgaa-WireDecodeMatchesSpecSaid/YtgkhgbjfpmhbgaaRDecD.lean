import Derived.Test.YtgkhgbjfpmhbgaaRDec
namespace Go.Proofs.Ytgkhgbjfpmhbgaa.wi
open Go.ChangeShapes Go.WideShapes Go.ChangeAt Go.RowKit
set_option linter.unusedVariables false

set_option maxRecDepth 100000 in
set_option maxHeartbeats 1000000 in
theorem refGetDigests_any (A : Option Addr) (n c : Nat) (l : List UInt8) (w : World) (hn : n ≤ c) (hc : c ≤ 9223372036854775807) (hln : l.length = n) (hl : wp.RB w A l) (h40 : n ≤ 1099511627776) :
    Calls Try.prog 33 #[.slice A n c] w fun e w' => ∃ v, e = .returned (.tuple #[v, .int .i64 (wp.getL wp.getD1 16 l).2.1, .int .i64 (wp.getL wp.getD1 16 l).2.2]) ∧ w'.ownsRow w.heap.size 55 16 v (wp.getL wp.getD1 16 l).1.length ((wp.getL wp.getD1 16 l).1.flatMap wp.bc) ∧ Below w.heap.size w w' := by
  obtain ⟨i0, hi, hz0, hz1, hz2⟩ := info_parts infoD
  have HG := Lib.hid (refLength_any A n c 16 l w hn hc hln hl (by decide) (by decide))
  have hf := wp.getC_facts l 16 (by decide)
  have hE : wp.getL wp.getD1 16 l = if (wp.getC l 16).2.2 ≠ 0 then ([], 0, (wp.getC l 16).2.2) else wp.getN wp.getD1 l (wp.getC l 16).1.toNat [] (wp.getC l 16).2.1 := rfl
  obtain ⟨f1, f2, f3, f4, f5, f6, f7, -⟩ := hf
  rw [hln] at f2 f4
  have HL := Lib.hid hl
  have HLN := Lib.hid hln
  clear hl hln
  have HE := Lib.hid hE
  clear hE
  generalize wp.getC l 16 = r at *
  obtain ⟨r1, r2, r3⟩ := r
  dsimp only at *
  generalize wp.getL wp.getD1 16 l = RES at *
  obtain ⟨cnt, rfl⟩ := Int.eq_ofNat_of_zero_le f1
  rw [Int.toNat_natCast] at HE
  by_cases h3 : 0 < r3
  · have hb : (r3 != 0) = true := by rw [bne_iff_ne]; omega
    go_enter Try.func33, Try.ntmps33
    go_wp2_with fail
    refine HG.out.mono ?_
    rintro e w' ⟨rfl, rfl⟩
    go_wp2_with fail
    go_ret3
    exact ⟨_, by rw [HE.out, if_pos (by omega)]; rfl, by rw [HE.out, if_pos (by omega)]; exact World.ownsRow_nil _ _ _ _, Below.refl _ _⟩
  · have hb : (r3 != 0) = false := by rw [bne_eq_false_iff_eq]; omega
    have HE' : Hid (RES = wp.getN wp.getD1 l cnt [] r2) := by show _ = _; rw [HE.out, if_neg (by omega)]
    clear HE f5 f6 f7 f1
    go_enter Try.func33, Try.ntmps33
    go_wp2_with fail
    refine HG.out.mono ?_
    rintro e w' ⟨rfl, rfl⟩
    clear HG
    go_wp2_with fail
    generalize hB : w.heap.size = B at *
    have HB := Lib.hid hB
    clear hB
    go_loopg [6, 8, 9] cnt (fun g u v x wr => ∃ (k : Nat) (used : Int) (acc : List (List UInt8)), k + g = cnt ∧ x = .int .i64 (k : Int) ∧ u = .int .i64 used ∧ 0 ≤ used ∧ used + 16 * g ≤ n ∧ acc.length = k ∧ wp.getN wp.getD1 l g acc used = RES ∧ wr.ownsRow B 55 16 v k (acc.flatMap wp.bc) ∧ Below B w wr)
    case atStart => exact ⟨0, r2, [], by omega, rfl, rfl, by omega, by omega, rfl, HE'.out.symm, World.ownsRow_nil _ _ _ _, Below.refl _ _⟩
    case round =>
      obtain ⟨k, used, acc, hk, rfl, rfl, hu0, hun, hacc, hres, hown, hbel⟩ := hrel
      have HK := Lib.hid hk
      have HACC := Lib.hid hacc
      have hkc : k ≤ cnt := by omega
      have HBW : Hid (B ≤ wr.heap.size) := by have := hbel.size; have := HB.out; show _ ≤ _; omega
      clear hk hacc
      by_cases hlt : k < cnt
      · obtain ⟨g, rfl⟩ : ∃ g, gk = g + 1 := ⟨gk - 1, by have := HK.out; omega⟩
        have hrb : wp.RB wr A l := wk.RB.below HL.out (by rw [HB.out]; exact hbel)
        obtain ⟨b, o, rfl, hbw, hcell⟩ := hrb (by have := HLN.out; omega)
        obtain ⟨un, rfl⟩ := Int.eq_ofNat_of_zero_le hu0
        have hres' : wp.getN wp.getD1 l g (acc ++ [(l.drop un).take 16]) ((un : Int) + 16) = RES := by
          rw [wp.getN] at hres
          simpa [wp.getD1] using hres
        have HRES := Lib.hid hres'
        have hd16 : ((l.drop un).take 16).length = 16 := by rw [List.length_take, List.length_drop, HLN.out]; omega
        have HCE : Hid (∀ i u, ((l.drop un).take 16)[i]? = some u → wr.cell? ⟨b, o + (un + i), none⟩ = some (.int .u8 (u.toNat : Int))) := fun i u hu => by
          refine hcell (un + i) u ?_
          rw [List.getElem?_take] at hu
          split at hu
          · rw [← hu, List.getElem?_drop]
          · cases hu
        have HS := Lib.hid hd16
        have hkm : k + 1 ≤ 1099511627776 := by omega
        have hun : un + 16 ≤ n := by omega
        clear hres hres' hd16 hcell f2 f4 hrb hu0
        generalize (l.drop un).take 16 = d at *
        obtain ⟨wo, rfl⟩ : ∃ wo : World, wo = wr := ⟨_, rfl⟩
        go_wp2_with fail
        go_loopg [11] 16 (fun g x wx => ∃ (i : Nat) (cs : List Value), i + g = 16 ∧ cs.length = 16 ∧ (∀ u ∈ cs, u.oneCell' = true) ∧ cs.take i = wp.bc (d.take i) ∧ x = .int .i64 (i : Int) ∧ wx = wo.alloc (.cells cs.toArray 55))
        case atStart => exact ⟨0, List.replicate 16 (.int .u8 0), rfl, rfl, by intro u hu; rw [List.eq_of_mem_replicate hu]; rfl, by simp [wp.bc], rfl, rfl⟩
        case round =>
          obtain ⟨i, cs, hi16, hcl, hone, htk, rfl, rfl⟩ := hrel
          have HI := Lib.hid hi16
          have HCL := Lib.hid hcl
          have HONE := Lib.hid hone
          have HTK := Lib.hid htk
          have hi17 : i ≤ 16 := by omega
          clear hi16 hcl hone htk
          by_cases hlt2 : i < 16
          · have hid : d[i]? = some (d[i]'(by rw [HS.out]; exact hlt2)) := List.getElem?_eq_getElem _
            have hcd := HCE.out i _ hid
            have hci : cs[i]? = some (cs[i]'(by rw [HCL.out]; exact hlt2)) := List.getElem?_eq_getElem _
            have hbo : b < wo.heap.size := hbw
            have hcx : (wo.alloc (.cells cs.toArray 55)).cell? ⟨b, o + (un + i), none⟩ = some (.int .u8 ((d[i]'(by rw [HS.out]; exact hlt2)).toNat : Int)) := by
              rw [World.cell?_alloc_lt _ _ _ hbo]; exact hcd
            have hbyte : ((d[i]'(by rw [HS.out]; exact hlt2)).toNat : Int) < 256 := by have := (d[i]'(by rw [HS.out]; exact hlt2)).toNat_lt; omega
            have HSET : Hid ((cs.set i (.int .u8 ((d[i]'(by rw [HS.out]; exact hlt2)).toNat : Int))).take (i + 1) = wp.bc (d.take (i + 1))) := by
              show _ = _
              rw [List.take_add_one, List.take_add_one, hid, wp.bc_append, ← HTK.out, List.take_set_of_le (Nat.le_refl _), List.getElem?_set_self (by rw [HCL.out]; exact hlt2)]
              rfl
            clear hid hcd
            generalize (d[i]'(by rw [HS.out]; exact hlt2)).toNat = x at *
            generalize (cs[i]'(by rw [HCL.out]; exact hlt2)) = old at *
            go_wp2_with fail
            go_roundg (gk - 1)
            case measure => have := HI.out; omega
            case rel =>
              refine ⟨i + 1, cs.set i (.int .u8 (x : Int)), by have := HI.out; omega, by rw [List.length_set]; exact HCL.out, fun u hu => ?_, HSET.out, by go_num, rfl⟩
              rcases List.mem_or_eq_of_mem_set hu with h | h
              · exact HONE.out u h
              · rw [h]; rfl
          · have hi0 : i = 16 := by omega
            have hcs : cs = wp.bc d := by
              have h1 : cs.take i = cs := List.take_of_length_le (by rw [HCL.out]; omega)
              have h2 : d.take i = d := List.take_of_length_le (by rw [HS.out]; omega)
              rw [← h1, HTK.out, h2]
            subst hcs
            subst hi0
            clear HTK HONE HCL
            have hdl : (wp.bc d).length = 16 := by rw [wp.bc_length, HS.out]
            have hfold : List.foldl (fun (cs : Array Value) (x : Value × Nat) => cs.setIfInBounds x.2 x.1) #[.int .u8 0, .int .u8 0, .int .u8 0, .int .u8 0, .int .u8 0, .int .u8 0, .int .u8 0, .int .u8 0, .int .u8 0, .int .u8 0, .int .u8 0, .int .u8 0, .int .u8 0, .int .u8 0, .int .u8 0, .int .u8 0] (wp.bc d).zipIdx = (wp.bc d).toArray :=
              wk.fold_set (wp.bc d) [] (List.replicate 16 (.int .u8 0)) (by rw [hdl]; rfl)
            go_wp2_with (first | (at_builtin; refine wpList_append_own _ rfl _ _ 24 rfl B 55 i0 zeroD 16 16 Try.underlying24 hi hz0 hz1 hz2 rfl (by decide) _ _ _ rfl ((hown.alloc _).alloc _) ⟨wo.heap.size + 1, 0, none⟩ 1 1 (wp.bc d) rfl (by rw [hdl]) ?c1 wp.bc_one ?c3 ?c4 ?c5 ?_) | refine wk.load_agg rfl 55 (.tmp 10) rfl _ rfl (wp.bc d) _ (wk.cells_new _ _ _) Try.underlying55 rfl (by rw [infoD', wp.bc_length, HS.out]) ?_)
            case c1 => exact wk.cells_new' (by simp) _ _
            case c3 => unfold maxLen; omega
            case c4 => omega
            case c5 => have := HBW.out; simp; omega
            intro v' w3 hown3 hgrow _
            clear hfold
            go_wp2_with fail
            go_roundg g
            case measure => omega
            case rel =>
              refine ⟨k + 1, (un : Int) + 16, acc ++ [d], by have := HK.out; omega, by go_num, rfl, by omega, by omega, by simp [HACC.out], HRES.out, by simpa using hown3, ?_⟩
              exact (((hbel.alloc HBW.out _).alloc (by have := HBW.out; simp; omega) _).grown hgrow (by have := HBW.out; simp; omega) (fun q hq => (hown.lt q hq).1))
      · have hg : gk = 0 := by have := HK.out; omega
        subst hg
        rw [wp.getN] at hres
        have HRES := Lib.hid hres
        clear hres
        go_wp2_with fail
        go_ret3
        exact ⟨_, by rw [← HRES.out]; rfl, by rw [← HRES.out, HACC.out, HB.out]; exact hown, by rw [HB.out]; exact hbel⟩
end Go.Proofs.Ytgkhgbjfpmhbgaa.wi
