/- MerkleProofsAreAccepted: its walk. -/
import Derived.Test.YtmjmkkdmphgdnaaDoorNh

import Derived.Test.YtmjmkkdmphgdnaaDoorMz

import Derived.Test.YtmjmkkdmphgdnaaDoorVal2

namespace Go.Proofs.YtmjmkkdmphgdnaaDoor.merkleProofsAreAccepted

open Go.ChangeShapes Go.WideShapes Go.ChangeAt Go.RowKit

open Go.Proofs.YtmjmkkdmphgdnaaDoor.mk

set_option linter.unusedVariables false
/-- what has been chosen so far -/
def CR (wb : World) (ch k : Nat) (l : List D) (v20 v21 : Value) (w : World) : Prop := w.ownsRow wb.heap.size 3 1 v20 (selZ ch k).length ((selZ ch k).map (Value.int .i64)) ∧ w.ownsRow wb.heap.size 31 16 v21 (selD ch k l).length ((selD ch k l).flatMap wp.bc) ∧ Below wb.heap.size wb w
set_option maxRecDepth 100000 in
set_option maxHeartbeats 16000000 in
theorem walk (w : World) (hT : Tab w) {A : Option Addr} {n c : Nat} {l : List D} (h : IsD w A n c l) {i m ch : Int} (w1 : (Lit.int .u8 i).wf = true) (w2 : (Lit.int .u8 m).wf = true) (w3 : (Lit.int .u64 ch).wf = true) {o : D} (ho : o.length = 16) :
    Calls Tryd.prog 6 #[.slice A n c, .int .u8 i, .int .u8 m, .int .u64 ch, dv o] w fun e w' => e = .returned (.bool true) ∧ Below w.heap.size w w' := by
  have hlen := h.len
  have hcap := h.cap
  have hle := h.le
  unfold maxLen at hcap
  have hi8 : 0 ≤ i ∧ i ≤ 255 := by simpa [Lit.wf, IntKind.min, IntKind.max, IntKind.signed, IntKind.bits] using w1
  have hm8 : 0 ≤ m ∧ m ≤ 255 := by simpa [Lit.wf, IntKind.min, IntKind.max, IntKind.signed, IntKind.bits] using w2
  have hc8 : 0 ≤ ch ∧ ch ≤ 18446744073709551615 := by simpa [Lit.wf, IntKind.min, IntKind.max, IntKind.signed, IntKind.bits] using w3
  have hzo := dv_size ho
  have hoo := wk.ones_bc o
  have HO := Lib.hid ho
  have HT := Lib.hid hT
  have HI := Lib.hid h
  have HLEN := Lib.hid hlen
  clear w1 w2 w3 h hT hlen ho
  unfold dv
  by_cases h0 : n = 0 ∨ 40 < n
  · rcases h0 with h0 | h0
    · subst h0
      go_enter Tryd.func6, Tryd.ntmps6
      go_wp2_with fail
      refine (sanity_calls _ (HT.out.next ((Below.refl _ _).alloc (Nat.le_refl _) _))).mono ?_
      rintro e w5 ⟨rfl, hb5⟩
      have HB5 := Lib.hid (show Below w.heap.size w w5 from ((Below.refl w.heap.size w).alloc (Nat.le_refl _) _).trans (hb5.mono (by simp)))
      clear hb5
      go_wp2_with fail
      go_ret
      exact ⟨rfl, HB5.out⟩
    · have hn0 : ((n : Int) == 0) = false := by simp; omega
      go_enter Tryd.func6, Tryd.ntmps6
      go_wp2_with fail
      refine (sanity_calls _ (HT.out.next ((Below.refl _ _).alloc (Nat.le_refl _) _))).mono ?_
      rintro e w5 ⟨rfl, hb5⟩
      have HB5 := Lib.hid (show Below w.heap.size w w5 from ((Below.refl w.heap.size w).alloc (Nat.le_refl _) _).trans (hb5.mono (by simp)))
      clear hb5
      go_wp2_with fail
      go_ret
      exact ⟨rfl, HB5.out⟩
  have hn1 : 1 ≤ n := by omega
  have hn40 : n ≤ 40 := by omega
  have hn0 : ((n : Int) == 0) = false := by simp; omega
  obtain ⟨iN, rfl⟩ := Int.eq_ofNat_of_zero_le hi8.1
  obtain ⟨mN, rfl⟩ := Int.eq_ofNat_of_zero_le hm8.1
  obtain ⟨cN, rfl⟩ := Int.eq_ofNat_of_zero_le hc8.1
  obtain ⟨ia, hat⟩ : ∃ a, a = iN % n := ⟨_, rfl⟩
  obtain ⟨fs, hfs⟩ : ∃ a, a = mN % (n + 1) := ⟨_, rfl⟩
  have hatn : ia < n := by rw [hat]; exact Nat.mod_lt _ (by omega)
  have hfsn : fs ≤ n := by have := Nat.mod_lt mN (show 0 < n + 1 by omega); omega
  have hmod1 : (iN : Int) % (n : Int) = (ia : Int) := by rw [hat]; exact (Int.natCast_emod _ _).symm
  have hmod2 : (mN : Int) % ((n : Int) + 1) = (fs : Int) := by rw [hfs, Int.natCast_emod]; rfl
  clear hat hfs h0
  have HMOD1 := Lib.hid hmod1
  have HMOD2 := Lib.hid hmod2
  go_enter Tryd.func6, Tryd.ntmps6
  go_upto_region 1 with fail
  change Code.wp _ _ _ _ (w.alloc (.cells (wp.bc o).toArray 31))
  have hqb := heap_alloc_new w (.cells (wp.bc o).toArray 31)
  have hb1 : Below w.heap.size w (w.alloc (.cells (wp.bc o).toArray 31)) := (Below.refl _ _).alloc (Nat.le_refl _) _
  generalize w.alloc (.cells (wp.bc o).toArray 31) = v1 at *
  obtain ⟨B, hB⟩ : ∃ B, B = w.heap.size := ⟨_, rfl⟩
  rw [← hB] at hqb
  have HS : Hid (RS w [(B, o)] [(A, n, c, l)] v1) := Lib.hid ⟨fun p hp => by
    rw [List.mem_singleton] at hp; subst hp; exact ⟨hqb, HO.out⟩, fun s hs => by
    rw [List.mem_singleton] at hs; subst hs; exact HI.out.below hb1, HT.out.next hb1, hb1⟩
  rw [← hB]
  clear hqb hb1 hzo hoo hB HI HT
  go_upto_region 6 with fail
  rw [hmod1, hmod2]
  clear hmod1 hmod2
  go_wp2_with fail
  refine (root_calls n A c l _ (HS.out.sls (A, n, c, l) (by simp)) HS.out.tab).mono ?_
  rintro e w2 ⟨rfl, hb⟩
  have hl16 : ∀ d ∈ l, d.length = 16 := (HS.out.sls (A, n, c, l) (by simp)).dl
  have HL16 := Lib.hid hl16
  clear hl16
  replace HS := Lib.hid (HS.out.next hb)
  clear hb
  have HR14 := Lib.hid (rootD_length HL16.out)
  have HR15 := Lib.hid (rootD_length (l := l.take fs) fun d hd => HL16.out d (List.mem_of_mem_take hd))

  have hz := dv_size (HR14.out)
  have hz3 : hi.z16.size = (wp.bc (rootD l)).length := by rw [bc_len (HR14.out)]; rfl
  have ho := wk.ones_bc (rootD l)
  unfold hi.z16 at hz3
  unfold dv
  go_upto_region 7 with (refine wk.store_new rfl 31 (.tmp 14) (.tmp 45) rfl 31 _ (wp.bc (rootD l)) rfl rfl hz hz3 ho ?_)
  replace HS := Lib.hid ((HS.out.next ((Below.refl w2.heap.size w2).alloc (Nat.le_refl _) (.cells (wp.bc (rootD l)).toArray 31))).row (heap_alloc_new w2 _) (HR14.out))
  generalize w2.alloc (.cells (wp.bc (rootD l)).toArray 31) = v2 at *
  generalize w2.heap.size = g14 at *
  clear hz hz3 ho
  have hcut := (HS.out.sls (A, n, c, l) (by simp)).cut (lo := 0) (hi := fs) (m := c) (by omega) hfsn (by omega) (Nat.le_refl _)
  have hrun := fun w => run_cut_h w A n c fs (by omega)
  rw [show (l.drop 0).take (fs - 0) = l.take fs by simp] at hcut
  simp only [Nat.sub_zero] at hcut hrun
  generalize (if c = 0 then A else A.map (·.add (0 * 16))) = A2 at *
  have hrunv := hrun v2
  have HCUT := Lib.hid hcut
  clear hcut hrun
  go_wp2_with (refine wk.list_run rfl (some 48) rfl (.slice A2 fs c) (wk.op_slice rfl rfl rfl rfl rfl hrunv) ?_; simp only [Act.put, List.setIfInBounds_toArray, List.set_cons_zero, List.set_cons_succ])
  refine (root_calls fs A2 c (l.take fs) _ HCUT.out HS.out.tab).mono ?_
  rintro e w3 ⟨rfl, hb⟩
  replace HS := Lib.hid (HS.out.next hb)
  clear hb hrunv HCUT
  have hz := dv_size (HR15.out)
  have hz3 : hi.z16.size = (wp.bc (rootD (l.take fs))).length := by rw [bc_len (HR15.out)]; rfl
  have ho := wk.ones_bc (rootD (l.take fs))
  unfold hi.z16 at hz3
  unfold dv
  go_upto_region 8 with (refine wk.store_new rfl 31 (.tmp 15) (.tmp 49) rfl 31 _ (wp.bc (rootD (l.take fs))) rfl rfl hz hz3 ho ?_)
  replace HS := Lib.hid ((HS.out.next ((Below.refl w3.heap.size w3).alloc (Nat.le_refl _) (.cells (wp.bc (rootD (l.take fs))).toArray 31))).row (heap_alloc_new w3 _) (HR15.out))
  generalize w3.alloc (.cells (wp.bc (rootD (l.take fs))).toArray 31) = v3 at *
  generalize w3.heap.size = g15 at *
  clear hz hz3 ho
  go_wp2_with fail
  refine (incl_calls A n c l (ia : Int) _ (HS.out.sls (A, n, c, l) (by simp)) HS.out.tab (by omega)).mono ?_
  rintro e w4 ⟨x4, rfl, ho, hb⟩
  replace HS := Lib.hid (HS.out.next hb)
  clear hb
  rw [inclE_ok hatn]
  obtain ⟨A16, c16, rfl, hI⟩ := isD_own ho rfl (inclP_16 HL16.out _)
  replace HS := Lib.hid (HS.out.sl hI)
  clear ho hI
  go_upto_region 9 with fail
  go_wp2_with fail
  refine (cons_calls A n c l (fs : Int) _ (HS.out.sls (A, n, c, l) (by simp)) HS.out.tab (by omega)).mono ?_
  rintro e w5 ⟨x5, rfl, ho, hb⟩
  replace HS := Lib.hid (HS.out.next hb)
  clear hb
  rw [consE_ok hfsn]
  obtain ⟨A18, c18, rfl, hI⟩ := isD_own ho rfl (consP_16 HL16.out _)
  replace HS := Lib.hid (HS.out.sl hI)
  clear ho hI
  go_upto_region 10 with fail
  obtain ⟨wb, rfl⟩ : ∃ x : World, x = w5 := ⟨_, rfl⟩
  have HC0 : Hid (CR wb cN 0 l (.slice none 0 0) (.slice none 0 0) wb) := Lib.hid ⟨World.ownsRow_nil _ _ _ _, World.ownsRow_nil _ _ _ _, Below.refl _ _⟩
  go_wp2_with fail
  go_loopg [20, 21, 22] n (fun g v20 v21 z wr => ∃ k : Nat, k + g = n ∧ z = .int .i64 (k : Int) ∧ CR wb cN k l v20 v21 wr)
  case atStart => exact ⟨0, by omega, rfl, HC0.out⟩
  case round =>
    obtain ⟨k, hk, rfl, hC⟩ := hrel
    obtain ⟨h20, h21, hbel⟩ := hC
    have HK := Lib.hid hk
    have H20 := Lib.hid h20
    have H21 := Lib.hid h21
    have HBEL := Lib.hid hbel
    have hkn : k ≤ n := by omega
    clear hk h20 h21 hbel HC0
    by_cases hlt : k < n
    · obtain ⟨d, hd⟩ : ∃ d, l[k]? = some d := ⟨_, List.getElem?_eq_getElem (by have := HLEN.out; omega)⟩
      have hd16 : d.length = 16 := HL16.out d (List.mem_of_getElem? hd)
      have HD := Lib.hid hd
      have HD16 := Lib.hid hd16
      have hcast : (cN : Int) / 2 ^ k = ((cN / 2 ^ k : Nat) : Int) := by push_cast; rfl
      have hand : bits .and .u64 ((cN : Int) / 2 ^ k) 1 = ((cN / 2 ^ k % 2 : Nat) : Int) := by rw [hcast, and1u]
      clear hcast hd hd16
      by_cases hbit : cN / 2 ^ k % 2 = 1
      · rw [hbit] at hand
        go_upto_region 16 with fail
        have hal : Below wr.heap.size wr (wr.alloc (.cells #[.int .i64 (k : Int)] 3)) := (Below.refl _ _).alloc (Nat.le_refl _) _
        have hlit : (wr.alloc (.cells #[.int .i64 (k : Int)] 3)).ownsRow wr.heap.size 3 1 (.slice (some ⟨wr.heap.size, 0, none⟩) 1 1) 1 [.int .i64 (k : Int)] := World.ownsRow_lit wr #[.int .i64 (k : Int)] 1 (Nat.le_refl _) (by unfold maxLen; omega) rfl
        have h20a := wk.ownsRow_below H20.out hal
        have h21a := wk.ownsRow_below H21.out hal
        have hzl := selZ_len cN k
        have hbw : wb.heap.size ≤ (wr.alloc (.cells #[.int .i64 (k : Int)] 3)).heap.size := by have := HBEL.out.size; simp; omega
        have hone1 : wk.Ones [Value.int .i64 (k : Int)] := fun u hu => by rw [List.mem_singleton] at hu; subst hu; rfl
        go_upto_region 17 with (at_builtin; refine list_appendI rfl (.tmp 72) (.tmp 74) rfl wb.heap.size u20 (selZ cN k).length _ rfl h20a wr.heap.size 1 1 [.int .i64 (k : Int)] rfl wr.heap.size hlit hone1 (by omega) hbw ?_; intro v20b w7 hown7 hgr; have HOWN7 := Lib.hid hown7; have HGR := Lib.hid hgr; clear hown7 hgr)
        have hb7 : Below wb.heap.size wb w7 := (HBEL.out.alloc HBEL.out.size _).grown HGR.out hbw (fun g hg => (h20a.lt g hg).1)
        have h21b := h21a.kept HGR.out (own_apart h20a h21a int_ne_digest)
        have h20b := HOWN7.out
        have e20 : (selZ cN k).map (Value.int .i64) ++ [.int .i64 (k : Int)] = (selZ cN (k + 1)).map (Value.int .i64) := by rw [selZ_snoc hbit, List.map_append]; rfl
        have l20 : (selZ cN k).length + 1 = (selZ cN (k + 1)).length := by rw [selZ_snoc hbit, List.length_append]; rfl
        rw [e20, l20] at h20b
        have H20b := Lib.hid h20b
        have H21b := Lib.hid h21b
        have HB7 := Lib.hid hb7
        clear hal hlit h20a h21a hbw hone1 HOWN7 HGR hb7 h21b h20b e20 l20
        obtain ⟨ad, hidx, hld⟩ := (HS.out.sls (A, n, c, l) (by simp)).load (i := (k : Int)) (by omega) (d := d) (by rw [Int.toNat_natCast]; exact HD.out)
        have hl7 := hld w7 HB7.out
        have hzd := dv_size HD16.out
        have hal : Below w7.heap.size w7 (w7.alloc (.cells (wp.bc d).toArray 31)) := (Below.refl _ _).alloc (Nat.le_refl _) _
        have hlit : (w7.alloc (.cells (wp.bc d).toArray 31)).ownsRow w7.heap.size 31 16 (.slice (some ⟨w7.heap.size, 0, none⟩) 1 1) 1 (wp.bc d) := World.ownsRow_lit w7 (wp.bc d).toArray 1 (Nat.le_refl _) (by unfold maxLen; omega) (by rw [List.size_toArray, bc_len HD16.out])
        have h20a := wk.ownsRow_below H20b.out hal
        have h21a := wk.ownsRow_below H21b.out hal
        have hbw : wb.heap.size ≤ (w7.alloc (.cells (wp.bc d).toArray 31)).heap.size := by have := HB7.out.size; simp; omega
        have hdl : (selD cN k l).length ≤ k := by rw [selD_len]; exact hzl
        have hone1 := wk.ones_bc d
        go_wp2_with (first | (refine wk.load_agg rfl 31 (.tmp 79) rfl ad rfl (wp.bc d) _ hl7 Tryd.underlying31 rfl hzd ?_) | (refine list_new rfl (some 81) rfl _ (run_build1 (x := .tmp 80) (d := d) rfl rfl HD16.out) ?_) | (at_builtin; refine list_appendO rfl (.tmp 76) (.tmp 81) rfl wb.heap.size u21 (selD cN k l).length _ rfl h21a w7.heap.size (.slice (some ⟨w7.heap.size, 0, none⟩) 1 1) 1 (wp.bc d) rfl hlit hone1 (by omega) hbw ?_; intro v21b w8 hown8 hgr; have HOWN8 := Lib.hid hown8; have HGR := Lib.hid hgr; clear hown8 hgr))
        have hb8 : Below wb.heap.size wb w8 := (HB7.out.alloc HB7.out.size _).grown HGR.out hbw (fun g hg => (h21a.lt g hg).1)
        have h20c := h20a.kept HGR.out (own_apart h21a h20a (Ne.symm int_ne_digest))
        have h21c := HOWN8.out
        have e21 : (selD cN k l).flatMap wp.bc ++ wp.bc d = (selD cN (k + 1) l).flatMap wp.bc := by rw [selD_snoc hbit HD.out, List.flatMap_append]; simp
        have l21 : (selD cN k l).length + 1 = (selD cN (k + 1) l).length := by rw [selD_snoc hbit HD.out, List.length_append]; rfl
        rw [e21, l21] at h21c
        have H20c := Lib.hid h20c
        have H21c := Lib.hid h21c
        have HB8 := Lib.hid hb8
        clear hal hlit h20a h21a hbw hone1 HOWN8 HGR hb8 h21c h20c e21 l21 hidx hld hl7 hzd
        go_roundg (gk - 1)
        case measure => have := HK.out; omega
        case rel => exact ⟨k + 1, by have := HK.out; omega, by go_num, H20c.out, H21c.out, HB8.out⟩
      · have hev : ((cN / 2 ^ k % 2 : Nat) : Int) = 0 := by omega
        rw [hev] at hand
        go_wp2_with fail
        go_roundg (gk - 1)
        case measure => have := HK.out; omega
        case rel => exact ⟨k + 1, by have := HK.out; omega, by go_num, by rw [selZ_skip hbit]; exact H20.out, by rw [selD_skip hbit]; exact H21.out, HBEL.out⟩
    · obtain rfl : k = n := by omega
      obtain ⟨A20, c20, rfl, hI20⟩ := isZ_own H20.out rfl (fun x hx => by
        have h1 := selZ_lt cN k x hx
        unfold selZ at hx
        obtain ⟨j, _, rfl⟩ := List.mem_map.1 hx
        omega)
      obtain ⟨A21, c21, rfl, hI21⟩ := isD_own H21.out rfl (selD_16 (by have := HLEN.out; omega) HL16.out)
      replace HS := Lib.hid ((HS.out.next HBEL.out).sl hI21)
      have HZ := Lib.hid hI20
      have hzl := selZ_len cN k
      have HPL := Lib.hid (selZ_places cN k)
      have HDL := Lib.hid (selD_len cN k l)
      clear hI20 hI21 H20 H21 HBEL HK
      go_upto_region 18 with fail
      go_wp2_with fail
      refine (many_calls A k c l A20 (selZ cN k).length c20 (selZ cN k) _ (HS.out.sls (A, k, c, l) (by simp)) HZ.out HS.out.tab (by omega) (by omega)).mono ?_
      rintro e w6 ⟨x6, rfl, ho, hb⟩
      replace HS := Lib.hid (HS.out.next hb)
      replace HZ := Lib.hid (HZ.out.below hb)
      clear hb
      rw [manyE_ok HPL.out]
      obtain ⟨A23, c23, rfl, hI⟩ := isD_own ho rfl (manyP_16 HL16.out _)
      replace HS := Lib.hid (HS.out.sl hI)
      clear ho hI
      obtain ⟨lf, hlf⟩ : ∃ d, l[ia]? = some d := ⟨_, List.getElem?_eq_getElem (by have := HLEN.out; omega)⟩
      have HLF16 := Lib.hid (HL16.out lf (List.mem_of_getElem? hlf))
      obtain ⟨ad, hidx, hld⟩ := (HS.out.sls (A, k, c, l) (by simp)).load (i := (ia : Int)) (by omega) (d := lf) (by rw [Int.toNat_natCast]; exact hlf)
      have HC1 : Hid (chkI lf ia k (inclP l (ia : Int)) (rootD l) = true) := Lib.hid (by have := chkI_true (l := l) (i := ia) (leaf := lf) (by have := HLEN.out; omega) hlf (by have := HLEN.out; omega); rw [HLEN.out] at this; exact this)
      have HC2 : Hid (chkC fs k (rootD (l.take fs)) (rootD l) (consP l (fs : Int)) = true) := Lib.hid (by
        rcases Nat.eq_zero_or_pos fs with hz | hz
        · subst hz
          have := chkC_zero (l := l) (rootD (l.take 0)) (rootD l) (by have := HLEN.out; omega)
          rw [HLEN.out] at this
          rw [this, List.take_zero, rootD_nil rfl]; simp
        · have := chkC_old (l := l) (m := fs) (rootD l) hz (by have := HLEN.out; omega) (by have := HLEN.out; omega)
          rw [HLEN.out] at this
          rw [this]; simp)
      have HC3 : Hid (chkM k (selZ cN k) (selD cN k l) (manyP l (selZ cN k)) (rootD l) = true) := Lib.hid (by
        have := chkM_true (l := l) (p := selZ cN k) (fd := selD cN k l) (by intro h; subst h; have := HLEN.out; simp at this; omega) (by have := HLEN.out; omega) (by rw [HLEN.out]; exact HPL.out) HDL.out (fun j x hj => selD_at (by have := HLEN.out; omega) j x hj)
        rw [HLEN.out] at this
        exact this)
      have HIDX := Lib.hid hidx
      have HLD := Lib.hid hld
      clear hlf hidx hld
      go_upto_region 19 with fail
      refine wk.region_tailB 40 [.is (.int .i64 0), .is (.bool false), .is (.bool false), .is (.int .i64 0), .is (.bool false), .is (.bool false), .is (.bool false), .is (.int .i64 0), .is (.bool false), .is (.bool false), .is (.bool false), .is (.slice A k c), .is (.int .i64 (ia : Int)), .is (.pointer (some ad)), .is (dv lf), .is (.int .i64 (ia : Int)), .is (.int .i64 (k : Int)), .is (.slice A16 (inclP l (ia : Int)).length c16), .is (dv (rootD l)), .is (.bool true), .is (.bool false), .is (.bool false), .is (.bool false), .is (.int .i64 (fs : Int)), .is (.int .i64 (k : Int)), .is (dv (rootD (l.take fs))), .is (dv (rootD l)), .is (.slice A18 (consP l (fs : Int)).length c18), .is (.bool true), .is (.bool false), .is (.bool false), .is (.bool false), .is (.int .i64 (k : Int)), .is (.slice A20 (selZ cN k).length c20), .is (.slice A21 (selD cN k l).length c21), .is (.slice A23 (manyP l (selZ cN k)).length c23), .is (dv (rootD l)), .is (.bool true), .is (.bool false), .is (.bool false)] [some 89, some 90, some 91, some 92, some 93, some 94, some 95, some 96, some 97, some 98, some 99, some 100, some 101, some 102, some 103, some 104, some 105, some 106, some 107, some 108, some 109, some 110, some 111, some 112, some 113, some 114, some 115, some 116, some 117, some 118, some 119, some 120, some 121, some 122, some 123, some 124, some 125, some 126, some 127, some 128] (by kernel_rfl) (by kernel_rfl) (by kernel_rfl) (by kernel_rfl) (by kernel_rfl) (by kernel_rfl) ?hstep ?hdone
      case hstep =>
        intro i o ho hi E w4 hb4 D
        have hi2 : i = 0 ∨ i = 1 ∨ i = 2 ∨ i = 3 ∨ i = 4 ∨ i = 5 ∨ i = 6 ∨ i = 7 ∨ i = 8 ∨ i = 9 ∨ i = 10 ∨ i = 11 ∨ i = 12 ∨ i = 13 ∨ i = 14 ∨ i = 15 ∨ i = 16 ∨ i = 17 ∨ i = 18 ∨ i = 19 ∨ i = 20 ∨ i = 21 ∨ i = 22 ∨ i = 23 ∨ i = 24 ∨ i = 25 ∨ i = 26 ∨ i = 27 ∨ i = 28 ∨ i = 29 ∨ i = 30 ∨ i = 31 ∨ i = 32 ∨ i = 33 ∨ i = 34 ∨ i = 35 ∨ i = 36 ∨ i = 37 ∨ i = 38 ∨ i = 39 := by omega
        clear hi
        rcases hi2 with rfl | rfl | rfl | rfl | rfl | rfl | rfl | rfl | rfl | rfl | rfl | rfl | rfl | rfl | rfl | rfl | rfl | rfl | rfl | rfl | rfl | rfl | rfl | rfl | rfl | rfl | rfl | rfl | rfl | rfl | rfl | rfl | rfl | rfl | rfl | rfl | rfl | rfl | rfl | rfl
        ·
          have ho2 := (Array.getElem?_eq_some_iff.1 ho).2
          simp only [List.getElem_toArray, List.getElem_cons_zero] at ho2
          subst ho2
          clear ho
          have e17 := D.old 17 (by kernel_rfl)
          exact wk.does_move rfl (by rw [e17]; rfl)
        ·
          have ho2 := (Array.getElem?_eq_some_iff.1 ho).2
          simp only [List.getElem_toArray, List.getElem_cons_succ, List.getElem_cons_zero] at ho2
          subst ho2
          clear ho
          have e89 := D.is { on := 0, ground := .data } (by simp) rfl rfl 89 rfl
          exact wk.does_bin rfl (by rw [e89, D.con]; go_simp) rfl
        ·
          have ho2 := (Array.getElem?_eq_some_iff.1 ho).2
          simp only [List.getElem_toArray, List.getElem_cons_succ, List.getElem_cons_zero] at ho2
          subst ho2
          clear ho
          have e90 := D.is { on := 1, ground := .data } (by simp) rfl rfl 90 rfl
          exact wk.does_move rfl e90
        ·
          have ho2 := (Array.getElem?_eq_some_iff.1 ho).2
          simp only [List.getElem_toArray, List.getElem_cons_succ, List.getElem_cons_zero] at ho2
          subst ho2
          clear ho
          have e19 := D.old 19 (by kernel_rfl)
          exact wk.does_move rfl (by rw [e19]; rfl)
        ·
          have ho2 := (Array.getElem?_eq_some_iff.1 ho).2
          simp only [List.getElem_toArray, List.getElem_cons_succ, List.getElem_cons_zero] at ho2
          subst ho2
          clear ho
          have e92 := D.is { on := 3, ground := .data } (by simp) rfl rfl 92 rfl
          exact wk.does_bin rfl (by rw [e92, D.con]; go_simp) rfl
        ·
          have ho2 := (Array.getElem?_eq_some_iff.1 ho).2
          simp only [List.getElem_toArray, List.getElem_cons_succ, List.getElem_cons_zero] at ho2
          subst ho2
          clear ho
          have e91 := D.is { on := 2, ground := .data } (by simp) rfl rfl 91 rfl
          have e93 := D.is { on := 4, ground := .data } (by simp) rfl rfl 93 rfl
          exact wk.does_pick rfl e91 e93
        ·
          have ho2 := (Array.getElem?_eq_some_iff.1 ho).2
          simp only [List.getElem_toArray, List.getElem_cons_succ, List.getElem_cons_zero] at ho2
          subst ho2
          clear ho
          have e94 := D.is { on := 5, ground := .data } (by simp) rfl rfl 94 rfl
          exact wk.does_move rfl e94
        ·
          have ho2 := (Array.getElem?_eq_some_iff.1 ho).2
          simp only [List.getElem_toArray, List.getElem_cons_succ, List.getElem_cons_zero] at ho2
          subst ho2
          clear ho
          have e24 := D.old 24 (by kernel_rfl)
          exact wk.does_move rfl (by rw [e24]; rfl)
        ·
          have ho2 := (Array.getElem?_eq_some_iff.1 ho).2
          simp only [List.getElem_toArray, List.getElem_cons_succ, List.getElem_cons_zero] at ho2
          subst ho2
          clear ho
          have e96 := D.is { on := 7, ground := .data } (by simp) rfl rfl 96 rfl
          exact wk.does_bin rfl (by rw [e96, D.con]; go_simp) rfl
        ·
          have ho2 := (Array.getElem?_eq_some_iff.1 ho).2
          simp only [List.getElem_toArray, List.getElem_cons_succ, List.getElem_cons_zero] at ho2
          subst ho2
          clear ho
          have e95 := D.is { on := 6, ground := .data } (by simp) rfl rfl 95 rfl
          have e97 := D.is { on := 8, ground := .data } (by simp) rfl rfl 97 rfl
          exact wk.does_pick rfl e95 e97
        ·
          have ho2 := (Array.getElem?_eq_some_iff.1 ho).2
          simp only [List.getElem_toArray, List.getElem_cons_succ, List.getElem_cons_zero] at ho2
          subst ho2
          clear ho
          have e98 := D.is { on := 9, ground := .data } (by simp) rfl rfl 98 rfl
          exact wk.does_move rfl e98
        ·
          have ho2 := (Array.getElem?_eq_some_iff.1 ho).2
          simp only [List.getElem_toArray, List.getElem_cons_succ, List.getElem_cons_zero] at ho2
          subst ho2
          clear ho
          have e0 := D.old 0 (by kernel_rfl)
          exact wk.does_move rfl (by rw [e0]; rfl)
        ·
          have ho2 := (Array.getElem?_eq_some_iff.1 ho).2
          simp only [List.getElem_toArray, List.getElem_cons_succ, List.getElem_cons_zero] at ho2
          subst ho2
          clear ho
          have e12 := D.old 12 (by kernel_rfl)
          exact wk.does_move rfl (by rw [e12]; rfl)
        ·
          have ho2 := (Array.getElem?_eq_some_iff.1 ho).2
          simp only [List.getElem_toArray, List.getElem_cons_succ, List.getElem_cons_zero] at ho2
          subst ho2
          clear ho
          have e100 := D.is { on := 11, ground := .data } (by simp) rfl rfl 100 rfl
          have e101 := D.is { on := 12, ground := .data } (by simp) rfl rfl 101 rfl
          exact wk.does_run (op_index rfl e100 e101 (HIDX.out _)) rfl
        ·
          have ho2 := (Array.getElem?_eq_some_iff.1 ho).2
          simp only [List.getElem_toArray, List.getElem_cons_succ, List.getElem_cons_zero] at ho2
          subst ho2
          clear ho
          have e102 := D.is { on := 13, ground := .data } (by simp) rfl rfl 102 rfl
          exact wk.does_load_agg rfl e102 (HLD.out _ ((Below.refl _ _).drew.trans hb4)) Tryd.underlying31 rfl (dv_size HLF16.out) rfl
        ·
          have ho2 := (Array.getElem?_eq_some_iff.1 ho).2
          simp only [List.getElem_toArray, List.getElem_cons_succ, List.getElem_cons_zero] at ho2
          subst ho2
          clear ho
          have e12 := D.old 12 (by kernel_rfl)
          exact wk.does_move rfl (by rw [e12]; rfl)
        ·
          have ho2 := (Array.getElem?_eq_some_iff.1 ho).2
          simp only [List.getElem_toArray, List.getElem_cons_succ, List.getElem_cons_zero] at ho2
          subst ho2
          clear ho
          have e11 := D.old 11 (by kernel_rfl)
          exact wk.does_move rfl (by rw [e11]; rfl)
        ·
          have ho2 := (Array.getElem?_eq_some_iff.1 ho).2
          simp only [List.getElem_toArray, List.getElem_cons_succ, List.getElem_cons_zero] at ho2
          subst ho2
          clear ho
          have e16 := D.old 16 (by kernel_rfl)
          exact wk.does_move rfl (by rw [e16]; rfl)
        ·
          have ho2 := (Array.getElem?_eq_some_iff.1 ho).2
          simp only [List.getElem_toArray, List.getElem_cons_succ, List.getElem_cons_zero] at ho2
          subst ho2
          clear ho
          have e14 := D.old 14 (by kernel_rfl)
          exact wk.does_load_row rfl (by rw [e14]; rfl) ((HS.out.next ((Below.refl _ _).drew.trans hb4)).rows (g14, rootD l) (by simp)).1 Tryd.underlying31 rfl (dv_sizeA HR14.out) rfl
        ·
          have ho2 := (Array.getElem?_eq_some_iff.1 ho).2
          simp only [List.getElem_toArray, List.getElem_cons_succ, List.getElem_cons_zero] at ho2
          subst ho2
          clear ho
          have e103 := D.is { on := 14, ground := .data } (by simp) rfl rfl 103 rfl
          have e104 := D.is { on := 15, ground := .data } (by simp) rfl rfl 104 rfl
          have e105 := D.is { on := 16, ground := .data } (by simp) rfl rfl 105 rfl
          have e106 := D.is { on := 17, ground := .data } (by simp) rfl rfl 106 rfl
          have e107 := D.is { on := 18, ground := .data } (by simp) rfl rfl 107 rfl
          have hC := chkI_calls lf (rootD l) HLF16.out HR14.out ia k A16 _ c16 (inclP l (ia : Int)) w4 ((HS.out.next ((Below.refl _ _).drew.trans hb4)).sls (A16, (inclP l (ia : Int)).length, c16, inclP l (ia : Int)) (by simp)) (HS.out.next ((Below.refl _ _).drew.trans hb4)).tab
          rw [HC1.out] at hC
          refine wk.does_fn (f := 29) (vs := #[dv lf, .int .i64 (ia : Int), .int .i64 (k : Int), .slice A16 (inclP l (ia : Int)).length c16, dv (rootD l)]) rfl (D.fn _) (by simp [e103, e104, e105, e106, e107]) (by go_simp) ?_
          refine hC.mono ?_
          rintro e w5 ⟨rfl, hb5⟩
          exact ⟨_, rfl, hb5, rfl⟩
        ·
          have ho2 := (Array.getElem?_eq_some_iff.1 ho).2
          simp only [List.getElem_toArray, List.getElem_cons_succ, List.getElem_cons_zero] at ho2
          subst ho2
          clear ho
          have e108 := D.is { on := 19, ground := .data } (by simp) rfl rfl 108 rfl
          exact wk.does_un rfl (by rw [e108]; rfl) rfl
        ·
          have ho2 := (Array.getElem?_eq_some_iff.1 ho).2
          simp only [List.getElem_toArray, List.getElem_cons_succ, List.getElem_cons_zero] at ho2
          subst ho2
          clear ho
          have e99 := D.is { on := 10, ground := .data } (by simp) rfl rfl 99 rfl
          have e109 := D.is { on := 20, ground := .data } (by simp) rfl rfl 109 rfl
          exact wk.does_pick rfl e99 e109
        ·
          have ho2 := (Array.getElem?_eq_some_iff.1 ho).2
          simp only [List.getElem_toArray, List.getElem_cons_succ, List.getElem_cons_zero] at ho2
          subst ho2
          clear ho
          have e110 := D.is { on := 21, ground := .data } (by simp) rfl rfl 110 rfl
          exact wk.does_move rfl e110
        ·
          have ho2 := (Array.getElem?_eq_some_iff.1 ho).2
          simp only [List.getElem_toArray, List.getElem_cons_succ, List.getElem_cons_zero] at ho2
          subst ho2
          clear ho
          have e13 := D.old 13 (by kernel_rfl)
          exact wk.does_move rfl (by rw [e13]; rfl)
        ·
          have ho2 := (Array.getElem?_eq_some_iff.1 ho).2
          simp only [List.getElem_toArray, List.getElem_cons_succ, List.getElem_cons_zero] at ho2
          subst ho2
          clear ho
          have e11 := D.old 11 (by kernel_rfl)
          exact wk.does_move rfl (by rw [e11]; rfl)
        ·
          have ho2 := (Array.getElem?_eq_some_iff.1 ho).2
          simp only [List.getElem_toArray, List.getElem_cons_succ, List.getElem_cons_zero] at ho2
          subst ho2
          clear ho
          have e15 := D.old 15 (by kernel_rfl)
          exact wk.does_load_row rfl (by rw [e15]; rfl) ((HS.out.next ((Below.refl _ _).drew.trans hb4)).rows (g15, rootD (l.take fs)) (by simp)).1 Tryd.underlying31 rfl (dv_sizeA HR15.out) rfl
        ·
          have ho2 := (Array.getElem?_eq_some_iff.1 ho).2
          simp only [List.getElem_toArray, List.getElem_cons_succ, List.getElem_cons_zero] at ho2
          subst ho2
          clear ho
          have e14 := D.old 14 (by kernel_rfl)
          exact wk.does_load_row rfl (by rw [e14]; rfl) ((HS.out.next ((Below.refl _ _).drew.trans hb4)).rows (g14, rootD l) (by simp)).1 Tryd.underlying31 rfl (dv_sizeA HR14.out) rfl
        ·
          have ho2 := (Array.getElem?_eq_some_iff.1 ho).2
          simp only [List.getElem_toArray, List.getElem_cons_succ, List.getElem_cons_zero] at ho2
          subst ho2
          clear ho
          have e18 := D.old 18 (by kernel_rfl)
          exact wk.does_move rfl (by rw [e18]; rfl)
        ·
          have ho2 := (Array.getElem?_eq_some_iff.1 ho).2
          simp only [List.getElem_toArray, List.getElem_cons_succ, List.getElem_cons_zero] at ho2
          subst ho2
          clear ho
          have e112 := D.is { on := 23, ground := .data } (by simp) rfl rfl 112 rfl
          have e113 := D.is { on := 24, ground := .data } (by simp) rfl rfl 113 rfl
          have e114 := D.is { on := 25, ground := .data } (by simp) rfl rfl 114 rfl
          have e115 := D.is { on := 26, ground := .data } (by simp) rfl rfl 115 rfl
          have e116 := D.is { on := 27, ground := .data } (by simp) rfl rfl 116 rfl
          have hC := chkC_calls (rootD (l.take fs)) (rootD l) HR15.out HR14.out fs k A18 _ c18 (consP l (fs : Int)) w4 ((HS.out.next ((Below.refl _ _).drew.trans hb4)).sls (A18, (consP l (fs : Int)).length, c18, consP l (fs : Int)) (by simp)) (HS.out.next ((Below.refl _ _).drew.trans hb4)).tab
          rw [HC2.out] at hC
          refine wk.does_fn (f := 30) (vs := #[.int .i64 (fs : Int), .int .i64 (k : Int), dv (rootD (l.take fs)), dv (rootD l), .slice A18 (consP l (fs : Int)).length c18]) rfl (D.fn _) (by simp [e112, e113, e114, e115, e116]) (by go_simp) ?_
          refine hC.mono ?_
          rintro e w5 ⟨rfl, hb5⟩
          exact ⟨_, rfl, hb5, rfl⟩
        ·
          have ho2 := (Array.getElem?_eq_some_iff.1 ho).2
          simp only [List.getElem_toArray, List.getElem_cons_succ, List.getElem_cons_zero] at ho2
          subst ho2
          clear ho
          have e117 := D.is { on := 28, ground := .data } (by simp) rfl rfl 117 rfl
          exact wk.does_un rfl (by rw [e117]; rfl) rfl
        ·
          have ho2 := (Array.getElem?_eq_some_iff.1 ho).2
          simp only [List.getElem_toArray, List.getElem_cons_succ, List.getElem_cons_zero] at ho2
          subst ho2
          clear ho
          have e111 := D.is { on := 22, ground := .data } (by simp) rfl rfl 111 rfl
          have e118 := D.is { on := 29, ground := .data } (by simp) rfl rfl 118 rfl
          exact wk.does_pick rfl e111 e118
        ·
          have ho2 := (Array.getElem?_eq_some_iff.1 ho).2
          simp only [List.getElem_toArray, List.getElem_cons_succ, List.getElem_cons_zero] at ho2
          subst ho2
          clear ho
          have e119 := D.is { on := 30, ground := .data } (by simp) rfl rfl 119 rfl
          exact wk.does_move rfl e119
        ·
          have ho2 := (Array.getElem?_eq_some_iff.1 ho).2
          simp only [List.getElem_toArray, List.getElem_cons_succ, List.getElem_cons_zero] at ho2
          subst ho2
          clear ho
          have e11 := D.old 11 (by kernel_rfl)
          exact wk.does_move rfl (by rw [e11]; rfl)
        ·
          have ho2 := (Array.getElem?_eq_some_iff.1 ho).2
          simp only [List.getElem_toArray, List.getElem_cons_succ, List.getElem_cons_zero] at ho2
          subst ho2
          clear ho
          have e20 := D.old 20 (by kernel_rfl)
          exact wk.does_move rfl (by rw [e20]; rfl)
        ·
          have ho2 := (Array.getElem?_eq_some_iff.1 ho).2
          simp only [List.getElem_toArray, List.getElem_cons_succ, List.getElem_cons_zero] at ho2
          subst ho2
          clear ho
          have e21 := D.old 21 (by kernel_rfl)
          exact wk.does_move rfl (by rw [e21]; rfl)
        ·
          have ho2 := (Array.getElem?_eq_some_iff.1 ho).2
          simp only [List.getElem_toArray, List.getElem_cons_succ, List.getElem_cons_zero] at ho2
          subst ho2
          clear ho
          have e23 := D.old 23 (by kernel_rfl)
          exact wk.does_move rfl (by rw [e23]; rfl)
        ·
          have ho2 := (Array.getElem?_eq_some_iff.1 ho).2
          simp only [List.getElem_toArray, List.getElem_cons_succ, List.getElem_cons_zero] at ho2
          subst ho2
          clear ho
          have e14 := D.old 14 (by kernel_rfl)
          exact wk.does_load_row rfl (by rw [e14]; rfl) ((HS.out.next ((Below.refl _ _).drew.trans hb4)).rows (g14, rootD l) (by simp)).1 Tryd.underlying31 rfl (dv_sizeA HR14.out) rfl
        ·
          have ho2 := (Array.getElem?_eq_some_iff.1 ho).2
          simp only [List.getElem_toArray, List.getElem_cons_succ, List.getElem_cons_zero] at ho2
          subst ho2
          clear ho
          have e121 := D.is { on := 32, ground := .data } (by simp) rfl rfl 121 rfl
          have e122 := D.is { on := 33, ground := .data } (by simp) rfl rfl 122 rfl
          have e123 := D.is { on := 34, ground := .data } (by simp) rfl rfl 123 rfl
          have e124 := D.is { on := 35, ground := .data } (by simp) rfl rfl 124 rfl
          have e125 := D.is { on := 36, ground := .data } (by simp) rfl rfl 125 rfl
          have hC := chkM_calls (rootD l) HR14.out k A20 _ c20 (selZ cN k) A21 _ c21 (selD cN k l) A23 _ c23 (manyP l (selZ cN k)) w4 ((HS.out.next ((Below.refl _ _).drew.trans hb4)).sls (A23, (manyP l (selZ cN k)).length, c23, manyP l (selZ cN k)) (by simp)) (HZ.out.below ((Below.refl _ _).drew.trans hb4)) ((HS.out.next ((Below.refl _ _).drew.trans hb4)).sls (A21, (selD cN k l).length, c21, selD cN k l) (by simp)) (HS.out.next ((Below.refl _ _).drew.trans hb4)).tab (by omega)
          rw [HC3.out] at hC
          refine wk.does_fn (f := 23) (vs := #[.int .i64 (k : Int), .slice A20 (selZ cN k).length c20, .slice A21 (selD cN k l).length c21, .slice A23 (manyP l (selZ cN k)).length c23, dv (rootD l)]) rfl (D.fn _) (by simp [e121, e122, e123, e124, e125]) (by go_simp) ?_
          refine hC.mono ?_
          rintro e w5 ⟨rfl, hb5⟩
          exact ⟨_, rfl, hb5, rfl⟩
        ·
          have ho2 := (Array.getElem?_eq_some_iff.1 ho).2
          simp only [List.getElem_toArray, List.getElem_cons_succ, List.getElem_cons_zero] at ho2
          subst ho2
          clear ho
          have e126 := D.is { on := 37, ground := .data } (by simp) rfl rfl 126 rfl
          exact wk.does_un rfl (by rw [e126]; rfl) rfl
        ·
          have ho2 := (Array.getElem?_eq_some_iff.1 ho).2
          simp only [List.getElem_toArray, List.getElem_cons_succ, List.getElem_cons_zero] at ho2
          subst ho2
          clear ho
          have e120 := D.is { on := 31, ground := .data } (by simp) rfl rfl 120 rfl
          have e127 := D.is { on := 38, ground := .data } (by simp) rfl rfl 127 rfl
          exact wk.does_pick rfl e120 e127
      case hdone =>
        intro vals w4 hb4 hv
        have h39 := hv 39 (by omega)
        clear hv
        replace h39 : vals 39 = (.bool false) := h39
        simp only [List.drop_succ_cons, List.drop_zero, wpList, Act.put, wk.setL, List.setIfInBounds_toArray, List.set_cons_zero, List.set_cons_succ, Nat.zero_add, Nat.reduceAdd, h39]
        generalize vals 0 = x0
        generalize vals 1 = x1
        generalize vals 2 = x2
        generalize vals 3 = x3
        generalize vals 4 = x4
        generalize vals 5 = x5
        generalize vals 6 = x6
        generalize vals 7 = x7
        generalize vals 8 = x8
        generalize vals 9 = x9
        generalize vals 10 = x10
        generalize vals 11 = x11
        generalize vals 12 = x12
        generalize vals 13 = x13
        generalize vals 14 = x14
        generalize vals 15 = x15
        generalize vals 16 = x16
        generalize vals 17 = x17
        generalize vals 18 = x18
        generalize vals 19 = x19
        generalize vals 20 = x20
        generalize vals 21 = x21
        generalize vals 22 = x22
        generalize vals 23 = x23
        generalize vals 24 = x24
        generalize vals 25 = x25
        generalize vals 26 = x26
        generalize vals 27 = x27
        generalize vals 28 = x28
        generalize vals 29 = x29
        generalize vals 30 = x30
        generalize vals 31 = x31
        generalize vals 32 = x32
        generalize vals 33 = x33
        generalize vals 34 = x34
        generalize vals 35 = x35
        generalize vals 36 = x36
        generalize vals 37 = x37
        generalize vals 38 = x38
        replace HS := Lib.hid (HS.out.next ((Below.refl _ _).drew.trans hb4))
        clear hb4 HC1 HC2 HC3 HIDX HLD HLF16
        obtain ⟨wa, rfl⟩ : ∃ x : World, x = w4 := ⟨_, rfl⟩
        go_wp2_with fail
        go_loopg [25] fs (fun g x wz => ∃ q : Nat, x = .int .i64 ((2 ^ q : Nat) : Int) ∧ wz = wa ∧ fs ≤ 2 ^ q + g ∧ (q = 0 ∨ 2 ^ (q - 1) < fs))
        case atStart => exact ⟨0, rfl, rfl, by omega, .inl rfl⟩
        case round =>
          obtain ⟨q, rfl, rfl, hq1, hq2⟩ := hrel
          have hpos := Nat.two_pow_pos q
          have hq3 : 2 ^ q ≤ 80 := by
            rcases Nat.eq_zero_or_pos q with h0 | h0
            · subst h0; decide
            · rcases hq2 with h | h
              · omega
              · have : q = q - 1 + 1 := by omega
                rw [this, Nat.pow_succ]; omega
          have HQ2 := Lib.hid hq2
          clear hq2
          by_cases hlt : 2 ^ q < fs
          · obtain ⟨p, hp⟩ : ∃ p, p = 2 ^ q := ⟨_, rfl⟩
            rw [← hp] at hlt hq1 hq3 hpos ⊢
            have HP := Lib.hid hp
            clear hp
            go_wp2_with fail
            go_roundg (gk - 1)
            case measure => omega
            case rel => exact ⟨q + 1, congrArg (Value.int .i64) (by rw [Nat.pow_succ, ← HP.out]; omega), rfl, by rw [Nat.pow_succ, ← HP.out]; omega, .inr (by rw [Nat.add_sub_cancel, ← HP.out]; exact hlt)⟩
          · have HLN := Lib.hid (show l.length ≤ 1099511627776 by have := HLEN.out; omega)
            have hother : (2 ^ q ≠ fs ∨ fs = k) → chkC fs k o (rootD l) (consP l (fs : Int)) = (o == rootD (l.take fs)) := fun hc => by
              rcases Nat.eq_zero_or_pos fs with hz | hz
              · subst hz
                have := chkC_zero (l := l) o (rootD l) HLN.out
                rw [HLEN.out] at this
                rw [this, List.take_zero, rootD_nil rfl]
              · have := chkC_other (l := l) (m := fs) o hz (by have := HLEN.out; omega) HLN.out (by
                  rcases hc with hc | hc
                  · exact .inr fun j hj => hc (power_eq (by omega) HQ2.out hj)
                  · exact .inl (by have := HLEN.out; omega))
                rw [HLEN.out] at this
                exact this
            have hold : 1 ≤ fs → chkC fs k (rootD (l.take fs)) o (consP l (fs : Int)) = (o == rootD l) := fun hz => by
              have := chkC_old (l := l) (m := fs) o hz (by have := HLEN.out; omega) HLN.out
              rw [HLEN.out] at this
              rw [this, beq_flip]
            obtain ⟨bb, hbb⟩ : ∃ b, (o == rootD (l.take fs)) = b := ⟨_, rfl⟩
            obtain ⟨cc, hcc⟩ : ∃ b, (o == rootD l) = b := ⟨_, rfl⟩
            rw [hbb] at hother
            rw [hcc] at hold
            have HBB := Lib.hid hbb
            have HCC := Lib.hid hcc
            have HOT := Lib.hid hother
            have HOL := Lib.hid hold
            obtain ⟨p, hp⟩ : ∃ p, p = 2 ^ q := ⟨_, rfl⟩
            have HP := Lib.hid hp
            rw [← hp] at hlt hq1 hq3 hpos ⊢
            clear hp hother hold hbb hcc
            by_cases hpf : p = fs
            · have HCL := Lib.hid (HOL.out (by omega))
              have hz1 : ((fs : Int) == 0) = false := by simp; omega
              have hpp : ((p : Int) == (fs : Int)) = true := by simp; omega
              by_cases hfk : fs = k
              · have HCK := Lib.hid (HOT.out (.inr hfk))
                have hkk : ((fs : Int) == (k : Int)) = true := by simp; omega
                clear HOT HOL HQ2
                go_upto_region 24 with fail
                refine wk.region_tailS 20 [.is (.int .i64 (p : Int)), .is (.int .i64 (fs : Int)), .is (.bool false), .is (.bool false), .is (.int .i64 (fs : Int)), .is (.int .i64 (k : Int)), .is (.bool true), .is (.bool true), .is (.bool true), .is (.int .i64 (fs : Int)), .is (.int .i64 (k : Int)), .is (dv o), .is (dv (rootD l)), .is (.slice A18 (consP l (fs : Int)).length c18), .is (.bool bb), .is (dv o), .is (dv (rootD (l.take fs))), .is (.bool bb), .is (.bool false), .is (.bool false)] [some 134, some 135, some 136, some 137, some 138, some 139, some 140, some 141, some 142, some 143, some 144, some 145, some 146, some 147, some 148, some 149, some 150, some 151, some 152, some 153] (by kernel_rfl) (by kernel_rfl) (by kernel_rfl) (by kernel_rfl) [] (by kernel_rfl) (by intro p hp; cases hp) (by kernel_rfl) (by kernel_rfl) ?hstep ?hdone
                case hstep =>
                  intro i o ho hi hns E w4 hb4 D
                  have hi2 : i = 0 ∨ i = 1 ∨ i = 2 ∨ i = 3 ∨ i = 4 ∨ i = 5 ∨ i = 6 ∨ i = 7 ∨ i = 8 ∨ i = 9 ∨ i = 10 ∨ i = 11 ∨ i = 12 ∨ i = 13 ∨ i = 14 ∨ i = 15 ∨ i = 16 ∨ i = 17 ∨ i = 18 ∨ i = 19 := by omega
                  clear hi
                  rcases hi2 with rfl | rfl | rfl | rfl | rfl | rfl | rfl | rfl | rfl | rfl | rfl | rfl | rfl | rfl | rfl | rfl | rfl | rfl | rfl | rfl
                  ·
                    have ho2 := (Array.getElem?_eq_some_iff.1 ho).2
                    simp only [List.getElem_toArray, List.getElem_cons_zero] at ho2
                    subst ho2
                    clear ho
                    have e25 := D.old 25 (by kernel_rfl)
                    exact wk.does_move rfl (by rw [e25]; rfl)
                  ·
                    have ho2 := (Array.getElem?_eq_some_iff.1 ho).2
                    simp only [List.getElem_toArray, List.getElem_cons_succ, List.getElem_cons_zero] at ho2
                    subst ho2
                    clear ho
                    have e13 := D.old 13 (by kernel_rfl)
                    exact wk.does_move rfl (by rw [e13]; rfl)
                  ·
                    have ho2 := (Array.getElem?_eq_some_iff.1 ho).2
                    simp only [List.getElem_toArray, List.getElem_cons_succ, List.getElem_cons_zero] at ho2
                    subst ho2
                    clear ho
                    have e134 := D.is { on := 0, ground := .data } (by simp) rfl rfl 134 rfl
                    have e135 := D.is { on := 1, ground := .data } (by simp) rfl rfl 135 rfl
                    exact wk.does_bin rfl (by rw [e134, e135]; go_simp <;> omega) rfl
                  ·
                    have ho2 := (Array.getElem?_eq_some_iff.1 ho).2
                    simp only [List.getElem_toArray, List.getElem_cons_succ, List.getElem_cons_zero] at ho2
                    subst ho2
                    clear ho
                    have e136 := D.is { on := 2, ground := .data } (by simp) rfl rfl 136 rfl
                    exact wk.does_move rfl e136
                  ·
                    have ho2 := (Array.getElem?_eq_some_iff.1 ho).2
                    simp only [List.getElem_toArray, List.getElem_cons_succ, List.getElem_cons_zero] at ho2
                    subst ho2
                    clear ho
                    have e13 := D.old 13 (by kernel_rfl)
                    exact wk.does_move rfl (by rw [e13]; rfl)
                  ·
                    have ho2 := (Array.getElem?_eq_some_iff.1 ho).2
                    simp only [List.getElem_toArray, List.getElem_cons_succ, List.getElem_cons_zero] at ho2
                    subst ho2
                    clear ho
                    have e11 := D.old 11 (by kernel_rfl)
                    exact wk.does_move rfl (by rw [e11]; rfl)
                  ·
                    have ho2 := (Array.getElem?_eq_some_iff.1 ho).2
                    simp only [List.getElem_toArray, List.getElem_cons_succ, List.getElem_cons_zero] at ho2
                    subst ho2
                    clear ho
                    have e138 := D.is { on := 4, ground := .data } (by simp) rfl rfl 138 rfl
                    have e139 := D.is { on := 5, ground := .data } (by simp) rfl rfl 139 rfl
                    exact wk.does_bin rfl (by rw [e138, e139]; go_simp) rfl
                  ·
                    have ho2 := (Array.getElem?_eq_some_iff.1 ho).2
                    simp only [List.getElem_toArray, List.getElem_cons_succ, List.getElem_cons_zero] at ho2
                    subst ho2
                    clear ho
                    have e137 := D.is { on := 3, ground := .data } (by simp) rfl rfl 137 rfl
                    have e140 := D.is { on := 6, ground := .data } (by simp) rfl rfl 140 rfl
                    exact wk.does_pick rfl e137 e140
                  ·
                    have ho2 := (Array.getElem?_eq_some_iff.1 ho).2
                    simp only [List.getElem_toArray, List.getElem_cons_succ, List.getElem_cons_zero] at ho2
                    subst ho2
                    clear ho
                    have e141 := D.is { on := 7, ground := .data } (by simp) rfl rfl 141 rfl
                    exact wk.does_move rfl e141
                  ·
                    have ho2 := (Array.getElem?_eq_some_iff.1 ho).2
                    simp only [List.getElem_toArray, List.getElem_cons_succ, List.getElem_cons_zero] at ho2
                    subst ho2
                    clear ho
                    have e13 := D.old 13 (by kernel_rfl)
                    exact wk.does_move rfl (by rw [e13]; rfl)
                  ·
                    have ho2 := (Array.getElem?_eq_some_iff.1 ho).2
                    simp only [List.getElem_toArray, List.getElem_cons_succ, List.getElem_cons_zero] at ho2
                    subst ho2
                    clear ho
                    have e11 := D.old 11 (by kernel_rfl)
                    exact wk.does_move rfl (by rw [e11]; rfl)
                  ·
                    have ho2 := (Array.getElem?_eq_some_iff.1 ho).2
                    simp only [List.getElem_toArray, List.getElem_cons_succ, List.getElem_cons_zero] at ho2
                    subst ho2
                    clear ho
                    have e9 := D.old 9 (by kernel_rfl)
                    exact wk.does_load_row rfl (by rw [e9]; rfl) ((HS.out.next ((Below.refl _ _).drew.trans hb4)).rows (B, o) (by simp)).1 Tryd.underlying31 rfl (dv_sizeA HO.out) rfl
                  ·
                    have ho2 := (Array.getElem?_eq_some_iff.1 ho).2
                    simp only [List.getElem_toArray, List.getElem_cons_succ, List.getElem_cons_zero] at ho2
                    subst ho2
                    clear ho
                    have e14 := D.old 14 (by kernel_rfl)
                    exact wk.does_load_row rfl (by rw [e14]; rfl) ((HS.out.next ((Below.refl _ _).drew.trans hb4)).rows (g14, rootD l) (by simp)).1 Tryd.underlying31 rfl (dv_sizeA HR14.out) rfl
                  ·
                    have ho2 := (Array.getElem?_eq_some_iff.1 ho).2
                    simp only [List.getElem_toArray, List.getElem_cons_succ, List.getElem_cons_zero] at ho2
                    subst ho2
                    clear ho
                    have e18 := D.old 18 (by kernel_rfl)
                    exact wk.does_move rfl (by rw [e18]; rfl)
                  ·
                    have ho2 := (Array.getElem?_eq_some_iff.1 ho).2
                    simp only [List.getElem_toArray, List.getElem_cons_succ, List.getElem_cons_zero] at ho2
                    subst ho2
                    clear ho
                    have e143 := D.is { on := 9, ground := .data } (by simp) rfl rfl 143 rfl
                    have e144 := D.is { on := 10, ground := .data } (by simp) rfl rfl 144 rfl
                    have e145 := D.is { on := 11, ground := .data } (by simp) rfl rfl 145 rfl
                    have e146 := D.is { on := 12, ground := .data } (by simp) rfl rfl 146 rfl
                    have e147 := D.is { on := 13, ground := .data } (by simp) rfl rfl 147 rfl
                    have hC := chkC_calls o (rootD l) HO.out HR14.out fs k A18 _ c18 (consP l (fs : Int)) w4 ((HS.out.next ((Below.refl _ _).drew.trans hb4)).sls (A18, (consP l (fs : Int)).length, c18, consP l (fs : Int)) (by simp)) (HS.out.next ((Below.refl _ _).drew.trans hb4)).tab
                    rw [HCK.out] at hC
                    refine wk.does_fn (f := 30) (vs := #[.int .i64 (fs : Int), .int .i64 (k : Int), dv o, dv (rootD l), .slice A18 (consP l (fs : Int)).length c18]) rfl (D.fn _) (by simp [e143, e144, e145, e146, e147]) (by go_simp) ?_
                    refine hC.mono ?_
                    rintro e w5 ⟨rfl, hb5⟩
                    exact ⟨_, rfl, hb5, rfl⟩
                  ·
                    have ho2 := (Array.getElem?_eq_some_iff.1 ho).2
                    simp only [List.getElem_toArray, List.getElem_cons_succ, List.getElem_cons_zero] at ho2
                    subst ho2
                    clear ho
                    have e9 := D.old 9 (by kernel_rfl)
                    exact wk.does_load_row rfl (by rw [e9]; rfl) ((HS.out.next ((Below.refl _ _).drew.trans hb4)).rows (B, o) (by simp)).1 Tryd.underlying31 rfl (dv_sizeA HO.out) rfl
                  ·
                    have ho2 := (Array.getElem?_eq_some_iff.1 ho).2
                    simp only [List.getElem_toArray, List.getElem_cons_succ, List.getElem_cons_zero] at ho2
                    subst ho2
                    clear ho
                    have e15 := D.old 15 (by kernel_rfl)
                    exact wk.does_load_row rfl (by rw [e15]; rfl) ((HS.out.next ((Below.refl _ _).drew.trans hb4)).rows (g15, rootD (l.take fs)) (by simp)).1 Tryd.underlying31 rfl (dv_sizeA HR15.out) rfl
                  ·
                    have ho2 := (Array.getElem?_eq_some_iff.1 ho).2
                    simp only [List.getElem_toArray, List.getElem_cons_succ, List.getElem_cons_zero] at ho2
                    subst ho2
                    clear ho
                    have e149 := D.is { on := 15, ground := .data } (by simp) rfl rfl 149 rfl
                    have e150 := D.is { on := 16, ground := .data } (by simp) rfl rfl 150 rfl
                    exact wk.does_eq_arr rfl e149 e150 (by kernel_rfl) (b := bb) (by have h := eq_dv w4 _ _ HO.out HR15.out; rw [HBB.out] at h; exact h) rfl
                  ·
                    have ho2 := (Array.getElem?_eq_some_iff.1 ho).2
                    simp only [List.getElem_toArray, List.getElem_cons_succ, List.getElem_cons_zero] at ho2
                    subst ho2
                    clear ho
                    have e148 := D.is { on := 14, ground := .data } (by simp) rfl rfl 148 rfl
                    have e151 := D.is { on := 17, ground := .data } (by simp) rfl rfl 151 rfl
                    exact wk.does_bin rfl (by rw [e148, e151]; cases bb <;> go_simp) rfl
                  ·
                    have ho2 := (Array.getElem?_eq_some_iff.1 ho).2
                    simp only [List.getElem_toArray, List.getElem_cons_succ, List.getElem_cons_zero] at ho2
                    subst ho2
                    clear ho
                    have e142 := D.is { on := 8, ground := .data } (by simp) rfl rfl 142 rfl
                    have e152 := D.is { on := 18, ground := .data } (by simp) rfl rfl 152 rfl
                    exact wk.does_pick rfl e142 e152
                case hdone =>
                  intro vals w4 hb4 hv
                  have h19 := hv 19 (by omega)
                  clear hv
                  replace h19 : vals 19 = (.bool false) := h19
                  simp only [List.drop_succ_cons, List.drop_zero, wpList, Act.put, wk.setL, List.setIfInBounds_toArray, List.set_cons_zero, List.set_cons_succ, Nat.zero_add, Nat.reduceAdd, h19]
                  generalize vals 0 = x0
                  generalize vals 1 = x1
                  generalize vals 2 = x2
                  generalize vals 3 = x3
                  generalize vals 4 = x4
                  generalize vals 5 = x5
                  generalize vals 6 = x6
                  generalize vals 7 = x7
                  generalize vals 8 = x8
                  generalize vals 9 = x9
                  generalize vals 10 = x10
                  generalize vals 11 = x11
                  generalize vals 12 = x12
                  generalize vals 13 = x13
                  generalize vals 14 = x14
                  generalize vals 15 = x15
                  generalize vals 16 = x16
                  generalize vals 17 = x17
                  generalize vals 18 = x18
                  replace HS := Lib.hid (HS.out.next ((Below.refl _ _).drew.trans hb4))
                  clear hb4
                  go_upto_region 26 with fail
                  refine wk.region_tailS 18 [.is (.bool true), .is (.bool true), .is (.int .i64 (fs : Int)), .is (.bool false), .is (.bool false), .is (.int .i64 (fs : Int)), .is (.int .i64 (k : Int)), .is (dv (rootD (l.take fs))), .is (dv o), .is (.slice A18 (consP l (fs : Int)).length c18), .is (.bool cc), .is (dv o), .is (dv (rootD l)), .is (.bool cc), .is (.bool true), .is (.bool true), .is (.bool true), .is (.bool true)] [some 154, some 155, some 156, some 157, some 158, some 159, some 160, some 161, some 162, some 163, some 164, some 165, some 166, some 167, some 168, some 169, some 170, some 10] (by kernel_rfl) (by kernel_rfl) (by kernel_rfl) (by kernel_rfl) [] (by kernel_rfl) (by intro p hp; cases hp) (by kernel_rfl) (by kernel_rfl) ?hstep ?hdone
                  case hstep =>
                    intro i o ho hi hns E w4 hb4 D
                    have hi2 : i = 0 ∨ i = 1 ∨ i = 2 ∨ i = 3 ∨ i = 4 ∨ i = 5 ∨ i = 6 ∨ i = 7 ∨ i = 8 ∨ i = 9 ∨ i = 10 ∨ i = 11 ∨ i = 12 ∨ i = 13 ∨ i = 14 ∨ i = 15 ∨ i = 16 ∨ i = 17 := by omega
                    clear hi
                    rcases hi2 with rfl | rfl | rfl | rfl | rfl | rfl | rfl | rfl | rfl | rfl | rfl | rfl | rfl | rfl | rfl | rfl | rfl | rfl
                    ·
                      have ho2 := (Array.getElem?_eq_some_iff.1 ho).2
                      simp only [List.getElem_toArray, List.getElem_cons_zero] at ho2
                      subst ho2
                      clear ho
                      refine wk.does_fn (f := 9) (vs := #[]) rfl (D.fn _) (by simp) (by go_simp) ?_
                      refine (sanity_calls w4 (HS.out.next ((Below.refl _ _).drew.trans hb4)).tab).mono ?_
                      rintro e w5 ⟨rfl, hb5⟩
                      exact ⟨_, rfl, hb5, rfl⟩
                    ·
                      have ho2 := (Array.getElem?_eq_some_iff.1 ho).2
                      simp only [List.getElem_toArray, List.getElem_cons_succ, List.getElem_cons_zero] at ho2
                      subst ho2
                      clear ho
                      have e154 := D.is { on := 0, ground := .data } (by simp) rfl rfl 154 rfl
                      exact wk.does_move rfl e154
                    ·
                      have ho2 := (Array.getElem?_eq_some_iff.1 ho).2
                      simp only [List.getElem_toArray, List.getElem_cons_succ, List.getElem_cons_zero] at ho2
                      subst ho2
                      clear ho
                      have e13 := D.old 13 (by kernel_rfl)
                      exact wk.does_move rfl (by rw [e13]; rfl)
                    ·
                      have ho2 := (Array.getElem?_eq_some_iff.1 ho).2
                      simp only [List.getElem_toArray, List.getElem_cons_succ, List.getElem_cons_zero] at ho2
                      subst ho2
                      clear ho
                      have e156 := D.is { on := 2, ground := .data } (by simp) rfl rfl 156 rfl
                      exact wk.does_bin rfl (by rw [e156, D.con]; go_simp) rfl
                    ·
                      have ho2 := (Array.getElem?_eq_some_iff.1 ho).2
                      simp only [List.getElem_toArray, List.getElem_cons_succ, List.getElem_cons_zero] at ho2
                      subst ho2
                      clear ho
                      have e157 := D.is { on := 3, ground := .data } (by simp) rfl rfl 157 rfl
                      exact wk.does_move rfl e157
                    ·
                      have ho2 := (Array.getElem?_eq_some_iff.1 ho).2
                      simp only [List.getElem_toArray, List.getElem_cons_succ, List.getElem_cons_zero] at ho2
                      subst ho2
                      clear ho
                      have e13 := D.old 13 (by kernel_rfl)
                      exact wk.does_move rfl (by rw [e13]; rfl)
                    ·
                      have ho2 := (Array.getElem?_eq_some_iff.1 ho).2
                      simp only [List.getElem_toArray, List.getElem_cons_succ, List.getElem_cons_zero] at ho2
                      subst ho2
                      clear ho
                      have e11 := D.old 11 (by kernel_rfl)
                      exact wk.does_move rfl (by rw [e11]; rfl)
                    ·
                      have ho2 := (Array.getElem?_eq_some_iff.1 ho).2
                      simp only [List.getElem_toArray, List.getElem_cons_succ, List.getElem_cons_zero] at ho2
                      subst ho2
                      clear ho
                      have e15 := D.old 15 (by kernel_rfl)
                      exact wk.does_load_row rfl (by rw [e15]; rfl) ((HS.out.next ((Below.refl _ _).drew.trans hb4)).rows (g15, rootD (l.take fs)) (by simp)).1 Tryd.underlying31 rfl (dv_sizeA HR15.out) rfl
                    ·
                      have ho2 := (Array.getElem?_eq_some_iff.1 ho).2
                      simp only [List.getElem_toArray, List.getElem_cons_succ, List.getElem_cons_zero] at ho2
                      subst ho2
                      clear ho
                      have e9 := D.old 9 (by kernel_rfl)
                      exact wk.does_load_row rfl (by rw [e9]; rfl) ((HS.out.next ((Below.refl _ _).drew.trans hb4)).rows (B, o) (by simp)).1 Tryd.underlying31 rfl (dv_sizeA HO.out) rfl
                    ·
                      have ho2 := (Array.getElem?_eq_some_iff.1 ho).2
                      simp only [List.getElem_toArray, List.getElem_cons_succ, List.getElem_cons_zero] at ho2
                      subst ho2
                      clear ho
                      have e18 := D.old 18 (by kernel_rfl)
                      exact wk.does_move rfl (by rw [e18]; rfl)
                    ·
                      have ho2 := (Array.getElem?_eq_some_iff.1 ho).2
                      simp only [List.getElem_toArray, List.getElem_cons_succ, List.getElem_cons_zero] at ho2
                      subst ho2
                      clear ho
                      have e159 := D.is { on := 5, ground := .data } (by simp) rfl rfl 159 rfl
                      have e160 := D.is { on := 6, ground := .data } (by simp) rfl rfl 160 rfl
                      have e161 := D.is { on := 7, ground := .data } (by simp) rfl rfl 161 rfl
                      have e162 := D.is { on := 8, ground := .data } (by simp) rfl rfl 162 rfl
                      have e163 := D.is { on := 9, ground := .data } (by simp) rfl rfl 163 rfl
                      have hC := chkC_calls (rootD (l.take fs)) o HR15.out HO.out fs k A18 _ c18 (consP l (fs : Int)) w4 ((HS.out.next ((Below.refl _ _).drew.trans hb4)).sls (A18, (consP l (fs : Int)).length, c18, consP l (fs : Int)) (by simp)) (HS.out.next ((Below.refl _ _).drew.trans hb4)).tab
                      rw [HCL.out] at hC
                      refine wk.does_fn (f := 30) (vs := #[.int .i64 (fs : Int), .int .i64 (k : Int), dv (rootD (l.take fs)), dv o, .slice A18 (consP l (fs : Int)).length c18]) rfl (D.fn _) (by simp [e159, e160, e161, e162, e163]) (by go_simp) ?_
                      refine hC.mono ?_
                      rintro e w5 ⟨rfl, hb5⟩
                      exact ⟨_, rfl, hb5, rfl⟩
                    ·
                      have ho2 := (Array.getElem?_eq_some_iff.1 ho).2
                      simp only [List.getElem_toArray, List.getElem_cons_succ, List.getElem_cons_zero] at ho2
                      subst ho2
                      clear ho
                      have e9 := D.old 9 (by kernel_rfl)
                      exact wk.does_load_row rfl (by rw [e9]; rfl) ((HS.out.next ((Below.refl _ _).drew.trans hb4)).rows (B, o) (by simp)).1 Tryd.underlying31 rfl (dv_sizeA HO.out) rfl
                    ·
                      have ho2 := (Array.getElem?_eq_some_iff.1 ho).2
                      simp only [List.getElem_toArray, List.getElem_cons_succ, List.getElem_cons_zero] at ho2
                      subst ho2
                      clear ho
                      have e14 := D.old 14 (by kernel_rfl)
                      exact wk.does_load_row rfl (by rw [e14]; rfl) ((HS.out.next ((Below.refl _ _).drew.trans hb4)).rows (g14, rootD l) (by simp)).1 Tryd.underlying31 rfl (dv_sizeA HR14.out) rfl
                    ·
                      have ho2 := (Array.getElem?_eq_some_iff.1 ho).2
                      simp only [List.getElem_toArray, List.getElem_cons_succ, List.getElem_cons_zero] at ho2
                      subst ho2
                      clear ho
                      have e165 := D.is { on := 11, ground := .data } (by simp) rfl rfl 165 rfl
                      have e166 := D.is { on := 12, ground := .data } (by simp) rfl rfl 166 rfl
                      exact wk.does_eq_arr rfl e165 e166 (by kernel_rfl) (b := cc) (by have h := eq_dv w4 _ _ HO.out HR14.out; rw [HCC.out] at h; exact h) rfl
                    ·
                      have ho2 := (Array.getElem?_eq_some_iff.1 ho).2
                      simp only [List.getElem_toArray, List.getElem_cons_succ, List.getElem_cons_zero] at ho2
                      subst ho2
                      clear ho
                      have e164 := D.is { on := 10, ground := .data } (by simp) rfl rfl 164 rfl
                      have e167 := D.is { on := 13, ground := .data } (by simp) rfl rfl 167 rfl
                      exact wk.does_bin rfl (by rw [e164, e167]; cases cc <;> go_simp) rfl
                    ·
                      have ho2 := (Array.getElem?_eq_some_iff.1 ho).2
                      simp only [List.getElem_toArray, List.getElem_cons_succ, List.getElem_cons_zero] at ho2
                      subst ho2
                      clear ho
                      have e158 := D.is { on := 4, ground := .data } (by simp) rfl rfl 158 rfl
                      have e168 := D.is { on := 14, ground := .data } (by simp) rfl rfl 168 rfl
                      exact wk.does_pick rfl e158 e168
                    ·
                      have ho2 := (Array.getElem?_eq_some_iff.1 ho).2
                      simp only [List.getElem_toArray, List.getElem_cons_succ, List.getElem_cons_zero] at ho2
                      subst ho2
                      clear ho
                      have e155 := D.is { on := 1, ground := .data } (by simp) rfl rfl 155 rfl
                      have e169 := D.is { on := 15, ground := .data } (by simp) rfl rfl 169 rfl
                      exact wk.does_pick rfl e155 e169
                    ·
                      have ho2 := (Array.getElem?_eq_some_iff.1 ho).2
                      simp only [List.getElem_toArray, List.getElem_cons_succ, List.getElem_cons_zero] at ho2
                      subst ho2
                      clear ho
                      have e170 := D.is { on := 16, ground := .data } (by simp) rfl rfl 170 rfl
                      exact wk.does_assign rfl e170
                  case hdone =>
                    intro vals w4 hb4 hv
                    have h17 := hv 17 (by omega)
                    clear hv
                    replace h17 : vals 17 = (.bool true) := h17
                    simp only [List.drop_succ_cons, List.drop_zero, wpList, Act.put, wk.setL, List.setIfInBounds_toArray, List.set_cons_zero, List.set_cons_succ, Nat.zero_add, Nat.reduceAdd, h17]
                    generalize vals 0 = x0
                    generalize vals 1 = x1
                    generalize vals 2 = x2
                    generalize vals 3 = x3
                    generalize vals 4 = x4
                    generalize vals 5 = x5
                    generalize vals 6 = x6
                    generalize vals 7 = x7
                    generalize vals 8 = x8
                    generalize vals 9 = x9
                    generalize vals 10 = x10
                    generalize vals 11 = x11
                    generalize vals 12 = x12
                    generalize vals 13 = x13
                    generalize vals 14 = x14
                    generalize vals 15 = x15
                    generalize vals 16 = x16
                    replace HS := Lib.hid (HS.out.next ((Below.refl _ _).drew.trans hb4))
                    clear hb4
                    go_wp2_with fail
                    go_ret
                    exact ⟨rfl, HS.out.below⟩
                  
        
              · have hkk : ((fs : Int) == (k : Int)) = false := by simp; omega
                clear HOT HOL HQ2
                go_upto_region 24 with fail
                refine wk.region_tailS 20 [.is (.int .i64 (p : Int)), .is (.int .i64 (fs : Int)), .is (.bool false), .is (.bool false), .is (.int .i64 (fs : Int)), .is (.int .i64 (k : Int)), .is (.bool false), .is (.bool false), .is (.bool false), .is undef, .is undef, .is undef, .is undef, .is undef, .is undef, .is undef, .is undef, .is undef, .is undef, .is (Value.bool false)] [some 134, some 135, some 136, some 137, some 138, some 139, some 140, some 141, some 142, some 143, some 144, some 145, some 146, some 147, some 148, some 149, some 150, some 151, some 152, some 153] (by kernel_rfl) (by kernel_rfl) (by kernel_rfl) (by kernel_rfl) [9, 10, 11, 12, 13, 14, 15, 16, 17, 18] (by kernel_rfl) (by intro p hp; simp only [List.mem_cons, List.not_mem_nil, or_false] at hp; rcases hp with rfl | rfl | rfl | rfl | rfl | rfl | rfl | rfl | rfl | rfl <;> rfl) (by kernel_rfl) (by kernel_rfl) ?hstep ?hdone
                case hstep =>
                  intro i o ho hi hns E w4 hb4 D
                  have hi2 : i = 0 ∨ i = 1 ∨ i = 2 ∨ i = 3 ∨ i = 4 ∨ i = 5 ∨ i = 6 ∨ i = 7 ∨ i = 8 ∨ i = 9 ∨ i = 10 ∨ i = 11 ∨ i = 12 ∨ i = 13 ∨ i = 14 ∨ i = 15 ∨ i = 16 ∨ i = 17 ∨ i = 18 ∨ i = 19 := by omega
                  clear hi
                  rcases hi2 with rfl | rfl | rfl | rfl | rfl | rfl | rfl | rfl | rfl | rfl | rfl | rfl | rfl | rfl | rfl | rfl | rfl | rfl | rfl | rfl
                  ·
                    have ho2 := (Array.getElem?_eq_some_iff.1 ho).2
                    simp only [List.getElem_toArray, List.getElem_cons_zero] at ho2
                    subst ho2
                    clear ho
                    have e25 := D.old 25 (by kernel_rfl)
                    exact wk.does_move rfl (by rw [e25]; rfl)
                  ·
                    have ho2 := (Array.getElem?_eq_some_iff.1 ho).2
                    simp only [List.getElem_toArray, List.getElem_cons_succ, List.getElem_cons_zero] at ho2
                    subst ho2
                    clear ho
                    have e13 := D.old 13 (by kernel_rfl)
                    exact wk.does_move rfl (by rw [e13]; rfl)
                  ·
                    have ho2 := (Array.getElem?_eq_some_iff.1 ho).2
                    simp only [List.getElem_toArray, List.getElem_cons_succ, List.getElem_cons_zero] at ho2
                    subst ho2
                    clear ho
                    have e134 := D.is { on := 0, ground := .data } (by simp) rfl rfl 134 rfl
                    have e135 := D.is { on := 1, ground := .data } (by simp) rfl rfl 135 rfl
                    exact wk.does_bin rfl (by rw [e134, e135]; go_simp <;> omega) rfl
                  ·
                    have ho2 := (Array.getElem?_eq_some_iff.1 ho).2
                    simp only [List.getElem_toArray, List.getElem_cons_succ, List.getElem_cons_zero] at ho2
                    subst ho2
                    clear ho
                    have e136 := D.is { on := 2, ground := .data } (by simp) rfl rfl 136 rfl
                    exact wk.does_move rfl e136
                  ·
                    have ho2 := (Array.getElem?_eq_some_iff.1 ho).2
                    simp only [List.getElem_toArray, List.getElem_cons_succ, List.getElem_cons_zero] at ho2
                    subst ho2
                    clear ho
                    have e13 := D.old 13 (by kernel_rfl)
                    exact wk.does_move rfl (by rw [e13]; rfl)
                  ·
                    have ho2 := (Array.getElem?_eq_some_iff.1 ho).2
                    simp only [List.getElem_toArray, List.getElem_cons_succ, List.getElem_cons_zero] at ho2
                    subst ho2
                    clear ho
                    have e11 := D.old 11 (by kernel_rfl)
                    exact wk.does_move rfl (by rw [e11]; rfl)
                  ·
                    have ho2 := (Array.getElem?_eq_some_iff.1 ho).2
                    simp only [List.getElem_toArray, List.getElem_cons_succ, List.getElem_cons_zero] at ho2
                    subst ho2
                    clear ho
                    have e138 := D.is { on := 4, ground := .data } (by simp) rfl rfl 138 rfl
                    have e139 := D.is { on := 5, ground := .data } (by simp) rfl rfl 139 rfl
                    exact wk.does_bin rfl (by rw [e138, e139]; go_simp) rfl
                  ·
                    have ho2 := (Array.getElem?_eq_some_iff.1 ho).2
                    simp only [List.getElem_toArray, List.getElem_cons_succ, List.getElem_cons_zero] at ho2
                    subst ho2
                    clear ho
                    have e137 := D.is { on := 3, ground := .data } (by simp) rfl rfl 137 rfl
                    have e140 := D.is { on := 6, ground := .data } (by simp) rfl rfl 140 rfl
                    exact wk.does_pick rfl e137 e140
                  ·
                    have ho2 := (Array.getElem?_eq_some_iff.1 ho).2
                    simp only [List.getElem_toArray, List.getElem_cons_succ, List.getElem_cons_zero] at ho2
                    subst ho2
                    clear ho
                    have e141 := D.is { on := 7, ground := .data } (by simp) rfl rfl 141 rfl
                    exact wk.does_move rfl e141
                  · cases (show false = true from hns.symm.trans (by kernel_rfl))
                  · cases (show false = true from hns.symm.trans (by kernel_rfl))
                  · cases (show false = true from hns.symm.trans (by kernel_rfl))
                  · cases (show false = true from hns.symm.trans (by kernel_rfl))
                  · cases (show false = true from hns.symm.trans (by kernel_rfl))
                  · cases (show false = true from hns.symm.trans (by kernel_rfl))
                  · cases (show false = true from hns.symm.trans (by kernel_rfl))
                  · cases (show false = true from hns.symm.trans (by kernel_rfl))
                  · cases (show false = true from hns.symm.trans (by kernel_rfl))
                  · cases (show false = true from hns.symm.trans (by kernel_rfl))
                  ·
                    have ho2 := (Array.getElem?_eq_some_iff.1 ho).2
                    simp only [List.getElem_toArray, List.getElem_cons_succ, List.getElem_cons_zero] at ho2
                    subst ho2
                    clear ho
                    have e142 := D.is { on := 8, ground := .data } (by simp) rfl rfl 142 rfl
                    have e152 := D.is { on := 18, ground := .data } (by simp) rfl rfl 152 rfl
                    exact wk.does_pick rfl e142 (D.con _)
                case hdone =>
                  intro vals w4 hb4 hv
                  have h19 := hv 19 (by omega)
                  clear hv
                  replace h19 : vals 19 = (Value.bool false) := h19
                  simp only [List.drop_succ_cons, List.drop_zero, wpList, Act.put, wk.setL, List.setIfInBounds_toArray, List.set_cons_zero, List.set_cons_succ, Nat.zero_add, Nat.reduceAdd, h19]
                  generalize vals 0 = x0
                  generalize vals 1 = x1
                  generalize vals 2 = x2
                  generalize vals 3 = x3
                  generalize vals 4 = x4
                  generalize vals 5 = x5
                  generalize vals 6 = x6
                  generalize vals 7 = x7
                  generalize vals 8 = x8
                  generalize vals 9 = x9
                  generalize vals 10 = x10
                  generalize vals 11 = x11
                  generalize vals 12 = x12
                  generalize vals 13 = x13
                  generalize vals 14 = x14
                  generalize vals 15 = x15
                  generalize vals 16 = x16
                  generalize vals 17 = x17
                  generalize vals 18 = x18
                  replace HS := Lib.hid (HS.out.next ((Below.refl _ _).drew.trans hb4))
                  clear hb4
                  go_upto_region 26 with fail
                  refine wk.region_tailS 18 [.is (.bool true), .is (.bool true), .is (.int .i64 (fs : Int)), .is (.bool false), .is (.bool false), .is (.int .i64 (fs : Int)), .is (.int .i64 (k : Int)), .is (dv (rootD (l.take fs))), .is (dv o), .is (.slice A18 (consP l (fs : Int)).length c18), .is (.bool cc), .is (dv o), .is (dv (rootD l)), .is (.bool cc), .is (.bool true), .is (.bool true), .is (.bool true), .is (.bool true)] [some 154, some 155, some 156, some 157, some 158, some 159, some 160, some 161, some 162, some 163, some 164, some 165, some 166, some 167, some 168, some 169, some 170, some 10] (by kernel_rfl) (by kernel_rfl) (by kernel_rfl) (by kernel_rfl) [] (by kernel_rfl) (by intro p hp; cases hp) (by kernel_rfl) (by kernel_rfl) ?hstep ?hdone
                  case hstep =>
                    intro i o ho hi hns E w4 hb4 D
                    have hi2 : i = 0 ∨ i = 1 ∨ i = 2 ∨ i = 3 ∨ i = 4 ∨ i = 5 ∨ i = 6 ∨ i = 7 ∨ i = 8 ∨ i = 9 ∨ i = 10 ∨ i = 11 ∨ i = 12 ∨ i = 13 ∨ i = 14 ∨ i = 15 ∨ i = 16 ∨ i = 17 := by omega
                    clear hi
                    rcases hi2 with rfl | rfl | rfl | rfl | rfl | rfl | rfl | rfl | rfl | rfl | rfl | rfl | rfl | rfl | rfl | rfl | rfl | rfl
                    ·
                      have ho2 := (Array.getElem?_eq_some_iff.1 ho).2
                      simp only [List.getElem_toArray, List.getElem_cons_zero] at ho2
                      subst ho2
                      clear ho
                      refine wk.does_fn (f := 9) (vs := #[]) rfl (D.fn _) (by simp) (by go_simp) ?_
                      refine (sanity_calls w4 (HS.out.next ((Below.refl _ _).drew.trans hb4)).tab).mono ?_
                      rintro e w5 ⟨rfl, hb5⟩
                      exact ⟨_, rfl, hb5, rfl⟩
                    ·
                      have ho2 := (Array.getElem?_eq_some_iff.1 ho).2
                      simp only [List.getElem_toArray, List.getElem_cons_succ, List.getElem_cons_zero] at ho2
                      subst ho2
                      clear ho
                      have e154 := D.is { on := 0, ground := .data } (by simp) rfl rfl 154 rfl
                      exact wk.does_move rfl e154
                    ·
                      have ho2 := (Array.getElem?_eq_some_iff.1 ho).2
                      simp only [List.getElem_toArray, List.getElem_cons_succ, List.getElem_cons_zero] at ho2
                      subst ho2
                      clear ho
                      have e13 := D.old 13 (by kernel_rfl)
                      exact wk.does_move rfl (by rw [e13]; rfl)
                    ·
                      have ho2 := (Array.getElem?_eq_some_iff.1 ho).2
                      simp only [List.getElem_toArray, List.getElem_cons_succ, List.getElem_cons_zero] at ho2
                      subst ho2
                      clear ho
                      have e156 := D.is { on := 2, ground := .data } (by simp) rfl rfl 156 rfl
                      exact wk.does_bin rfl (by rw [e156, D.con]; go_simp) rfl
                    ·
                      have ho2 := (Array.getElem?_eq_some_iff.1 ho).2
                      simp only [List.getElem_toArray, List.getElem_cons_succ, List.getElem_cons_zero] at ho2
                      subst ho2
                      clear ho
                      have e157 := D.is { on := 3, ground := .data } (by simp) rfl rfl 157 rfl
                      exact wk.does_move rfl e157
                    ·
                      have ho2 := (Array.getElem?_eq_some_iff.1 ho).2
                      simp only [List.getElem_toArray, List.getElem_cons_succ, List.getElem_cons_zero] at ho2
                      subst ho2
                      clear ho
                      have e13 := D.old 13 (by kernel_rfl)
                      exact wk.does_move rfl (by rw [e13]; rfl)
                    ·
                      have ho2 := (Array.getElem?_eq_some_iff.1 ho).2
                      simp only [List.getElem_toArray, List.getElem_cons_succ, List.getElem_cons_zero] at ho2
                      subst ho2
                      clear ho
                      have e11 := D.old 11 (by kernel_rfl)
                      exact wk.does_move rfl (by rw [e11]; rfl)
                    ·
                      have ho2 := (Array.getElem?_eq_some_iff.1 ho).2
                      simp only [List.getElem_toArray, List.getElem_cons_succ, List.getElem_cons_zero] at ho2
                      subst ho2
                      clear ho
                      have e15 := D.old 15 (by kernel_rfl)
                      exact wk.does_load_row rfl (by rw [e15]; rfl) ((HS.out.next ((Below.refl _ _).drew.trans hb4)).rows (g15, rootD (l.take fs)) (by simp)).1 Tryd.underlying31 rfl (dv_sizeA HR15.out) rfl
                    ·
                      have ho2 := (Array.getElem?_eq_some_iff.1 ho).2
                      simp only [List.getElem_toArray, List.getElem_cons_succ, List.getElem_cons_zero] at ho2
                      subst ho2
                      clear ho
                      have e9 := D.old 9 (by kernel_rfl)
                      exact wk.does_load_row rfl (by rw [e9]; rfl) ((HS.out.next ((Below.refl _ _).drew.trans hb4)).rows (B, o) (by simp)).1 Tryd.underlying31 rfl (dv_sizeA HO.out) rfl
                    ·
                      have ho2 := (Array.getElem?_eq_some_iff.1 ho).2
                      simp only [List.getElem_toArray, List.getElem_cons_succ, List.getElem_cons_zero] at ho2
                      subst ho2
                      clear ho
                      have e18 := D.old 18 (by kernel_rfl)
                      exact wk.does_move rfl (by rw [e18]; rfl)
                    ·
                      have ho2 := (Array.getElem?_eq_some_iff.1 ho).2
                      simp only [List.getElem_toArray, List.getElem_cons_succ, List.getElem_cons_zero] at ho2
                      subst ho2
                      clear ho
                      have e159 := D.is { on := 5, ground := .data } (by simp) rfl rfl 159 rfl
                      have e160 := D.is { on := 6, ground := .data } (by simp) rfl rfl 160 rfl
                      have e161 := D.is { on := 7, ground := .data } (by simp) rfl rfl 161 rfl
                      have e162 := D.is { on := 8, ground := .data } (by simp) rfl rfl 162 rfl
                      have e163 := D.is { on := 9, ground := .data } (by simp) rfl rfl 163 rfl
                      have hC := chkC_calls (rootD (l.take fs)) o HR15.out HO.out fs k A18 _ c18 (consP l (fs : Int)) w4 ((HS.out.next ((Below.refl _ _).drew.trans hb4)).sls (A18, (consP l (fs : Int)).length, c18, consP l (fs : Int)) (by simp)) (HS.out.next ((Below.refl _ _).drew.trans hb4)).tab
                      rw [HCL.out] at hC
                      refine wk.does_fn (f := 30) (vs := #[.int .i64 (fs : Int), .int .i64 (k : Int), dv (rootD (l.take fs)), dv o, .slice A18 (consP l (fs : Int)).length c18]) rfl (D.fn _) (by simp [e159, e160, e161, e162, e163]) (by go_simp) ?_
                      refine hC.mono ?_
                      rintro e w5 ⟨rfl, hb5⟩
                      exact ⟨_, rfl, hb5, rfl⟩
                    ·
                      have ho2 := (Array.getElem?_eq_some_iff.1 ho).2
                      simp only [List.getElem_toArray, List.getElem_cons_succ, List.getElem_cons_zero] at ho2
                      subst ho2
                      clear ho
                      have e9 := D.old 9 (by kernel_rfl)
                      exact wk.does_load_row rfl (by rw [e9]; rfl) ((HS.out.next ((Below.refl _ _).drew.trans hb4)).rows (B, o) (by simp)).1 Tryd.underlying31 rfl (dv_sizeA HO.out) rfl
                    ·
                      have ho2 := (Array.getElem?_eq_some_iff.1 ho).2
                      simp only [List.getElem_toArray, List.getElem_cons_succ, List.getElem_cons_zero] at ho2
                      subst ho2
                      clear ho
                      have e14 := D.old 14 (by kernel_rfl)
                      exact wk.does_load_row rfl (by rw [e14]; rfl) ((HS.out.next ((Below.refl _ _).drew.trans hb4)).rows (g14, rootD l) (by simp)).1 Tryd.underlying31 rfl (dv_sizeA HR14.out) rfl
                    ·
                      have ho2 := (Array.getElem?_eq_some_iff.1 ho).2
                      simp only [List.getElem_toArray, List.getElem_cons_succ, List.getElem_cons_zero] at ho2
                      subst ho2
                      clear ho
                      have e165 := D.is { on := 11, ground := .data } (by simp) rfl rfl 165 rfl
                      have e166 := D.is { on := 12, ground := .data } (by simp) rfl rfl 166 rfl
                      exact wk.does_eq_arr rfl e165 e166 (by kernel_rfl) (b := cc) (by have h := eq_dv w4 _ _ HO.out HR14.out; rw [HCC.out] at h; exact h) rfl
                    ·
                      have ho2 := (Array.getElem?_eq_some_iff.1 ho).2
                      simp only [List.getElem_toArray, List.getElem_cons_succ, List.getElem_cons_zero] at ho2
                      subst ho2
                      clear ho
                      have e164 := D.is { on := 10, ground := .data } (by simp) rfl rfl 164 rfl
                      have e167 := D.is { on := 13, ground := .data } (by simp) rfl rfl 167 rfl
                      exact wk.does_bin rfl (by rw [e164, e167]; cases cc <;> go_simp) rfl
                    ·
                      have ho2 := (Array.getElem?_eq_some_iff.1 ho).2
                      simp only [List.getElem_toArray, List.getElem_cons_succ, List.getElem_cons_zero] at ho2
                      subst ho2
                      clear ho
                      have e158 := D.is { on := 4, ground := .data } (by simp) rfl rfl 158 rfl
                      have e168 := D.is { on := 14, ground := .data } (by simp) rfl rfl 168 rfl
                      exact wk.does_pick rfl e158 e168
                    ·
                      have ho2 := (Array.getElem?_eq_some_iff.1 ho).2
                      simp only [List.getElem_toArray, List.getElem_cons_succ, List.getElem_cons_zero] at ho2
                      subst ho2
                      clear ho
                      have e155 := D.is { on := 1, ground := .data } (by simp) rfl rfl 155 rfl
                      have e169 := D.is { on := 15, ground := .data } (by simp) rfl rfl 169 rfl
                      exact wk.does_pick rfl e155 e169
                    ·
                      have ho2 := (Array.getElem?_eq_some_iff.1 ho).2
                      simp only [List.getElem_toArray, List.getElem_cons_succ, List.getElem_cons_zero] at ho2
                      subst ho2
                      clear ho
                      have e170 := D.is { on := 16, ground := .data } (by simp) rfl rfl 170 rfl
                      exact wk.does_assign rfl e170
                  case hdone =>
                    intro vals w4 hb4 hv
                    have h17 := hv 17 (by omega)
                    clear hv
                    replace h17 : vals 17 = (.bool true) := h17
                    simp only [List.drop_succ_cons, List.drop_zero, wpList, Act.put, wk.setL, List.setIfInBounds_toArray, List.set_cons_zero, List.set_cons_succ, Nat.zero_add, Nat.reduceAdd, h17]
                    generalize vals 0 = x0
                    generalize vals 1 = x1
                    generalize vals 2 = x2
                    generalize vals 3 = x3
                    generalize vals 4 = x4
                    generalize vals 5 = x5
                    generalize vals 6 = x6
                    generalize vals 7 = x7
                    generalize vals 8 = x8
                    generalize vals 9 = x9
                    generalize vals 10 = x10
                    generalize vals 11 = x11
                    generalize vals 12 = x12
                    generalize vals 13 = x13
                    generalize vals 14 = x14
                    generalize vals 15 = x15
                    generalize vals 16 = x16
                    replace HS := Lib.hid (HS.out.next ((Below.refl _ _).drew.trans hb4))
                    clear hb4
                    go_wp2_with fail
                    go_ret
                    exact ⟨rfl, HS.out.below⟩
                  
        
            · have HCK := Lib.hid (HOT.out (.inl (by rw [← HP.out]; exact hpf)))
              have hpp : ((p : Int) == (fs : Int)) = false := by simp; omega
              by_cases hz : fs = 0
              · have hz1 : ((fs : Int) == 0) = true := by simp; omega
                clear HOT HOL HQ2
                go_upto_region 24 with fail
                refine wk.region_tailS 20 [.is (.int .i64 (p : Int)), .is (.int .i64 (fs : Int)), .is (.bool true), .is (.bool true), .is undef, .is undef, .is undef, .is (Value.bool true), .is (Value.bool true), .is (.int .i64 (fs : Int)), .is (.int .i64 (k : Int)), .is (dv o), .is (dv (rootD l)), .is (.slice A18 (consP l (fs : Int)).length c18), .is (.bool bb), .is (dv o), .is (dv (rootD (l.take fs))), .is (.bool bb), .is (.bool false), .is (.bool false)] [some 134, some 135, some 136, some 137, some 138, some 139, some 140, some 141, some 142, some 143, some 144, some 145, some 146, some 147, some 148, some 149, some 150, some 151, some 152, some 153] (by kernel_rfl) (by kernel_rfl) (by kernel_rfl) (by kernel_rfl) [4, 5, 6] (by kernel_rfl) (by intro p hp; simp only [List.mem_cons, List.not_mem_nil, or_false] at hp; rcases hp with rfl | rfl | rfl <;> rfl) (by kernel_rfl) (by kernel_rfl) ?hstep ?hdone
                case hstep =>
                  intro i o ho hi hns E w4 hb4 D
                  have hi2 : i = 0 ∨ i = 1 ∨ i = 2 ∨ i = 3 ∨ i = 4 ∨ i = 5 ∨ i = 6 ∨ i = 7 ∨ i = 8 ∨ i = 9 ∨ i = 10 ∨ i = 11 ∨ i = 12 ∨ i = 13 ∨ i = 14 ∨ i = 15 ∨ i = 16 ∨ i = 17 ∨ i = 18 ∨ i = 19 := by omega
                  clear hi
                  rcases hi2 with rfl | rfl | rfl | rfl | rfl | rfl | rfl | rfl | rfl | rfl | rfl | rfl | rfl | rfl | rfl | rfl | rfl | rfl | rfl | rfl
                  ·
                    have ho2 := (Array.getElem?_eq_some_iff.1 ho).2
                    simp only [List.getElem_toArray, List.getElem_cons_zero] at ho2
                    subst ho2
                    clear ho
                    have e25 := D.old 25 (by kernel_rfl)
                    exact wk.does_move rfl (by rw [e25]; rfl)
                  ·
                    have ho2 := (Array.getElem?_eq_some_iff.1 ho).2
                    simp only [List.getElem_toArray, List.getElem_cons_succ, List.getElem_cons_zero] at ho2
                    subst ho2
                    clear ho
                    have e13 := D.old 13 (by kernel_rfl)
                    exact wk.does_move rfl (by rw [e13]; rfl)
                  ·
                    have ho2 := (Array.getElem?_eq_some_iff.1 ho).2
                    simp only [List.getElem_toArray, List.getElem_cons_succ, List.getElem_cons_zero] at ho2
                    subst ho2
                    clear ho
                    have e134 := D.is { on := 0, ground := .data } (by simp) rfl rfl 134 rfl
                    have e135 := D.is { on := 1, ground := .data } (by simp) rfl rfl 135 rfl
                    exact wk.does_bin rfl (by rw [e134, e135]; go_simp <;> omega) rfl
                  ·
                    have ho2 := (Array.getElem?_eq_some_iff.1 ho).2
                    simp only [List.getElem_toArray, List.getElem_cons_succ, List.getElem_cons_zero] at ho2
                    subst ho2
                    clear ho
                    have e136 := D.is { on := 2, ground := .data } (by simp) rfl rfl 136 rfl
                    exact wk.does_move rfl e136
                  · cases (show false = true from hns.symm.trans (by kernel_rfl))
                  · cases (show false = true from hns.symm.trans (by kernel_rfl))
                  · cases (show false = true from hns.symm.trans (by kernel_rfl))
                  ·
                    have ho2 := (Array.getElem?_eq_some_iff.1 ho).2
                    simp only [List.getElem_toArray, List.getElem_cons_succ, List.getElem_cons_zero] at ho2
                    subst ho2
                    clear ho
                    have e137 := D.is { on := 3, ground := .data } (by simp) rfl rfl 137 rfl
                    have e140 := D.is { on := 6, ground := .data } (by simp) rfl rfl 140 rfl
                    exact wk.does_pick rfl e137 (D.con _)
                  ·
                    have ho2 := (Array.getElem?_eq_some_iff.1 ho).2
                    simp only [List.getElem_toArray, List.getElem_cons_succ, List.getElem_cons_zero] at ho2
                    subst ho2
                    clear ho
                    have e141 := D.is { on := 7, ground := .data } (by simp) rfl rfl 141 rfl
                    exact wk.does_move rfl e141
                  ·
                    have ho2 := (Array.getElem?_eq_some_iff.1 ho).2
                    simp only [List.getElem_toArray, List.getElem_cons_succ, List.getElem_cons_zero] at ho2
                    subst ho2
                    clear ho
                    have e13 := D.old 13 (by kernel_rfl)
                    exact wk.does_move rfl (by rw [e13]; rfl)
                  ·
                    have ho2 := (Array.getElem?_eq_some_iff.1 ho).2
                    simp only [List.getElem_toArray, List.getElem_cons_succ, List.getElem_cons_zero] at ho2
                    subst ho2
                    clear ho
                    have e11 := D.old 11 (by kernel_rfl)
                    exact wk.does_move rfl (by rw [e11]; rfl)
                  ·
                    have ho2 := (Array.getElem?_eq_some_iff.1 ho).2
                    simp only [List.getElem_toArray, List.getElem_cons_succ, List.getElem_cons_zero] at ho2
                    subst ho2
                    clear ho
                    have e9 := D.old 9 (by kernel_rfl)
                    exact wk.does_load_row rfl (by rw [e9]; rfl) ((HS.out.next ((Below.refl _ _).drew.trans hb4)).rows (B, o) (by simp)).1 Tryd.underlying31 rfl (dv_sizeA HO.out) rfl
                  ·
                    have ho2 := (Array.getElem?_eq_some_iff.1 ho).2
                    simp only [List.getElem_toArray, List.getElem_cons_succ, List.getElem_cons_zero] at ho2
                    subst ho2
                    clear ho
                    have e14 := D.old 14 (by kernel_rfl)
                    exact wk.does_load_row rfl (by rw [e14]; rfl) ((HS.out.next ((Below.refl _ _).drew.trans hb4)).rows (g14, rootD l) (by simp)).1 Tryd.underlying31 rfl (dv_sizeA HR14.out) rfl
                  ·
                    have ho2 := (Array.getElem?_eq_some_iff.1 ho).2
                    simp only [List.getElem_toArray, List.getElem_cons_succ, List.getElem_cons_zero] at ho2
                    subst ho2
                    clear ho
                    have e18 := D.old 18 (by kernel_rfl)
                    exact wk.does_move rfl (by rw [e18]; rfl)
                  ·
                    have ho2 := (Array.getElem?_eq_some_iff.1 ho).2
                    simp only [List.getElem_toArray, List.getElem_cons_succ, List.getElem_cons_zero] at ho2
                    subst ho2
                    clear ho
                    have e143 := D.is { on := 9, ground := .data } (by simp) rfl rfl 143 rfl
                    have e144 := D.is { on := 10, ground := .data } (by simp) rfl rfl 144 rfl
                    have e145 := D.is { on := 11, ground := .data } (by simp) rfl rfl 145 rfl
                    have e146 := D.is { on := 12, ground := .data } (by simp) rfl rfl 146 rfl
                    have e147 := D.is { on := 13, ground := .data } (by simp) rfl rfl 147 rfl
                    have hC := chkC_calls o (rootD l) HO.out HR14.out fs k A18 _ c18 (consP l (fs : Int)) w4 ((HS.out.next ((Below.refl _ _).drew.trans hb4)).sls (A18, (consP l (fs : Int)).length, c18, consP l (fs : Int)) (by simp)) (HS.out.next ((Below.refl _ _).drew.trans hb4)).tab
                    rw [HCK.out] at hC
                    refine wk.does_fn (f := 30) (vs := #[.int .i64 (fs : Int), .int .i64 (k : Int), dv o, dv (rootD l), .slice A18 (consP l (fs : Int)).length c18]) rfl (D.fn _) (by simp [e143, e144, e145, e146, e147]) (by go_simp) ?_
                    refine hC.mono ?_
                    rintro e w5 ⟨rfl, hb5⟩
                    exact ⟨_, rfl, hb5, rfl⟩
                  ·
                    have ho2 := (Array.getElem?_eq_some_iff.1 ho).2
                    simp only [List.getElem_toArray, List.getElem_cons_succ, List.getElem_cons_zero] at ho2
                    subst ho2
                    clear ho
                    have e9 := D.old 9 (by kernel_rfl)
                    exact wk.does_load_row rfl (by rw [e9]; rfl) ((HS.out.next ((Below.refl _ _).drew.trans hb4)).rows (B, o) (by simp)).1 Tryd.underlying31 rfl (dv_sizeA HO.out) rfl
                  ·
                    have ho2 := (Array.getElem?_eq_some_iff.1 ho).2
                    simp only [List.getElem_toArray, List.getElem_cons_succ, List.getElem_cons_zero] at ho2
                    subst ho2
                    clear ho
                    have e15 := D.old 15 (by kernel_rfl)
                    exact wk.does_load_row rfl (by rw [e15]; rfl) ((HS.out.next ((Below.refl _ _).drew.trans hb4)).rows (g15, rootD (l.take fs)) (by simp)).1 Tryd.underlying31 rfl (dv_sizeA HR15.out) rfl
                  ·
                    have ho2 := (Array.getElem?_eq_some_iff.1 ho).2
                    simp only [List.getElem_toArray, List.getElem_cons_succ, List.getElem_cons_zero] at ho2
                    subst ho2
                    clear ho
                    have e149 := D.is { on := 15, ground := .data } (by simp) rfl rfl 149 rfl
                    have e150 := D.is { on := 16, ground := .data } (by simp) rfl rfl 150 rfl
                    exact wk.does_eq_arr rfl e149 e150 (by kernel_rfl) (b := bb) (by have h := eq_dv w4 _ _ HO.out HR15.out; rw [HBB.out] at h; exact h) rfl
                  ·
                    have ho2 := (Array.getElem?_eq_some_iff.1 ho).2
                    simp only [List.getElem_toArray, List.getElem_cons_succ, List.getElem_cons_zero] at ho2
                    subst ho2
                    clear ho
                    have e148 := D.is { on := 14, ground := .data } (by simp) rfl rfl 148 rfl
                    have e151 := D.is { on := 17, ground := .data } (by simp) rfl rfl 151 rfl
                    exact wk.does_bin rfl (by rw [e148, e151]; cases bb <;> go_simp) rfl
                  ·
                    have ho2 := (Array.getElem?_eq_some_iff.1 ho).2
                    simp only [List.getElem_toArray, List.getElem_cons_succ, List.getElem_cons_zero] at ho2
                    subst ho2
                    clear ho
                    have e142 := D.is { on := 8, ground := .data } (by simp) rfl rfl 142 rfl
                    have e152 := D.is { on := 18, ground := .data } (by simp) rfl rfl 152 rfl
                    exact wk.does_pick rfl e142 e152
                case hdone =>
                  intro vals w4 hb4 hv
                  have h19 := hv 19 (by omega)
                  clear hv
                  replace h19 : vals 19 = (.bool false) := h19
                  simp only [List.drop_succ_cons, List.drop_zero, wpList, Act.put, wk.setL, List.setIfInBounds_toArray, List.set_cons_zero, List.set_cons_succ, Nat.zero_add, Nat.reduceAdd, h19]
                  generalize vals 0 = x0
                  generalize vals 1 = x1
                  generalize vals 2 = x2
                  generalize vals 3 = x3
                  generalize vals 4 = x4
                  generalize vals 5 = x5
                  generalize vals 6 = x6
                  generalize vals 7 = x7
                  generalize vals 8 = x8
                  generalize vals 9 = x9
                  generalize vals 10 = x10
                  generalize vals 11 = x11
                  generalize vals 12 = x12
                  generalize vals 13 = x13
                  generalize vals 14 = x14
                  generalize vals 15 = x15
                  generalize vals 16 = x16
                  generalize vals 17 = x17
                  generalize vals 18 = x18
                  replace HS := Lib.hid (HS.out.next ((Below.refl _ _).drew.trans hb4))
                  clear hb4
                  go_upto_region 26 with fail
                  refine wk.region_tailS 18 [.is (.bool true), .is (.bool true), .is (.int .i64 (fs : Int)), .is (.bool true), .is (.bool true), .is undef, .is undef, .is undef, .is undef, .is undef, .is undef, .is undef, .is undef, .is undef, .is undef, .is (Value.bool true), .is (Value.bool true), .is (Value.bool true)] [some 154, some 155, some 156, some 157, some 158, some 159, some 160, some 161, some 162, some 163, some 164, some 165, some 166, some 167, some 168, some 169, some 170, some 10] (by kernel_rfl) (by kernel_rfl) (by kernel_rfl) (by kernel_rfl) [5, 6, 7, 8, 9, 10, 11, 12, 13, 14] (by kernel_rfl) (by intro p hp; simp only [List.mem_cons, List.not_mem_nil, or_false] at hp; rcases hp with rfl | rfl | rfl | rfl | rfl | rfl | rfl | rfl | rfl | rfl <;> rfl) (by kernel_rfl) (by kernel_rfl) ?hstep ?hdone
                  case hstep =>
                    intro i o ho hi hns E w4 hb4 D
                    have hi2 : i = 0 ∨ i = 1 ∨ i = 2 ∨ i = 3 ∨ i = 4 ∨ i = 5 ∨ i = 6 ∨ i = 7 ∨ i = 8 ∨ i = 9 ∨ i = 10 ∨ i = 11 ∨ i = 12 ∨ i = 13 ∨ i = 14 ∨ i = 15 ∨ i = 16 ∨ i = 17 := by omega
                    clear hi
                    rcases hi2 with rfl | rfl | rfl | rfl | rfl | rfl | rfl | rfl | rfl | rfl | rfl | rfl | rfl | rfl | rfl | rfl | rfl | rfl
                    ·
                      have ho2 := (Array.getElem?_eq_some_iff.1 ho).2
                      simp only [List.getElem_toArray, List.getElem_cons_zero] at ho2
                      subst ho2
                      clear ho
                      refine wk.does_fn (f := 9) (vs := #[]) rfl (D.fn _) (by simp) (by go_simp) ?_
                      refine (sanity_calls w4 (HS.out.next ((Below.refl _ _).drew.trans hb4)).tab).mono ?_
                      rintro e w5 ⟨rfl, hb5⟩
                      exact ⟨_, rfl, hb5, rfl⟩
                    ·
                      have ho2 := (Array.getElem?_eq_some_iff.1 ho).2
                      simp only [List.getElem_toArray, List.getElem_cons_succ, List.getElem_cons_zero] at ho2
                      subst ho2
                      clear ho
                      have e154 := D.is { on := 0, ground := .data } (by simp) rfl rfl 154 rfl
                      exact wk.does_move rfl e154
                    ·
                      have ho2 := (Array.getElem?_eq_some_iff.1 ho).2
                      simp only [List.getElem_toArray, List.getElem_cons_succ, List.getElem_cons_zero] at ho2
                      subst ho2
                      clear ho
                      have e13 := D.old 13 (by kernel_rfl)
                      exact wk.does_move rfl (by rw [e13]; rfl)
                    ·
                      have ho2 := (Array.getElem?_eq_some_iff.1 ho).2
                      simp only [List.getElem_toArray, List.getElem_cons_succ, List.getElem_cons_zero] at ho2
                      subst ho2
                      clear ho
                      have e156 := D.is { on := 2, ground := .data } (by simp) rfl rfl 156 rfl
                      exact wk.does_bin rfl (by rw [e156, D.con]; go_simp) rfl
                    ·
                      have ho2 := (Array.getElem?_eq_some_iff.1 ho).2
                      simp only [List.getElem_toArray, List.getElem_cons_succ, List.getElem_cons_zero] at ho2
                      subst ho2
                      clear ho
                      have e157 := D.is { on := 3, ground := .data } (by simp) rfl rfl 157 rfl
                      exact wk.does_move rfl e157
                    · cases (show false = true from hns.symm.trans (by kernel_rfl))
                    · cases (show false = true from hns.symm.trans (by kernel_rfl))
                    · cases (show false = true from hns.symm.trans (by kernel_rfl))
                    · cases (show false = true from hns.symm.trans (by kernel_rfl))
                    · cases (show false = true from hns.symm.trans (by kernel_rfl))
                    · cases (show false = true from hns.symm.trans (by kernel_rfl))
                    · cases (show false = true from hns.symm.trans (by kernel_rfl))
                    · cases (show false = true from hns.symm.trans (by kernel_rfl))
                    · cases (show false = true from hns.symm.trans (by kernel_rfl))
                    · cases (show false = true from hns.symm.trans (by kernel_rfl))
                    ·
                      have ho2 := (Array.getElem?_eq_some_iff.1 ho).2
                      simp only [List.getElem_toArray, List.getElem_cons_succ, List.getElem_cons_zero] at ho2
                      subst ho2
                      clear ho
                      have e158 := D.is { on := 4, ground := .data } (by simp) rfl rfl 158 rfl
                      have e168 := D.is { on := 14, ground := .data } (by simp) rfl rfl 168 rfl
                      exact wk.does_pick rfl e158 (D.con _)
                    ·
                      have ho2 := (Array.getElem?_eq_some_iff.1 ho).2
                      simp only [List.getElem_toArray, List.getElem_cons_succ, List.getElem_cons_zero] at ho2
                      subst ho2
                      clear ho
                      have e155 := D.is { on := 1, ground := .data } (by simp) rfl rfl 155 rfl
                      have e169 := D.is { on := 15, ground := .data } (by simp) rfl rfl 169 rfl
                      exact wk.does_pick rfl e155 e169
                    ·
                      have ho2 := (Array.getElem?_eq_some_iff.1 ho).2
                      simp only [List.getElem_toArray, List.getElem_cons_succ, List.getElem_cons_zero] at ho2
                      subst ho2
                      clear ho
                      have e170 := D.is { on := 16, ground := .data } (by simp) rfl rfl 170 rfl
                      exact wk.does_assign rfl e170
                  case hdone =>
                    intro vals w4 hb4 hv
                    have h17 := hv 17 (by omega)
                    clear hv
                    replace h17 : vals 17 = (Value.bool true) := h17
                    simp only [List.drop_succ_cons, List.drop_zero, wpList, Act.put, wk.setL, List.setIfInBounds_toArray, List.set_cons_zero, List.set_cons_succ, Nat.zero_add, Nat.reduceAdd, h17]
                    generalize vals 0 = x0
                    generalize vals 1 = x1
                    generalize vals 2 = x2
                    generalize vals 3 = x3
                    generalize vals 4 = x4
                    generalize vals 5 = x5
                    generalize vals 6 = x6
                    generalize vals 7 = x7
                    generalize vals 8 = x8
                    generalize vals 9 = x9
                    generalize vals 10 = x10
                    generalize vals 11 = x11
                    generalize vals 12 = x12
                    generalize vals 13 = x13
                    generalize vals 14 = x14
                    generalize vals 15 = x15
                    generalize vals 16 = x16
                    replace HS := Lib.hid (HS.out.next ((Below.refl _ _).drew.trans hb4))
                    clear hb4
                    go_wp2_with fail
                    go_ret
                    exact ⟨rfl, HS.out.below⟩
                  
        
              · have HCL := Lib.hid (HOL.out (by omega))
                have hz1 : ((fs : Int) == 0) = false := by simp; omega
                clear HOT HOL HQ2
                go_upto_region 24 with fail
                refine wk.region_tailS 20 [.is (.int .i64 (p : Int)), .is (.int .i64 (fs : Int)), .is (.bool true), .is (.bool true), .is undef, .is undef, .is undef, .is (Value.bool true), .is (Value.bool true), .is (.int .i64 (fs : Int)), .is (.int .i64 (k : Int)), .is (dv o), .is (dv (rootD l)), .is (.slice A18 (consP l (fs : Int)).length c18), .is (.bool bb), .is (dv o), .is (dv (rootD (l.take fs))), .is (.bool bb), .is (.bool false), .is (.bool false)] [some 134, some 135, some 136, some 137, some 138, some 139, some 140, some 141, some 142, some 143, some 144, some 145, some 146, some 147, some 148, some 149, some 150, some 151, some 152, some 153] (by kernel_rfl) (by kernel_rfl) (by kernel_rfl) (by kernel_rfl) [4, 5, 6] (by kernel_rfl) (by intro p hp; simp only [List.mem_cons, List.not_mem_nil, or_false] at hp; rcases hp with rfl | rfl | rfl <;> rfl) (by kernel_rfl) (by kernel_rfl) ?hstep ?hdone
                case hstep =>
                  intro i o ho hi hns E w4 hb4 D
                  have hi2 : i = 0 ∨ i = 1 ∨ i = 2 ∨ i = 3 ∨ i = 4 ∨ i = 5 ∨ i = 6 ∨ i = 7 ∨ i = 8 ∨ i = 9 ∨ i = 10 ∨ i = 11 ∨ i = 12 ∨ i = 13 ∨ i = 14 ∨ i = 15 ∨ i = 16 ∨ i = 17 ∨ i = 18 ∨ i = 19 := by omega
                  clear hi
                  rcases hi2 with rfl | rfl | rfl | rfl | rfl | rfl | rfl | rfl | rfl | rfl | rfl | rfl | rfl | rfl | rfl | rfl | rfl | rfl | rfl | rfl
                  ·
                    have ho2 := (Array.getElem?_eq_some_iff.1 ho).2
                    simp only [List.getElem_toArray, List.getElem_cons_zero] at ho2
                    subst ho2
                    clear ho
                    have e25 := D.old 25 (by kernel_rfl)
                    exact wk.does_move rfl (by rw [e25]; rfl)
                  ·
                    have ho2 := (Array.getElem?_eq_some_iff.1 ho).2
                    simp only [List.getElem_toArray, List.getElem_cons_succ, List.getElem_cons_zero] at ho2
                    subst ho2
                    clear ho
                    have e13 := D.old 13 (by kernel_rfl)
                    exact wk.does_move rfl (by rw [e13]; rfl)
                  ·
                    have ho2 := (Array.getElem?_eq_some_iff.1 ho).2
                    simp only [List.getElem_toArray, List.getElem_cons_succ, List.getElem_cons_zero] at ho2
                    subst ho2
                    clear ho
                    have e134 := D.is { on := 0, ground := .data } (by simp) rfl rfl 134 rfl
                    have e135 := D.is { on := 1, ground := .data } (by simp) rfl rfl 135 rfl
                    exact wk.does_bin rfl (by rw [e134, e135]; go_simp <;> omega) rfl
                  ·
                    have ho2 := (Array.getElem?_eq_some_iff.1 ho).2
                    simp only [List.getElem_toArray, List.getElem_cons_succ, List.getElem_cons_zero] at ho2
                    subst ho2
                    clear ho
                    have e136 := D.is { on := 2, ground := .data } (by simp) rfl rfl 136 rfl
                    exact wk.does_move rfl e136
                  · cases (show false = true from hns.symm.trans (by kernel_rfl))
                  · cases (show false = true from hns.symm.trans (by kernel_rfl))
                  · cases (show false = true from hns.symm.trans (by kernel_rfl))
                  ·
                    have ho2 := (Array.getElem?_eq_some_iff.1 ho).2
                    simp only [List.getElem_toArray, List.getElem_cons_succ, List.getElem_cons_zero] at ho2
                    subst ho2
                    clear ho
                    have e137 := D.is { on := 3, ground := .data } (by simp) rfl rfl 137 rfl
                    have e140 := D.is { on := 6, ground := .data } (by simp) rfl rfl 140 rfl
                    exact wk.does_pick rfl e137 (D.con _)
                  ·
                    have ho2 := (Array.getElem?_eq_some_iff.1 ho).2
                    simp only [List.getElem_toArray, List.getElem_cons_succ, List.getElem_cons_zero] at ho2
                    subst ho2
                    clear ho
                    have e141 := D.is { on := 7, ground := .data } (by simp) rfl rfl 141 rfl
                    exact wk.does_move rfl e141
                  ·
                    have ho2 := (Array.getElem?_eq_some_iff.1 ho).2
                    simp only [List.getElem_toArray, List.getElem_cons_succ, List.getElem_cons_zero] at ho2
                    subst ho2
                    clear ho
                    have e13 := D.old 13 (by kernel_rfl)
                    exact wk.does_move rfl (by rw [e13]; rfl)
                  ·
                    have ho2 := (Array.getElem?_eq_some_iff.1 ho).2
                    simp only [List.getElem_toArray, List.getElem_cons_succ, List.getElem_cons_zero] at ho2
                    subst ho2
                    clear ho
                    have e11 := D.old 11 (by kernel_rfl)
                    exact wk.does_move rfl (by rw [e11]; rfl)
                  ·
                    have ho2 := (Array.getElem?_eq_some_iff.1 ho).2
                    simp only [List.getElem_toArray, List.getElem_cons_succ, List.getElem_cons_zero] at ho2
                    subst ho2
                    clear ho
                    have e9 := D.old 9 (by kernel_rfl)
                    exact wk.does_load_row rfl (by rw [e9]; rfl) ((HS.out.next ((Below.refl _ _).drew.trans hb4)).rows (B, o) (by simp)).1 Tryd.underlying31 rfl (dv_sizeA HO.out) rfl
                  ·
                    have ho2 := (Array.getElem?_eq_some_iff.1 ho).2
                    simp only [List.getElem_toArray, List.getElem_cons_succ, List.getElem_cons_zero] at ho2
                    subst ho2
                    clear ho
                    have e14 := D.old 14 (by kernel_rfl)
                    exact wk.does_load_row rfl (by rw [e14]; rfl) ((HS.out.next ((Below.refl _ _).drew.trans hb4)).rows (g14, rootD l) (by simp)).1 Tryd.underlying31 rfl (dv_sizeA HR14.out) rfl
                  ·
                    have ho2 := (Array.getElem?_eq_some_iff.1 ho).2
                    simp only [List.getElem_toArray, List.getElem_cons_succ, List.getElem_cons_zero] at ho2
                    subst ho2
                    clear ho
                    have e18 := D.old 18 (by kernel_rfl)
                    exact wk.does_move rfl (by rw [e18]; rfl)
                  ·
                    have ho2 := (Array.getElem?_eq_some_iff.1 ho).2
                    simp only [List.getElem_toArray, List.getElem_cons_succ, List.getElem_cons_zero] at ho2
                    subst ho2
                    clear ho
                    have e143 := D.is { on := 9, ground := .data } (by simp) rfl rfl 143 rfl
                    have e144 := D.is { on := 10, ground := .data } (by simp) rfl rfl 144 rfl
                    have e145 := D.is { on := 11, ground := .data } (by simp) rfl rfl 145 rfl
                    have e146 := D.is { on := 12, ground := .data } (by simp) rfl rfl 146 rfl
                    have e147 := D.is { on := 13, ground := .data } (by simp) rfl rfl 147 rfl
                    have hC := chkC_calls o (rootD l) HO.out HR14.out fs k A18 _ c18 (consP l (fs : Int)) w4 ((HS.out.next ((Below.refl _ _).drew.trans hb4)).sls (A18, (consP l (fs : Int)).length, c18, consP l (fs : Int)) (by simp)) (HS.out.next ((Below.refl _ _).drew.trans hb4)).tab
                    rw [HCK.out] at hC
                    refine wk.does_fn (f := 30) (vs := #[.int .i64 (fs : Int), .int .i64 (k : Int), dv o, dv (rootD l), .slice A18 (consP l (fs : Int)).length c18]) rfl (D.fn _) (by simp [e143, e144, e145, e146, e147]) (by go_simp) ?_
                    refine hC.mono ?_
                    rintro e w5 ⟨rfl, hb5⟩
                    exact ⟨_, rfl, hb5, rfl⟩
                  ·
                    have ho2 := (Array.getElem?_eq_some_iff.1 ho).2
                    simp only [List.getElem_toArray, List.getElem_cons_succ, List.getElem_cons_zero] at ho2
                    subst ho2
                    clear ho
                    have e9 := D.old 9 (by kernel_rfl)
                    exact wk.does_load_row rfl (by rw [e9]; rfl) ((HS.out.next ((Below.refl _ _).drew.trans hb4)).rows (B, o) (by simp)).1 Tryd.underlying31 rfl (dv_sizeA HO.out) rfl
                  ·
                    have ho2 := (Array.getElem?_eq_some_iff.1 ho).2
                    simp only [List.getElem_toArray, List.getElem_cons_succ, List.getElem_cons_zero] at ho2
                    subst ho2
                    clear ho
                    have e15 := D.old 15 (by kernel_rfl)
                    exact wk.does_load_row rfl (by rw [e15]; rfl) ((HS.out.next ((Below.refl _ _).drew.trans hb4)).rows (g15, rootD (l.take fs)) (by simp)).1 Tryd.underlying31 rfl (dv_sizeA HR15.out) rfl
                  ·
                    have ho2 := (Array.getElem?_eq_some_iff.1 ho).2
                    simp only [List.getElem_toArray, List.getElem_cons_succ, List.getElem_cons_zero] at ho2
                    subst ho2
                    clear ho
                    have e149 := D.is { on := 15, ground := .data } (by simp) rfl rfl 149 rfl
                    have e150 := D.is { on := 16, ground := .data } (by simp) rfl rfl 150 rfl
                    exact wk.does_eq_arr rfl e149 e150 (by kernel_rfl) (b := bb) (by have h := eq_dv w4 _ _ HO.out HR15.out; rw [HBB.out] at h; exact h) rfl
                  ·
                    have ho2 := (Array.getElem?_eq_some_iff.1 ho).2
                    simp only [List.getElem_toArray, List.getElem_cons_succ, List.getElem_cons_zero] at ho2
                    subst ho2
                    clear ho
                    have e148 := D.is { on := 14, ground := .data } (by simp) rfl rfl 148 rfl
                    have e151 := D.is { on := 17, ground := .data } (by simp) rfl rfl 151 rfl
                    exact wk.does_bin rfl (by rw [e148, e151]; cases bb <;> go_simp) rfl
                  ·
                    have ho2 := (Array.getElem?_eq_some_iff.1 ho).2
                    simp only [List.getElem_toArray, List.getElem_cons_succ, List.getElem_cons_zero] at ho2
                    subst ho2
                    clear ho
                    have e142 := D.is { on := 8, ground := .data } (by simp) rfl rfl 142 rfl
                    have e152 := D.is { on := 18, ground := .data } (by simp) rfl rfl 152 rfl
                    exact wk.does_pick rfl e142 e152
                case hdone =>
                  intro vals w4 hb4 hv
                  have h19 := hv 19 (by omega)
                  clear hv
                  replace h19 : vals 19 = (.bool false) := h19
                  simp only [List.drop_succ_cons, List.drop_zero, wpList, Act.put, wk.setL, List.setIfInBounds_toArray, List.set_cons_zero, List.set_cons_succ, Nat.zero_add, Nat.reduceAdd, h19]
                  generalize vals 0 = x0
                  generalize vals 1 = x1
                  generalize vals 2 = x2
                  generalize vals 3 = x3
                  generalize vals 4 = x4
                  generalize vals 5 = x5
                  generalize vals 6 = x6
                  generalize vals 7 = x7
                  generalize vals 8 = x8
                  generalize vals 9 = x9
                  generalize vals 10 = x10
                  generalize vals 11 = x11
                  generalize vals 12 = x12
                  generalize vals 13 = x13
                  generalize vals 14 = x14
                  generalize vals 15 = x15
                  generalize vals 16 = x16
                  generalize vals 17 = x17
                  generalize vals 18 = x18
                  replace HS := Lib.hid (HS.out.next ((Below.refl _ _).drew.trans hb4))
                  clear hb4
                  go_upto_region 26 with fail
                  refine wk.region_tailS 18 [.is (.bool true), .is (.bool true), .is (.int .i64 (fs : Int)), .is (.bool false), .is (.bool false), .is (.int .i64 (fs : Int)), .is (.int .i64 (k : Int)), .is (dv (rootD (l.take fs))), .is (dv o), .is (.slice A18 (consP l (fs : Int)).length c18), .is (.bool cc), .is (dv o), .is (dv (rootD l)), .is (.bool cc), .is (.bool true), .is (.bool true), .is (.bool true), .is (.bool true)] [some 154, some 155, some 156, some 157, some 158, some 159, some 160, some 161, some 162, some 163, some 164, some 165, some 166, some 167, some 168, some 169, some 170, some 10] (by kernel_rfl) (by kernel_rfl) (by kernel_rfl) (by kernel_rfl) [] (by kernel_rfl) (by intro p hp; cases hp) (by kernel_rfl) (by kernel_rfl) ?hstep ?hdone
                  case hstep =>
                    intro i o ho hi hns E w4 hb4 D
                    have hi2 : i = 0 ∨ i = 1 ∨ i = 2 ∨ i = 3 ∨ i = 4 ∨ i = 5 ∨ i = 6 ∨ i = 7 ∨ i = 8 ∨ i = 9 ∨ i = 10 ∨ i = 11 ∨ i = 12 ∨ i = 13 ∨ i = 14 ∨ i = 15 ∨ i = 16 ∨ i = 17 := by omega
                    clear hi
                    rcases hi2 with rfl | rfl | rfl | rfl | rfl | rfl | rfl | rfl | rfl | rfl | rfl | rfl | rfl | rfl | rfl | rfl | rfl | rfl
                    ·
                      have ho2 := (Array.getElem?_eq_some_iff.1 ho).2
                      simp only [List.getElem_toArray, List.getElem_cons_zero] at ho2
                      subst ho2
                      clear ho
                      refine wk.does_fn (f := 9) (vs := #[]) rfl (D.fn _) (by simp) (by go_simp) ?_
                      refine (sanity_calls w4 (HS.out.next ((Below.refl _ _).drew.trans hb4)).tab).mono ?_
                      rintro e w5 ⟨rfl, hb5⟩
                      exact ⟨_, rfl, hb5, rfl⟩
                    ·
                      have ho2 := (Array.getElem?_eq_some_iff.1 ho).2
                      simp only [List.getElem_toArray, List.getElem_cons_succ, List.getElem_cons_zero] at ho2
                      subst ho2
                      clear ho
                      have e154 := D.is { on := 0, ground := .data } (by simp) rfl rfl 154 rfl
                      exact wk.does_move rfl e154
                    ·
                      have ho2 := (Array.getElem?_eq_some_iff.1 ho).2
                      simp only [List.getElem_toArray, List.getElem_cons_succ, List.getElem_cons_zero] at ho2
                      subst ho2
                      clear ho
                      have e13 := D.old 13 (by kernel_rfl)
                      exact wk.does_move rfl (by rw [e13]; rfl)
                    ·
                      have ho2 := (Array.getElem?_eq_some_iff.1 ho).2
                      simp only [List.getElem_toArray, List.getElem_cons_succ, List.getElem_cons_zero] at ho2
                      subst ho2
                      clear ho
                      have e156 := D.is { on := 2, ground := .data } (by simp) rfl rfl 156 rfl
                      exact wk.does_bin rfl (by rw [e156, D.con]; go_simp) rfl
                    ·
                      have ho2 := (Array.getElem?_eq_some_iff.1 ho).2
                      simp only [List.getElem_toArray, List.getElem_cons_succ, List.getElem_cons_zero] at ho2
                      subst ho2
                      clear ho
                      have e157 := D.is { on := 3, ground := .data } (by simp) rfl rfl 157 rfl
                      exact wk.does_move rfl e157
                    ·
                      have ho2 := (Array.getElem?_eq_some_iff.1 ho).2
                      simp only [List.getElem_toArray, List.getElem_cons_succ, List.getElem_cons_zero] at ho2
                      subst ho2
                      clear ho
                      have e13 := D.old 13 (by kernel_rfl)
                      exact wk.does_move rfl (by rw [e13]; rfl)
                    ·
                      have ho2 := (Array.getElem?_eq_some_iff.1 ho).2
                      simp only [List.getElem_toArray, List.getElem_cons_succ, List.getElem_cons_zero] at ho2
                      subst ho2
                      clear ho
                      have e11 := D.old 11 (by kernel_rfl)
                      exact wk.does_move rfl (by rw [e11]; rfl)
                    ·
                      have ho2 := (Array.getElem?_eq_some_iff.1 ho).2
                      simp only [List.getElem_toArray, List.getElem_cons_succ, List.getElem_cons_zero] at ho2
                      subst ho2
                      clear ho
                      have e15 := D.old 15 (by kernel_rfl)
                      exact wk.does_load_row rfl (by rw [e15]; rfl) ((HS.out.next ((Below.refl _ _).drew.trans hb4)).rows (g15, rootD (l.take fs)) (by simp)).1 Tryd.underlying31 rfl (dv_sizeA HR15.out) rfl
                    ·
                      have ho2 := (Array.getElem?_eq_some_iff.1 ho).2
                      simp only [List.getElem_toArray, List.getElem_cons_succ, List.getElem_cons_zero] at ho2
                      subst ho2
                      clear ho
                      have e9 := D.old 9 (by kernel_rfl)
                      exact wk.does_load_row rfl (by rw [e9]; rfl) ((HS.out.next ((Below.refl _ _).drew.trans hb4)).rows (B, o) (by simp)).1 Tryd.underlying31 rfl (dv_sizeA HO.out) rfl
                    ·
                      have ho2 := (Array.getElem?_eq_some_iff.1 ho).2
                      simp only [List.getElem_toArray, List.getElem_cons_succ, List.getElem_cons_zero] at ho2
                      subst ho2
                      clear ho
                      have e18 := D.old 18 (by kernel_rfl)
                      exact wk.does_move rfl (by rw [e18]; rfl)
                    ·
                      have ho2 := (Array.getElem?_eq_some_iff.1 ho).2
                      simp only [List.getElem_toArray, List.getElem_cons_succ, List.getElem_cons_zero] at ho2
                      subst ho2
                      clear ho
                      have e159 := D.is { on := 5, ground := .data } (by simp) rfl rfl 159 rfl
                      have e160 := D.is { on := 6, ground := .data } (by simp) rfl rfl 160 rfl
                      have e161 := D.is { on := 7, ground := .data } (by simp) rfl rfl 161 rfl
                      have e162 := D.is { on := 8, ground := .data } (by simp) rfl rfl 162 rfl
                      have e163 := D.is { on := 9, ground := .data } (by simp) rfl rfl 163 rfl
                      have hC := chkC_calls (rootD (l.take fs)) o HR15.out HO.out fs k A18 _ c18 (consP l (fs : Int)) w4 ((HS.out.next ((Below.refl _ _).drew.trans hb4)).sls (A18, (consP l (fs : Int)).length, c18, consP l (fs : Int)) (by simp)) (HS.out.next ((Below.refl _ _).drew.trans hb4)).tab
                      rw [HCL.out] at hC
                      refine wk.does_fn (f := 30) (vs := #[.int .i64 (fs : Int), .int .i64 (k : Int), dv (rootD (l.take fs)), dv o, .slice A18 (consP l (fs : Int)).length c18]) rfl (D.fn _) (by simp [e159, e160, e161, e162, e163]) (by go_simp) ?_
                      refine hC.mono ?_
                      rintro e w5 ⟨rfl, hb5⟩
                      exact ⟨_, rfl, hb5, rfl⟩
                    ·
                      have ho2 := (Array.getElem?_eq_some_iff.1 ho).2
                      simp only [List.getElem_toArray, List.getElem_cons_succ, List.getElem_cons_zero] at ho2
                      subst ho2
                      clear ho
                      have e9 := D.old 9 (by kernel_rfl)
                      exact wk.does_load_row rfl (by rw [e9]; rfl) ((HS.out.next ((Below.refl _ _).drew.trans hb4)).rows (B, o) (by simp)).1 Tryd.underlying31 rfl (dv_sizeA HO.out) rfl
                    ·
                      have ho2 := (Array.getElem?_eq_some_iff.1 ho).2
                      simp only [List.getElem_toArray, List.getElem_cons_succ, List.getElem_cons_zero] at ho2
                      subst ho2
                      clear ho
                      have e14 := D.old 14 (by kernel_rfl)
                      exact wk.does_load_row rfl (by rw [e14]; rfl) ((HS.out.next ((Below.refl _ _).drew.trans hb4)).rows (g14, rootD l) (by simp)).1 Tryd.underlying31 rfl (dv_sizeA HR14.out) rfl
                    ·
                      have ho2 := (Array.getElem?_eq_some_iff.1 ho).2
                      simp only [List.getElem_toArray, List.getElem_cons_succ, List.getElem_cons_zero] at ho2
                      subst ho2
                      clear ho
                      have e165 := D.is { on := 11, ground := .data } (by simp) rfl rfl 165 rfl
                      have e166 := D.is { on := 12, ground := .data } (by simp) rfl rfl 166 rfl
                      exact wk.does_eq_arr rfl e165 e166 (by kernel_rfl) (b := cc) (by have h := eq_dv w4 _ _ HO.out HR14.out; rw [HCC.out] at h; exact h) rfl
                    ·
                      have ho2 := (Array.getElem?_eq_some_iff.1 ho).2
                      simp only [List.getElem_toArray, List.getElem_cons_succ, List.getElem_cons_zero] at ho2
                      subst ho2
                      clear ho
                      have e164 := D.is { on := 10, ground := .data } (by simp) rfl rfl 164 rfl
                      have e167 := D.is { on := 13, ground := .data } (by simp) rfl rfl 167 rfl
                      exact wk.does_bin rfl (by rw [e164, e167]; cases cc <;> go_simp) rfl
                    ·
                      have ho2 := (Array.getElem?_eq_some_iff.1 ho).2
                      simp only [List.getElem_toArray, List.getElem_cons_succ, List.getElem_cons_zero] at ho2
                      subst ho2
                      clear ho
                      have e158 := D.is { on := 4, ground := .data } (by simp) rfl rfl 158 rfl
                      have e168 := D.is { on := 14, ground := .data } (by simp) rfl rfl 168 rfl
                      exact wk.does_pick rfl e158 e168
                    ·
                      have ho2 := (Array.getElem?_eq_some_iff.1 ho).2
                      simp only [List.getElem_toArray, List.getElem_cons_succ, List.getElem_cons_zero] at ho2
                      subst ho2
                      clear ho
                      have e155 := D.is { on := 1, ground := .data } (by simp) rfl rfl 155 rfl
                      have e169 := D.is { on := 15, ground := .data } (by simp) rfl rfl 169 rfl
                      exact wk.does_pick rfl e155 e169
                    ·
                      have ho2 := (Array.getElem?_eq_some_iff.1 ho).2
                      simp only [List.getElem_toArray, List.getElem_cons_succ, List.getElem_cons_zero] at ho2
                      subst ho2
                      clear ho
                      have e170 := D.is { on := 16, ground := .data } (by simp) rfl rfl 170 rfl
                      exact wk.does_assign rfl e170
                  case hdone =>
                    intro vals w4 hb4 hv
                    have h17 := hv 17 (by omega)
                    clear hv
                    replace h17 : vals 17 = (.bool true) := h17
                    simp only [List.drop_succ_cons, List.drop_zero, wpList, Act.put, wk.setL, List.setIfInBounds_toArray, List.set_cons_zero, List.set_cons_succ, Nat.zero_add, Nat.reduceAdd, h17]
                    generalize vals 0 = x0
                    generalize vals 1 = x1
                    generalize vals 2 = x2
                    generalize vals 3 = x3
                    generalize vals 4 = x4
                    generalize vals 5 = x5
                    generalize vals 6 = x6
                    generalize vals 7 = x7
                    generalize vals 8 = x8
                    generalize vals 9 = x9
                    generalize vals 10 = x10
                    generalize vals 11 = x11
                    generalize vals 12 = x12
                    generalize vals 13 = x13
                    generalize vals 14 = x14
                    generalize vals 15 = x15
                    generalize vals 16 = x16
                    replace HS := Lib.hid (HS.out.next ((Below.refl _ _).drew.trans hb4))
                    clear hb4
                    go_wp2_with fail
                    go_ret
                    exact ⟨rfl, HS.out.below⟩
                  
end Go.Proofs.YtmjmkkdmphgdnaaDoor.merkleProofsAreAccepted
