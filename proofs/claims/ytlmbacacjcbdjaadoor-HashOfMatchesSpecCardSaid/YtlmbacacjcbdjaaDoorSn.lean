
import Derived.Test.YtlmbacacjcbdjaaDoorRu

import Derived.Test.YtlmbacacjcbdjaaDoorHt

import Derived.Lib.SlBytesConst

namespace Go.Proofs.YtlmbacacjcbdjaaDoor.hi

open Go.ChangeShapes Go.WideShapes Go.ChangeAt Go.RowKit

set_option linter.unusedVariables false

theorem run_eq_arr_same (t e : TypeId) (n : Nat) (ht : Tryd.prog.underlying t = some (.array n e)) (he : Tryd.prog.underlying e = some (.int .u8)) (hs : (Tryd.prog.info? e).map (·.size) = some 1) (xs : List UInt8)
    (hx : xs.length = n) (w : World) : (binOp .eql t (.agg (wp.bc xs).toArray) (.agg (wp.bc xs).toArray)).run Tryd.prog w = .ok (.bool true) w := by
  rw [run_eql_struct, wk.run_eq_arr w 9998 t e n ht he hs xs xs hx hx]
  simp [Result.andThen]
theorem RB_mark {w : World} {g : Nat} (hg : w.heap.size = g) (l : List UInt8) {cs : Array Value} (t : TypeId) (fr : Nat × Nat) (hcs : cs = (wp.bc l).toArray) : wp.RB (w.alloc (.cells cs t fr)) (some ⟨g, 0, none⟩) l := fun hl => by
  subst hg hcs
  refine ⟨w.heap.size, 0, rfl, by simp, fun j u hu => ?_⟩
  rw [cell_of_row _ _ _ _ _ _ (heap_alloc_new w _), List.getElem?_toArray, Nat.zero_add]
  simp [wp.bc, hu]
theorem c254 : hp.crc [254] = 75628790 := by decide +kernel
theorem cff : hp.crc [255, 255] = 65535 := by decide +kernel
theorem call : hp.crc ([1099511627774].flatMap hp.five) = 1099435999222 := by decide +kernel
theorem j1 : joinV 255 255 1 = 65535 := by decide +kernel
theorem j2 : joinV 255 0 1 = 65280 := by decide +kernel
theorem j3 : joinV 7 9 0 = 14 := by decide +kernel
theorem j4 : joinV 1 1 (-1) = 0 := by decide +kernel
theorem hexabc : hx.hex (hs.sha [97, 98, 99]) = [98, 97, 55, 56, 49, 54, 98, 102, 56, 102, 48, 49, 99, 102, 101, 97, 52, 49, 52, 49, 52, 48, 100, 101, 53, 100, 97, 101, 50, 50, 50, 51, 98, 48, 48, 51, 54, 49, 97, 51, 57, 54, 49, 55, 55, 97, 57, 99, 98, 52, 49, 48, 102, 102, 54, 49, 102, 50, 48, 48, 49, 53, 97, 100] := by rw [hs.abc]; decide +kernel
theorem hexone : hx.hex ((hs.sha [1]).take 16) = [52, 98, 102, 53, 49, 50, 50, 102, 51, 52, 52, 53, 53, 52, 99, 53, 51, 98, 100, 101, 50, 101, 98, 98, 56, 99, 100, 50, 98, 55, 101, 51] := by decide +kernel

set_option maxRecDepth 100000 in
set_option maxHeartbeats 4000000 in
theorem sanity_true (w : World) (hT : TabK w) : Calls Tryd.prog 33 #[] w fun e w' => e = .returned (.bool true) ∧ Below w.heap.size w w' := by
  have HT := Lib.hid hT
  have hB1 := hT.1
  clear hT
  have kc := fun (w : World) (C : Array Value) (n c : Nat) => Lib.run_convert_bytes_const (P := Tryd.prog) w 77 5 C n c Tryd.underlying77 Tryd.underlying5
  go_enter Tryd.func33, Tryd.ntmps33
  go_wp2_with fail
  refine (hsum_calls _ 3 3 [97, 98, 99] _ rfl (Nat.le_refl _) (by decide) (by decide) (RB_mark rfl [97, 98, 99] _ _ rfl) (HT.out.below HT.out.1 ((Below.refl _ _).alloc (Nat.le_refl _) _))).mono ?_
  rintro e w1 ⟨rfl, hb1⟩
  have hB1 : Below w.heap.size w w1 := ((Below.refl w.heap.size w).alloc (Nat.le_refl _) (.cells #[.int .u8 97, .int .u8 98, .int .u8 99] 5 (3, 4))).trans (hb1.mono (by simp))
  clear hb1
  have HAB : Hid (hx.hex (hs.sha [97, 98, 99]) = _) := hexabc
  have hcl : (wp.bc (hs.sha [97, 98, 99])).length = 32 := by rw [wp.bc_length]; rfl
  have HFD : Hid (hs.out (hs.fin (hs.feed (hs.feed (hs.H0, []) [97]) [98, 99]) 3) = hs.sha [97, 98, 99]) := rfl
  generalize hs.sha [97, 98, 99] = sh at *
  have hsl : sh.length = 32 := by rw [wp.bc_length] at hcl; exact hcl
  have HSL := Lib.hid hsl
  have hz32 := size_to size32 hcl
  have hz33 : z32.size = (wp.bc sh).length := by rw [hcl]; rfl
  unfold z32 at hz33
  have ho := wk.ones_bc sh
  clear hcl hsl
  go_upto_region 2 with (refine wk.store_new rfl 95 (.tmp 1) (.tmp 10) rfl 95 _ (wp.bc sh) rfl rfl hz32 hz33 ho ?_)
  have q1 : (w1.alloc (.cells (wp.bc sh).toArray 95)).heap[w1.heap.size]? = some (.cells (wp.bc sh).toArray 95 (0, 0)) := heap_alloc_new _ _
  have hB2 := hB1.alloc hB1.size (.cells (wp.bc sh).toArray 95)
  generalize w1.alloc (.cells (wp.bc sh).toArray 95) = w2 at *
  generalize w1.heap.size = G1 at *
  have Q1 := Lib.hid q1
  have HB2 := Lib.hid hB2
  clear q1 hB1 hB2
  go_wp2_with fail
  refine (begin_calls _).mono ?_
  rintro e w3 ⟨rfl, hb3⟩
  have Q1 := Lib.hid (wk.row_below Q1.out hb3)
  have HB3 := Lib.hid (HB2.out.trans (hb3.mono HB2.out.size))
  clear hb3
  go_wp2_with fail
  have HC := Lib.hid (add_calls (hs.H0, []) 0 ⟨#[97]⟩ w3 str_begin (by decide) (HT.out.below HT.out.1 HB3.out))
  refine HC.out.mono ?_
  rintro e w4 ⟨rfl, hb4⟩
  have Q1 := Lib.hid (wk.row_below Q1.out hb4)
  have HB4 := Lib.hid (HB3.out.trans (hb4.mono HB3.out.size))
  clear hb4
  go_wp2_with fail
  have HC := Lib.hid (add_calls (hs.feed (hs.H0, []) [97]) 1 ⟨#[98, 99]⟩ w4 (str_begin.feed [97]) (by decide) (HT.out.below HT.out.1 HB4.out))
  refine HC.out.mono ?_
  rintro e w5 ⟨rfl, hb5⟩
  have Q1 := Lib.hid (wk.row_below Q1.out hb5)
  have HB5 := Lib.hid (HB4.out.trans (hb5.mono HB4.out.size))
  clear hb5
  go_wp2_with fail
  have HC := Lib.hid (sum_calls (hs.feed (hs.feed (hs.H0, []) [97]) [98, 99]) 3 w5 ((str_begin.feed [97]).feed [98, 99]) (by decide) (HT.out.below HT.out.1 HB5.out))
  rw [HFD.out] at HC
  refine HC.out.mono ?_
  rintro e w6 ⟨rfl, hb6⟩
  have Q1 := Lib.hid (wk.row_below Q1.out hb6)
  have HB6 := Lib.hid (HB5.out.trans (hb6.mono HB5.out.size))
  clear hb6
  go_upto_region 3 with (refine wk.store_new rfl 95 (.tmp 2) (.tmp 14) rfl 95 _ (wp.bc sh) rfl rfl hz32 hz33 ho ?_)
  have q2 : (w6.alloc (.cells (wp.bc sh).toArray 95)).heap[w6.heap.size]? = some (.cells (wp.bc sh).toArray 95 (0, 0)) := heap_alloc_new _ _
  have q1 := wk.row_below Q1.out ((Below.refl w6.heap.size w6).alloc (Nat.le_refl _) (.cells (wp.bc sh).toArray 95))
  have hB7 := HB6.out.alloc HB6.out.size (.cells (wp.bc sh).toArray 95)
  generalize w6.alloc (.cells (wp.bc sh).toArray 95) = w7 at *
  generalize w6.heap.size = G2 at *
  have Q1 := Lib.hid q1
  have Q2 := Lib.hid q2
  have HB7 := Lib.hid hB7
  clear q1 q2 hB7 hz33
  go_wp2_with fail
  have HC := Lib.hid (of_calls 1 none 0 0 [] w7 rfl (Nat.le_refl _) (by decide) (fun h => absurd h (by simp)) (by decide) (by decide) (HT.out.below HT.out.1 HB7.out))
  have HON : Hid (hx.hex ((hs.sha [1]).take 16) = _) := hexone
  have HOE : Hid (tagB 1 :: (([] : List ByteArray).flatMap fun s => wp.encB s.data.toList) = [1]) := rfl
  rw [HOE.out] at HC
  have hol : ((hs.sha [1]).take 16).length = 16 := rfl
  generalize (hs.sha [1]).take 16 = sd at *
  have HOL := Lib.hid hol
  have hd1 : (wp.bc sd).length = 16 := by rw [wp.bc_length]; exact hol
  have hz16 := size_to info55x hd1
  have hz17 : (#[.int .u8 0, .int .u8 0, .int .u8 0, .int .u8 0, .int .u8 0, .int .u8 0, .int .u8 0, .int .u8 0, .int .u8 0, .int .u8 0, .int .u8 0, .int .u8 0, .int .u8 0, .int .u8 0, .int .u8 0, .int .u8 0] : Array Value).size = (wp.bc sd).length := by rw [hd1]; rfl
  have hod := wk.ones_bc sd
  clear hol hd1
  refine HC.out.mono ?_
  rintro e w8 ⟨rfl, hb8⟩
  have Q1 := Lib.hid (wk.row_below Q1.out hb8)
  have Q2 := Lib.hid (wk.row_below Q2.out hb8)
  have HB8 := Lib.hid (HB7.out.trans (hb8.mono HB7.out.size))
  clear hb8 HC
  go_upto_region 4 with (refine wk.store_new rfl 31 (.tmp 3) (.tmp 15) rfl 31 _ (wp.bc sd) rfl rfl hz16 hz17 hod ?_)
  have q3 : (w8.alloc (.cells (wp.bc sd).toArray 31)).heap[w8.heap.size]? = some (.cells (wp.bc sd).toArray 31 (0, 0)) := heap_alloc_new _ _
  have q1 := wk.row_below Q1.out ((Below.refl w8.heap.size w8).alloc (Nat.le_refl _) (.cells (wp.bc sd).toArray 31))
  have q2 := wk.row_below Q2.out ((Below.refl w8.heap.size w8).alloc (Nat.le_refl _) (.cells (wp.bc sd).toArray 31))
  have hB9 := HB8.out.alloc HB8.out.size (.cells (wp.bc sd).toArray 31)
  generalize w8.alloc (.cells (wp.bc sd).toArray 31) = w9 at *
  generalize w8.heap.size = G3 at *
  have Q1 := Lib.hid q1
  have Q2 := Lib.hid q2
  have Q3 := Lib.hid q3
  have HB9 := Lib.hid hB9
  clear q1 q2 q3 hB9 hz17
  go_wp2_with fail
  have HC := Lib.hid (crc40 (some ⟨w9.heap.size, 0, none⟩) 1 1 [254] (w9.alloc (.cells #[.int .u8 254] 5)) rfl (Nat.le_refl _) (by decide) (wi.RB_new rfl [254] _ rfl))
  rw [c254] at HC
  refine HC.out.mono ?_
  rintro e w10 ⟨rfl, hb10⟩
  have hb := ((Below.refl w9.heap.size w9).alloc (Nat.le_refl _) (.cells #[.int .u8 254] 5)).trans (hb10.mono (by simp))
  have Q1 := Lib.hid (wk.row_below Q1.out hb)
  have Q2 := Lib.hid (wk.row_below Q2.out hb)
  have Q3 := Lib.hid (wk.row_below Q3.out hb)
  have HB10 := Lib.hid (HB9.out.trans (hb.mono HB9.out.size))
  clear hb hb10 HC
  go_wp2_with fail
  refine (begin_crc _).mono ?_
  rintro e w11 ⟨rfl, hb⟩
  have Q1 := Lib.hid (wk.row_below Q1.out hb)
  have Q2 := Lib.hid (wk.row_below Q2.out hb)
  have Q3 := Lib.hid (wk.row_below Q3.out hb)
  have HB11 := Lib.hid (HB10.out.trans (hb.mono HB10.out.size))
  clear hb
  go_wp2_with fail
  have HC := Lib.hid (crc_add hp.FULL ⟨#[255]⟩ w11 (by decide) (by decide))
  refine HC.out.mono ?_
  rintro e w12 ⟨rfl, hb⟩
  have Q1 := Lib.hid (wk.row_below Q1.out hb)
  have Q2 := Lib.hid (wk.row_below Q2.out hb)
  have Q3 := Lib.hid (wk.row_below Q3.out hb)
  have HB12 := Lib.hid (HB11.out.trans (hb.mono HB11.out.size))
  clear hb HC
  go_wp2_with fail
  have HC := Lib.hid (crc_add (hp.reg hp.FULL [255]) ⟨#[255]⟩ w12 (hp.reg_lt (by decide) _) (by decide))
  refine HC.out.mono ?_
  rintro e w13 ⟨rfl, hb⟩
  have Q1 := Lib.hid (wk.row_below Q1.out hb)
  have Q2 := Lib.hid (wk.row_below Q2.out hb)
  have Q3 := Lib.hid (wk.row_below Q3.out hb)
  have HB13 := Lib.hid (HB12.out.trans (hb.mono HB12.out.size))
  clear hb HC
  go_wp2_with fail
  have HC := Lib.hid (crc_value (hp.reg (hp.reg hp.FULL [255]) [255]) w13 (hp.reg_lt (hp.reg_lt (by decide) _) _))
  have HCF : Hid (hp.reg (hp.reg hp.FULL [255]) [255] ^^^ hp.FULL = 65535) := cff
  rw [HCF.out] at HC
  refine HC.out.mono ?_
  rintro e w14 ⟨rfl, hb⟩
  have Q1 := Lib.hid (wk.row_below Q1.out hb)
  have Q2 := Lib.hid (wk.row_below Q2.out hb)
  have Q3 := Lib.hid (wk.row_below Q3.out hb)
  have HB14 := Lib.hid (HB13.out.trans (hb.mono HB13.out.size))
  clear hb HC
  go_wp2_with fail
  have HC := Lib.hid (words_calls (some ⟨w14.heap.size, 0, none⟩) 1 1 [1099511627774] (w14.alloc (.cells #[.int .i64 1099511627774] 3)) rfl (Nat.le_refl _) (by decide) (wi.RC_new rfl [.int .i64 1099511627774] _ rfl) (by decide))
  rw [call] at HC
  refine HC.out.mono ?_
  rintro e w15 ⟨rfl, hb15⟩
  have hb := ((Below.refl w14.heap.size w14).alloc (Nat.le_refl _) (.cells #[.int .i64 1099511627774] 3)).trans (hb15.mono (by simp))
  have Q1 := Lib.hid (wk.row_below Q1.out hb)
  have Q2 := Lib.hid (wk.row_below Q2.out hb)
  have Q3 := Lib.hid (wk.row_below Q3.out hb)
  have HB15 := Lib.hid (HB14.out.trans (hb.mono HB14.out.size))
  clear hb hb15 HC
  have HJ1 := Lib.hid (join_calls 255 255 1 w15 (by decide) (by decide) (by decide))
  have HJ2 := Lib.hid (join_calls 255 0 1 w15 (by decide) (by decide) (by decide))
  have HJ3 := Lib.hid (join_calls 7 9 0 w15 (by decide) (by decide) (by decide))
  have HJ4 := Lib.hid (join_calls 1 1 (-1) w15 (by decide) (by decide) (by decide))
  rw [j1] at HJ1
  rw [j2] at HJ2
  rw [j3] at HJ3
  rw [j4] at HJ4
  go_wp2_with fail
  refine HJ1.out.mono ?_
  rintro e w' ⟨rfl, rfl⟩
  go_wp2_with fail
  refine HJ2.out.mono ?_
  rintro e w' ⟨rfl, rfl⟩
  go_wp2_with fail
  refine HJ3.out.mono ?_
  rintro e w' ⟨rfl, rfl⟩
  go_wp2_with fail
  refine HJ4.out.mono ?_
  rintro e w' ⟨rfl, rfl⟩
  go_upto_region 8 with fail
  have heq := fun w' => run_eq_arr_same 95 5 32 Tryd.underlying95 Tryd.underlying5 size_u8 sh HSL.out w'
  have hzl1 : (Tryd.prog.info? 95).map (·.size) = some (wp.bc sh).toArray.size := by rw [List.size_toArray, wp.bc_length, HSL.out]; exact size32
  have hzl3 : (Tryd.prog.info? 31).map (·.size) = some (wp.bc sd).toArray.size := by rw [List.size_toArray, wp.bc_length, HOL.out]; exact info55x
  have h1 := Q1.out
  have HC1 := Lib.hid (bytes32_calls sh w15 HSL.out)
  go_wp2_with (refine wpList_load_row rfl 95 (.tmp 1) rfl G1 rfl 95 (wp.bc sh).toArray (0, 0) _ h1 Tryd.underlying95 rfl hzl1 ?_)
  refine HC1.out.mono ?_
  rintro e w16 ⟨rfl, hb⟩
  clear h1 HC1
  have Q1 := Lib.hid (wk.row_below Q1.out hb)
  have Q2 := Lib.hid (wk.row_below Q2.out hb)
  have Q3 := Lib.hid (wk.row_below Q3.out hb)
  have HB16 := Lib.hid (HB15.out.trans (hb.mono HB15.out.size))
  clear hb
  have HC := Lib.hid (hex_calls ⟨sh.toArray⟩ w16 (by rw [str_size, HSL.out]; decide))
  have HAB2 : Hid (hx.hex (⟨sh.toArray⟩ : ByteArray).data.toList = [98, 97, 55, 56, 49, 54, 98, 102, 56, 102, 48, 49, 99, 102, 101, 97, 52, 49, 52, 49, 52, 48, 100, 101, 53, 100, 97, 101, 50, 50, 50, 51, 98, 48, 48, 51, 54, 49, 97, 51, 57, 54, 49, 55, 55, 97, 57, 99, 98, 52, 49, 48, 102, 102, 54, 49, 102, 50, 48, 48, 49, 53, 97, 100]) := HAB.out
  rw [HAB2.out] at HC
  go_wp2_with fail
  refine HC.out.mono ?_
  rintro e w17 ⟨rfl, hb⟩
  have Q1 := Lib.hid (wk.row_below Q1.out hb)
  have Q2 := Lib.hid (wk.row_below Q2.out hb)
  have Q3 := Lib.hid (wk.row_below Q3.out hb)
  have HB17 := Lib.hid (HB16.out.trans (hb.mono HB16.out.size))
  clear hb HC
  have h1 := Q1.out
  have h2 := Q2.out
  have h3 := Q3.out
  have HC3 := Lib.hid (text_calls sd w17 HOL.out)
  go_wp2_with (first | refine wk.load_due (by rfl) 95 (.tmp 1) rfl G1 rfl 95 (wp.bc sh).toArray (0, 0) _ h1 Tryd.underlying95 rfl hzl1 ?_ | refine wk.load_due (by rfl) 95 (.tmp 2) rfl G2 rfl 95 (wp.bc sh).toArray (0, 0) _ h2 Tryd.underlying95 rfl hzl1 ?_ | refine wk.load_due (by rfl) 31 (.tmp 3) rfl G3 rfl 31 (wp.bc sd).toArray (0, 0) _ h3 Tryd.underlying31 rfl hzl3 ?_)
  refine HC3.out.mono ?_
  rintro e w18 ⟨rfl, hb⟩
  have HB18 := Lib.hid (HB17.out.trans (hb.mono HB17.out.size))
  clear hb h1 h2 h3
  have HC := Lib.hid (hex_calls ⟨sd.toArray⟩ w18 (by rw [str_size, HOL.out]; decide))
  have HON2 : Hid (hx.hex (⟨sd.toArray⟩ : ByteArray).data.toList = [52, 98, 102, 53, 49, 50, 50, 102, 51, 52, 52, 53, 53, 52, 99, 53, 51, 98, 100, 101, 50, 101, 98, 98, 56, 99, 100, 50, 98, 55, 101, 51]) := HON.out
  rw [HON2.out] at HC
  go_wp2_with fail
  refine HC.out.mono ?_
  rintro e w19 ⟨rfl, hb⟩
  have HB19 := Lib.hid (HB18.out.trans (hb.mono HB18.out.size))
  clear hb HC
  go_wp2_with fail
  go_ret
  exact ⟨rfl, HB19.out⟩
end Go.Proofs.YtlmbacacjcbdjaaDoor.hi
