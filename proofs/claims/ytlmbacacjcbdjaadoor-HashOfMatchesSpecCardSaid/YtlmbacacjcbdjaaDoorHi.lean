
import Derived.Test.YtlmbacacjcbdjaaDoorRows

import Derived.Test.YtlmbacacjcbdjaaDoorKit3

import Derived.Test.YtlmbacacjcbdjaaDoorBit

import Derived.StillTailTactics

namespace Go.Proofs.YtlmbacacjcbdjaaDoor.hi

open Go.ChangeShapes Go.WideShapes Go.ChangeAt Go.RowKit

theorem ret_u64 {a b : Int} (h : a = b) : Ending.returned (.int .u64 a) = .returned (.int .u64 b) := by rw [h]
theorem ret_i64 {a b : Int} (h : a = b) : Ending.returned (.int .i64 a) = .returned (.int .i64 b) := by rw [h]

theorem raise_8 (a : Nat) (w : World) (h : a < 1099511627776) :
    Calls Tryd.prog 99 #[.int .u64 (a : Int), .int .i64 8] w fun e w' => e = .returned (.int .u64 (hp.Tn 8 a : Nat)) ∧ w = w' := by
  have H : Hid (hp.raise a 8 = hp.Tn 8 a) := hp.raise_8 h
  go_enter Tryd.func99, Tryd.ntmps99
  go_wp2
  go_ret
  refine ⟨ret_u64 ?_, rfl⟩
  have u : hb.U 64 (a : Int) a := ⟨rfl, by omega⟩
  have o : hb.U 64 ((a : Int) / 4294967296) (a / 4294967296) := u.div 4294967296
  have := ((((((u.mul 256 (by omega)).mask40).xor64 (o.mul 67108864 (by omega))).xor64 (o.mul 8388608 (by omega))).xor64 (o.mul 131072 (by omega))).xor64 (o.mul 8 (by omega))).xor64 o
  rw [← H.out]
  exact this.eq
theorem raise_1 (a : Nat) (w : World) (h : a < 1099511627776) :
    Calls Tryd.prog 99 #[.int .u64 (a : Int), .int .i64 1] w fun e w' => e = .returned (.int .u64 (hp.T a : Nat)) ∧ w = w' := by
  have H : Hid (hp.raise a 1 = hp.T a) := hp.raise_1 h
  go_enter Tryd.func99, Tryd.ntmps99
  go_wp2
  go_ret
  refine ⟨ret_u64 ?_, rfl⟩
  have u : hb.U 64 (a : Int) a := ⟨rfl, by omega⟩
  have o : hb.U 64 ((a : Int) / 549755813888) (a / 549755813888) := u.div 549755813888
  have := ((((((u.mul 2 (by omega)).mask40).xor64 (o.mul 67108864 (by omega))).xor64 (o.mul 8388608 (by omega))).xor64 (o.mul 131072 (by omega))).xor64 (o.mul 8 (by omega))).xor64 o
  rw [← H.out]
  exact this.eq

/-- a register as the program's struct -/
def crcV (r : Nat) : Value := .agg #[.int .u64 (r : Int)]

theorem addByte (r : Nat) (c : UInt8) (w : World) (h : r < 1099511627776) :
    Calls Tryd.prog 87 #[crcV r, .int .u8 (c.toNat : Int)] w fun e w' => e = .returned (crcV (hp.Tn 8 (r ^^^ c.toNat * 4294967296))) ∧ Below w.heap.size w w' := by
  have hc := c.toNat_lt
  have u : hb.U 64 (r : Int) r := ⟨rfl, by omega⟩
  have v : hb.U 64 ((c.toNat : Int) * 4294967296) (c.toNat * 4294967296) := (hb.U.nat (j := 64) (a := c.toNat) (by omega)).mul 4294967296 (by omega)
  have H := Lib.hid (u.xor64 v).eq
  have hx : (r ^^^ c.toNat * 4294967296) < 1099511627776 := Nat.xor_lt_two_pow (n := 40) h (hp.byte_lt c)
  have HR := Lib.hid (raise_8 (r ^^^ c.toNat * 4294967296) · hx)
  generalize r ^^^ c.toNat * 4294967296 = y at *
  clear hx u v
  unfold crcV
  go_enter Tryd.func87, Tryd.ntmps87
  go_wp2_with (rw [H.out]; refine (HR.out _).mono ?_; rintro e w' ⟨rfl, rfl⟩)
  refine bodyPost_ret (v := crcV (hp.Tn 8 y)) (by simp [results, Tryd.results87, go_sem, crcV]) rfl ⟨rfl, ?_⟩
  exact ((Below.refl _ _).alloc (Nat.le_refl _) _).alloc (by simp) _

theorem begin_crc (w : World) : Calls Tryd.prog 67 #[] w fun e w' => e = .returned (crcV hp.FULL) ∧ Below w.heap.size w w' := by
  go_enter Tryd.func67, Tryd.ntmps67
  go_wp2
  refine bodyPost_ret (v := crcV hp.FULL) (by simp [results, Tryd.results67, go_sem, crcV]; rfl) rfl ⟨rfl, ?_⟩
  exact (Below.refl _ _).alloc (Nat.le_refl _) _

theorem crc_value (r : Nat) (w : World) (h : r < 1099511627776) : Calls Tryd.prog 69 #[crcV r] w fun e w' => e = .returned (.int .i64 ((r ^^^ hp.FULL : Nat) : Int)) ∧ Below w.heap.size w w' := by
  have u : hb.U 64 (r : Int) r := ⟨rfl, by omega⟩
  have H := Lib.hid (u.xor64 (hb.U.nat (j := 64) (a := hp.FULL) (by decide))).eq
  have hx : (r ^^^ hp.FULL) < 1099511627776 := Nat.xor_lt_two_pow (n := 40) h (by decide)
  generalize r ^^^ hp.FULL = y at *
  unfold crcV
  go_enter Tryd.func69, Tryd.ntmps69
  go_wp2_with fail
  go_ret
  refine ⟨ret_i64 ?_, (Below.refl _ _).alloc (Nat.le_refl _) _⟩
  rw [show (1099511627775 : Int) = ((hp.FULL : Nat) : Int) from rfl, H.out]
  unfold wrap64
  omega

/-- the program's cell of a register -/
def crcO (r : Nat) : Obj := .cells #[.int .u64 (r : Int)] 107
theorem below_store {B : Nat} {a w : World} {g : Nat} (h : Below B a w) (hg : B ≤ g) (u : Value) : Below B a (w.setCell ⟨g, 0, none⟩ u) := h.setCell (p := ⟨g, 0, none⟩) hg u

theorem crc_size : (Tryd.prog.info? 107).map (·.size) = some 1 := by kernel_rfl
theorem drop_byte (s : ByteArray) {k : Nat} (h : k < s.size) : s.data.toList.drop k = s[k] :: s.data.toList.drop (k + 1) := by
  have hz : s.data.toList.length = s.size := by rw [Array.length_toList]; rfl
  rw [List.drop_eq_getElem_cons (by omega)]
  rfl

set_option maxRecDepth 100000 in
theorem crc_add (r : Nat) (s : ByteArray) (w : World) (h : r < 1099511627776) (hs : s.size ≤ 9223372036854775807) :
    Calls Tryd.prog 68 #[crcV r, .string s] w fun e w' => e = .returned (crcV (hp.reg r s.data.toList)) ∧ Below w.heap.size w w' := by
  have hz : s.data.toList.length = s.size := by rw [Array.length_toList]; rfl
  have HS := Lib.hid hz
  unfold crcV
  go_enter Tryd.func68, Tryd.ntmps68
  go_wp2_with fail
  generalize hB : w.heap.size = B at *
  have HB := Lib.hid hB
  clear hB
  go_loopg [8] s.size (fun g x wr => ∃ (k q : Nat), k + g = s.size ∧ x = .int .i64 (k : Int) ∧ q < 1099511627776 ∧ hp.reg q (s.data.toList.drop k) = hp.reg r s.data.toList ∧ wr.heap[B]? = some (.cells #[.int .u64 (q : Int)] 107 (0, 0)) ∧ wr.heap[B + 1]? = some (.cells #[.int .u64 0] 107 (0, 0)) ∧ Below B w wr)
  case atStart =>
    have hB := HB.out
    subst hB
    exact ⟨0, r, by omega, rfl, h, by simp, heap_alloc2_old _ _ _, heap_alloc2_new _ _ _, ((Below.refl _ _).alloc (Nat.le_refl _) _).alloc (by simp) _⟩
  case round =>
    obtain ⟨k, q, hk, rfl, hq, hreg, hc0, hc1, hbel⟩ := hrel
    have HK := Lib.hid hk
    have HREG := Lib.hid hreg
    have hcell : wr.cell? ⟨B, 0, none⟩ = some (.int .u64 (q : Int)) := by rw [cell_of_row _ _ _ _ _ _ hc0]; rfl
    have HBEL := Lib.hid hbel
    have HC0 := Lib.hid hc0
    have HC1 := Lib.hid hc1
    clear hk hreg hbel hc0 hc1
    by_cases hlt : k < s.size
    · have HD := Lib.hid (drop_byte s hlt)
      go_wp2_with fail
      go_still_tail 4, (by kernel_rfl)
      change wpList _ _ _ _ _ wr.drew
      go_wp2_with fail
      have HA := addByte q s[k] wr.drew hq
      unfold crcV at HA
      refine HA.mono ?_
      rintro e w1 ⟨rfl, hb1⟩
      have hb2 : Below wr.heap.size wr w1 := (Below.refl _ _).drew.trans hb1
      have h0 := wk.row_below HC0.out hb2
      have h1 := wk.row_below HC1.out hb2
      have hyl : hp.Tn 8 (q ^^^ s[k].toNat * 4294967296) < 1099511627776 := hp.Tn_lt 8 (Nat.xor_lt_two_pow (n := 40) hq (hp.byte_lt _))
      have HR1 : Hid (hp.reg (hp.Tn 8 (q ^^^ s[k].toNat * 4294967296)) (s.data.toList.drop (k + 1)) = hp.reg r s.data.toList) := by
        show _ = _
        rw [← HREG.out, HD.out]; rfl
      generalize hp.Tn 8 (q ^^^ s[k].toNat * 4294967296) = y at *
      go_wp2_with (refine wk.store_row rfl 107 (.tmp 2) (.tmp 15) rfl B [.int .u64 (y : Int)] rfl rfl 107 _ h0 crc_size rfl (wk.ones_one _ _) ?_)
      go_roundg (gk - 1)
      case measure => have := HK.out; omega
      case rel =>
        refine ⟨k + 1, _, by have := HK.out; omega, by go_num, hyl, HR1.out, setRow_heap _ _ _ _ _ _ h0, ?_, wk.below_setRow (HBEL.out.trans (hb2.mono (by have := HBEL.out.size; have := HB.out; omega))) (Nat.le_refl _) _⟩
        rw [setRow_other _ _ _ _ (by omega)]; exact h1
    · go_wp2_with (refine wk.store_row rfl 107 (.tmp 4) (.tmp 17) rfl (B + 1) [.int .u64 (q : Int)] rfl rfl 107 _ HC1.out crc_size rfl (wk.ones_one _ _) ?_)
      have hkl : s.data.toList.drop k = [] := List.drop_eq_nil_of_le (by have := HS.out; omega)
      have hq2 := HREG.out
      rw [hkl] at hq2
      refine bodyPost_ret (v := crcV q) (results_cell_row (fn := Tryd.f68) rfl _ _ (B + 1) 107 #[.int .u64 (q : Int)] (0, 0) _ rfl (setRow_heap _ _ _ _ _ _ HC1.out) Tryd.underlying107 rfl (by kernel_rfl)) rfl ⟨?_, ?_⟩
      · rw [← hq2]; rfl
      · rw [HB.out]; exact wk.below_setRow HBEL.out (by omega) _
end Go.Proofs.YtlmbacacjcbdjaaDoor.hi
