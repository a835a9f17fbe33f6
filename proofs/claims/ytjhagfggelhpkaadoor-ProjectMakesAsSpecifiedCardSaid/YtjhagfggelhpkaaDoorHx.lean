/- Plain facts on bytes: exclusive or, hexadecimal digits: no program here. -/
import Derived.Test.YtjhagfggelhpkaaDoorG1

import Derived.Test.YtjhagfggelhpkaaDoorHpx

namespace Go.Proofs.YtjhagfggelhpkaaDoor.hx

/-- bytewise exclusive or, as long as the first one -/
def xorL : List UInt8 → List UInt8 → List UInt8
  | [], _ => []
  | c :: r, [] => c :: xorL r []
  | c :: r, d :: s => (c ^^^ d) :: xorL r s
theorem xorL_nil : ∀ a, xorL a [] = a
  | [] => rfl
  | c :: r => by rw [xorL, xorL_nil r]
theorem xorL_length : ∀ (a b : List UInt8), (xorL a b).length = a.length
  | [], _ => by simp [xorL]
  | c :: r, [] => by simp [xorL, xorL_length r []]
  | c :: r, d :: s => by simp [xorL, xorL_length r s]
theorem xorL_at : ∀ (a b : List UInt8) (k : Nat) (x : UInt8), a[k]? = some x → (xorL a b)[k]? = some (match b[k]? with | some y => x ^^^ y | none => x)
  | [], _, k, x, h => by simp at h
  | c :: r, [], k, x, h => by
    rw [xorL_nil]
    simpa using h
  | c :: r, d :: s, 0, x, h => by
    simp at h
    subst h
    simp [xorL]
  | c :: r, d :: s, k + 1, x, h => by
    have := xorL_at r s k x (by simpa using h)
    simpa [xorL] using this
/-- as long as the first one, zeros behind -/
def fit (n : Nat) (b : List UInt8) : List UInt8 := xorL (List.replicate n 0) b
theorem fit_length (n : Nat) (b : List UInt8) : (fit n b).length = n := by unfold fit; rw [xorL_length, List.length_replicate]
theorem reg_xorL : ∀ (a b : List UInt8) (r s : Nat), a.length = b.length → hp.reg (r ^^^ s) (xorL a b) = hp.reg r a ^^^ hp.reg s b
  | [], b, r, s, h => by
    have : b = [] := List.eq_nil_of_length_eq_zero (by simpa using h.symm)
    subst this
    rfl
  | c :: a, d :: b, r, s, h => by
    have ih := reg_xorL a b (hp.Tn 8 (r ^^^ c.toNat * 4294967296)) (hp.Tn 8 (s ^^^ d.toNat * 4294967296)) (by simpa using h)
    show hp.reg (hp.Tn 8 ((r ^^^ s) ^^^ (c ^^^ d).toNat * 4294967296)) (xorL a b) = hp.reg (hp.Tn 8 (r ^^^ c.toNat * 4294967296)) a ^^^ hp.reg (hp.Tn 8 (s ^^^ d.toNat * 4294967296)) b
    rw [← ih, ← hp.Tn_lin 8, hp.xor4]
    congr 3
    rw [UInt8.toNat_xor]
    exact hp.xor_shl c.toNat d.toNat 32
theorem crc_xor3 {a b c : List UInt8} (h1 : a.length = b.length) (h2 : a.length = c.length) : hp.crc (xorL (xorL a b) c) = hp.crc a ^^^ hp.crc b ^^^ hp.crc c := by
  have e1 := reg_xorL a b hp.FULL 0 h1
  have e2 := reg_xorL (xorL a b) c (hp.FULL ^^^ 0) 0 (by rw [xorL_length]; exact h2)
  have hx : ∀ l : List UInt8, hp.reg 0 l = hp.Tn (8 * l.length) hp.FULL ^^^ hp.reg hp.FULL l := fun l => by
    have := hp.reg_xor hp.FULL hp.FULL l
    rw [Nat.xor_self] at this
    exact this
  rw [Nat.xor_zero] at e1 e2
  rw [Nat.xor_zero] at e2
  have e3 : hp.reg hp.FULL (xorL (xorL a b) c) = hp.reg hp.FULL a ^^^ hp.reg 0 b ^^^ hp.reg 0 c := by rw [e2, e1]
  unfold hp.crc
  rw [e3, hx b, hx c, ← h1, ← h2]
  generalize hp.Tn (8 * a.length) hp.FULL = t
  generalize hp.reg hp.FULL a = x
  generalize hp.reg hp.FULL b = y
  generalize hp.reg hp.FULL c = z
  generalize hp.FULL = f
  apply Nat.eq_of_testBit_eq; intro i
  simp only [Nat.testBit_xor]
  cases x.testBit i <;> cases y.testBit i <;> cases z.testBit i <;> cases t.testBit i <;> cases f.testBit i <;> rfl
/-- hexadecimal digits -/
def digs : List UInt8 := [48, 49, 50, 51, 52, 53, 54, 55, 56, 57, 97, 98, 99, 100, 101, 102]
def hex2 (c : UInt8) : List UInt8 := [digs.getD (c.toNat / 16) 0, digs.getD (c.toNat % 16) 0]
def hex (l : List UInt8) : List UInt8 := l.flatMap hex2
end Go.Proofs.YtjhagfggelhpkaaDoor.hx
