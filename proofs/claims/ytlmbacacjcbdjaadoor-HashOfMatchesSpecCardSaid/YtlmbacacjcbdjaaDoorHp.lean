/- Plain arithmetic of the check: no program here. -/
import Derived.KernelRfl

namespace Go.Proofs.YtlmbacacjcbdjaaDoor.hp

def POLY : Nat := 0x0004820009
/-- one bit further -/
def T (a : Nat) : Nat := (2 * a) % 1099511627776 ^^^ (if a.testBit 39 then POLY else 0)

theorem xor_mod (a b k : Nat) : (a ^^^ b) % 2 ^ k = a % 2 ^ k ^^^ b % 2 ^ k := by
  apply Nat.eq_of_testBit_eq; intro i
  simp only [Nat.testBit_xor, Nat.testBit_mod_two_pow]
  cases decide (i < k) <;> simp
theorem xor_shl (a b k : Nat) : (a ^^^ b) * 2 ^ k = a * 2 ^ k ^^^ b * 2 ^ k := by
  rw [← Nat.shiftLeft_eq, ← Nat.shiftLeft_eq, ← Nat.shiftLeft_eq]
  exact Nat.shiftLeft_xor_distrib
theorem xor_shr (a b k : Nat) : (a ^^^ b) / 2 ^ k = a / 2 ^ k ^^^ b / 2 ^ k := by
  rw [← Nat.shiftRight_eq_div_pow, ← Nat.shiftRight_eq_div_pow, ← Nat.shiftRight_eq_div_pow]
  exact Nat.shiftRight_xor_distrib
theorem xor4 (a b c d : Nat) : (a ^^^ b) ^^^ (c ^^^ d) = (a ^^^ c) ^^^ (b ^^^ d) := by
  rw [Nat.xor_assoc, Nat.xor_assoc, ← Nat.xor_assoc b c d, ← Nat.xor_assoc c b d, Nat.xor_comm b c]

/-- kept by exclusive or -/
def Lin (f : Nat → Nat) : Prop := ∀ a b, f (a ^^^ b) = f a ^^^ f b
theorem Lin.zero {f : Nat → Nat} (h : Lin f) : f 0 = 0 := by
  have := h 0 0
  rw [Nat.xor_self, Nat.xor_self] at this
  exact this
theorem Lin.comp {f g : Nat → Nat} (hf : Lin f) (hg : Lin g) : Lin fun a => f (g a) := fun a b => by
  show f (g (a ^^^ b)) = _
  rw [hg, hf]
theorem Lin.xor {f g : Nat → Nat} (hf : Lin f) (hg : Lin g) : Lin fun a => f a ^^^ g a := fun a b => by
  show f (a ^^^ b) ^^^ g (a ^^^ b) = _
  rw [hf, hg, xor4]
theorem lin_id : Lin fun a => a := fun _ _ => rfl
theorem lin_mod (k : Nat) : Lin fun a => a % 2 ^ k := fun a b => xor_mod a b k
theorem lin_shl (k : Nat) : Lin fun a => a * 2 ^ k := fun a b => xor_shl a b k
theorem lin_shr (k : Nat) : Lin fun a => a / 2 ^ k := fun a b => xor_shr a b k
theorem lin_bit (k c : Nat) : Lin fun a => if a.testBit k then c else 0 := fun a b => by
  show (if (a ^^^ b).testBit k then c else 0) = (if a.testBit k then c else 0) ^^^ (if b.testBit k then c else 0)
  rw [Nat.testBit_xor]
  cases a.testBit k <;> cases b.testBit k <;> simp

theorem split_top {a k : Nat} (h : a < 2 ^ (k + 1)) (h2 : ¬ a < 2 ^ k) : a = 2 ^ k ^^^ (a - 2 ^ k) ∧ a - 2 ^ k < 2 ^ k := by
  have h3 : a - 2 ^ k < 2 ^ k := by rw [Nat.pow_succ] at h; omega
  refine ⟨?_, h3⟩
  apply Nat.eq_of_testBit_eq; intro i
  rw [Nat.testBit_xor, Nat.testBit_two_pow]
  have e : a = 2 ^ k + (a - 2 ^ k) := by omega
  rcases Nat.lt_trichotomy i k with hi | hi | hi
  · rw [e, Nat.testBit_two_pow_add_gt hi, Nat.add_sub_cancel_left, decide_eq_false (by omega : ¬ k = i)]; simp
  · subst hi
    rw [e, Nat.testBit_two_pow_add_eq, Nat.add_sub_cancel_left]; simp
  · have h4 : a.testBit i = false := Nat.testBit_lt_two_pow (Nat.lt_of_lt_of_le h (Nat.pow_le_pow_right (by decide) hi))
    have h5 : (a - 2 ^ k).testBit i = false := Nat.testBit_lt_two_pow (Nat.lt_of_lt_of_le h3 (Nat.pow_le_pow_right (by decide) (Nat.le_of_lt hi)))
    rw [h4, h5]; simp; omega

theorem basis {f g : Nat → Nat} (hf : Lin f) (hg : Lin g) : ∀ k, (∀ i, i < k → f (2 ^ i) = g (2 ^ i)) → ∀ a, a < 2 ^ k → f a = g a
  | 0, _, a, ha => by
    have : a = 0 := by simpa using ha
    rw [this, hf.zero, hg.zero]
  | k + 1, h, a, ha => by
    have ih := basis hf hg k fun i hi => h i (by omega)
    by_cases h2 : a < 2 ^ k
    · exact ih a h2
    · obtain ⟨e, hlt⟩ := split_top ha h2
      rw [e, hf, hg, h k (by omega), ih _ hlt]

theorem T_lin : Lin T := by
  have h : Lin fun a => (2 * a) % 2 ^ 40 ^^^ (if a.testBit 39 then POLY else 0) :=
    Lin.xor (Lin.comp (lin_mod 40) (fun a b => by
      show 2 * (a ^^^ b) = 2 * a ^^^ 2 * b
      have := xor_shl a b 1
      rw [Nat.pow_one] at this
      rw [Nat.mul_comm 2 (a ^^^ b), Nat.mul_comm 2 a, Nat.mul_comm 2 b]; exact this)) (lin_bit 39 POLY)
  exact h
theorem T_lt (a : Nat) : T a < 1099511627776 := by
  unfold T
  refine Nat.xor_lt_two_pow (n := 40) (Nat.mod_lt _ (by decide)) ?_
  split <;> decide

/-- n bits further -/
def Tn : Nat → Nat → Nat
  | 0, a => a
  | n + 1, a => T (Tn n a)
theorem Tn_lin : ∀ n, Lin (Tn n)
  | 0 => lin_id
  | n + 1 => fun a b => by
    show T (Tn n (a ^^^ b)) = T (Tn n a) ^^^ T (Tn n b)
    rw [Tn_lin n, T_lin]
theorem Tn_add (n m a : Nat) : Tn (n + m) a = Tn n (Tn m a) := by
  induction n with
  | zero => rw [Nat.zero_add]; rfl
  | succ n ih => rw [Nat.succ_add]; show T _ = T _; rw [ih]
theorem Tn_lt (n : Nat) {a : Nat} (h : a < 1099511627776) : Tn n a < 1099511627776 := by
  cases n with
  | zero => exact h
  | succ n => exact T_lt _

/-- 'raise' -/
def raise (a n : Nat) : Nat := (a * 2 ^ n) % 2 ^ 40 ^^^ a / 2 ^ (40 - n) * 2 ^ 26 ^^^ a / 2 ^ (40 - n) * 2 ^ 23 ^^^ a / 2 ^ (40 - n) * 2 ^ 17 ^^^ a / 2 ^ (40 - n) * 2 ^ 3 ^^^ a / 2 ^ (40 - n)
theorem raise_lin (n : Nat) : Lin fun a => raise a n := by
  have hs := lin_shr (40 - n)
  exact ((((Lin.comp (lin_mod 40) (lin_shl n)).xor (Lin.comp (lin_shl 26) hs)).xor (Lin.comp (lin_shl 23) hs)).xor (Lin.comp (lin_shl 17) hs)).xor (Lin.comp (lin_shl 3) hs) |>.xor hs
theorem raise_1 {a : Nat} (h : a < 1099511627776) : raise a 1 = T a :=
  basis (raise_lin 1) T_lin 40 (by decide +kernel) a h
theorem raise_8 {a : Nat} (h : a < 1099511627776) : raise a 8 = Tn 8 a :=
  basis (raise_lin 8) (Tn_lin 8) 40 (by decide +kernel) a h

/-- 'multiply', k bits of the second number -/
def mulK : Nat → Nat → Nat → Nat
  | 0, _, _ => 0
  | k + 1, a, b => (if b.testBit 0 then a else 0) ^^^ mulK k (T a) (b / 2)
theorem mulK_lin2 : ∀ k a, Lin (mulK k a)
  | 0, _ => fun _ _ => by simp [mulK]
  | k + 1, a => Lin.xor (lin_bit 0 a) (Lin.comp (mulK_lin2 k (T a)) (by have := lin_shr 1; rw [Nat.pow_one] at this; exact this))
theorem mulK_lin1 : ∀ k b, Lin fun a => mulK k a b
  | 0, _ => fun _ _ => by simp [mulK]
  | k + 1, b => Lin.xor (f := fun a => if b.testBit 0 then a else 0) (fun a c => by
      show (if b.testBit 0 then a ^^^ c else 0) = (if b.testBit 0 then a else 0) ^^^ (if b.testBit 0 then c else 0)
      cases b.testBit 0 <;> simp) (Lin.comp (mulK_lin1 k (b / 2)) T_lin)
theorem mulK_zero : ∀ k a, mulK k a 0 = 0 := fun k a => (mulK_lin2 k a).zero
theorem mulK_pow : ∀ (k a i : Nat), i < k → mulK k a (2 ^ i) = Tn i a
  | 0, _, i, h => absurd h (by omega)
  | k + 1, a, 0, _ => by
    show (if Nat.testBit 1 0 then a else 0) ^^^ mulK k (T a) (1 / 2) = a
    rw [show 1 / 2 = 0 from rfl, mulK_zero]; simp
  | k + 1, a, i + 1, h => by
    show (if Nat.testBit (2 ^ (i + 1)) 0 then a else 0) ^^^ mulK k (T a) (2 ^ (i + 1) / 2) = Tn (i + 1) a
    have e : 2 ^ (i + 1) / 2 = 2 ^ i := by rw [Nat.pow_succ]; omega
    rw [e, mulK_pow k (T a) i (by omega)]
    have : Nat.testBit (2 ^ (i + 1)) 0 = false := by rw [Nat.testBit_two_pow]; simp
    rw [this, show i + 1 = i + 1 from rfl, Tn_add i 1 a]
    simp [Tn]
theorem mulK_T {a b : Nat} (ha : a < 1099511627776) (hb : b < 1099511627776) : mulK 40 a (T b) = T (mulK 40 a b) := by
  refine basis (f := fun b => mulK 40 a (T b)) (g := fun b => T (mulK 40 a b)) (Lin.comp (mulK_lin2 40 a) T_lin) (Lin.comp T_lin (mulK_lin2 40 a)) 40 ?_ b hb
  intro i hi
  show mulK 40 a (T (2 ^ i)) = T (mulK 40 a (2 ^ i))
  rw [mulK_pow 40 a i hi]
  rcases Nat.lt_or_ge i 39 with h | h
  · have e : T (2 ^ i) = 2 ^ (i + 1) := by
      have : ∀ i, i < 39 → T (2 ^ i) = 2 ^ (i + 1) := by decide +kernel
      exact this i h
    rw [e, mulK_pow 40 a (i + 1) (by omega)]
    rfl
  · obtain rfl : i = 39 := by omega
    show _ = Tn 40 a
    exact basis (f := fun a => mulK 40 a (T (2 ^ 39))) (g := Tn 40) (mulK_lin1 40 _) (Tn_lin 40) 40 (by decide +kernel) a ha
theorem mulK_Tn {a : Nat} (ha : a < 1099511627776) : ∀ n, mulK 40 a (Tn n 1) = Tn n a
  | 0 => mulK_pow 40 a 0 (by decide)
  | n + 1 => by
    show mulK 40 a (T (Tn n 1)) = T (Tn n a)
    rw [mulK_T ha (Tn_lt n (by decide)), mulK_Tn ha n]

/-- the register behind some bytes -/
def reg : Nat → List UInt8 → Nat
  | r, [] => r
  | r, c :: l => reg (Tn 8 (r ^^^ c.toNat * 4294967296)) l
theorem reg_append (r : Nat) (a b : List UInt8) : reg r (a ++ b) = reg (reg r a) b := by
  induction a generalizing r with
  | nil => rfl
  | cons c a ih => exact ih _
theorem byte_lt (c : UInt8) : c.toNat * 4294967296 < 1099511627776 := by have := c.toNat_lt; omega
theorem reg_lt {r : Nat} (h : r < 1099511627776) (l : List UInt8) : reg r l < 1099511627776 := by
  induction l generalizing r with
  | nil => exact h
  | cons c l ih => exact ih (Tn_lt 8 (Nat.xor_lt_two_pow (n := 40) h (byte_lt c)))
theorem reg_xor (a b : Nat) (l : List UInt8) : reg (a ^^^ b) l = Tn (8 * l.length) a ^^^ reg b l := by
  induction l generalizing a b with
  | nil => rfl
  | cons c l ih =>
    show reg (Tn 8 (a ^^^ b ^^^ c.toNat * 4294967296)) l = Tn (8 * (l.length + 1)) a ^^^ reg (Tn 8 (b ^^^ c.toNat * 4294967296)) l
    rw [Nat.xor_assoc, Tn_lin 8, ih, Nat.mul_add, Tn_add]
def FULL : Nat := 1099511627775
/-- the check -/
def crc (l : List UInt8) : Nat := reg FULL l ^^^ FULL
/-- two checks joined -/
def join (a b n : Nat) : Nat := Tn (8 * n) (a % 1099511627776) ^^^ b % 1099511627776
theorem crc_lt (l : List UInt8) : crc l < 1099511627776 := Nat.xor_lt_two_pow (n := 40) (reg_lt (by decide) l) (by decide)
theorem join_crc (a b : List UInt8) : join (crc a) (crc b) b.length = crc (a ++ b) := by
  have h1 : Tn (8 * b.length) (crc a) = Tn (8 * b.length) (reg FULL a) ^^^ Tn (8 * b.length) FULL := Tn_lin _ _ _
  have h2 : reg FULL b = Tn (8 * b.length) FULL ^^^ reg 0 b := by have := reg_xor FULL 0 b; rw [Nat.xor_zero] at this; exact this
  have h3 : reg (reg FULL a) b = Tn (8 * b.length) (reg FULL a) ^^^ reg 0 b := by have := reg_xor (reg FULL a) 0 b; rw [Nat.xor_zero] at this; exact this
  unfold join
  rw [Nat.mod_eq_of_lt (crc_lt a), Nat.mod_eq_of_lt (crc_lt b), h1]
  unfold crc
  rw [reg_append, h2, h3]
  generalize Tn (8 * b.length) (reg FULL a) = x
  generalize Tn (8 * b.length) FULL = y
  generalize reg 0 b = z
  have e : y ^^^ (y ^^^ (z ^^^ FULL)) = z ^^^ FULL := by rw [← Nat.xor_assoc, Nat.xor_self, Nat.zero_xor]
  rw [Nat.xor_assoc x y, Nat.xor_assoc y z, e, Nat.xor_assoc]

/-- the specification's step -/
def sstep (r b : Nat) : Nat := T (r ^^^ b * 549755813888)
end Go.Proofs.YtlmbacacjcbdjaaDoor.hp
