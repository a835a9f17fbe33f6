/- Bursts: a change of some bits within 40 changes the check: plain facts; no program here. -/
import Derived.Test.YtgcnkdpfdmgpoaaDoorHx

namespace Go.Proofs.YtgcnkdpfdmgpoaaDoor.hbu

open hp

theorem T_zero {a : Nat} (h : a < 1099511627776) (h0 : T a = 0) : a = 0 := by
  have hb : (T a).testBit 0 = a.testBit 39 := by
    unfold T
    rw [Nat.testBit_xor]
    have h1 : (2 * a % 1099511627776).testBit 0 = false := by
      rw [Nat.testBit_zero]
      simp
    rw [h1]
    cases a.testBit 39 <;> decide
  rw [h0] at hb
  have ht : a.testBit 39 = false := by rw [← hb]; simp
  have h2 : T a = 2 * a % 1099511627776 := by
    unfold T
    rw [ht]
    simp
  rw [h0] at h2
  have h3 : a < 549755813888 := by
    rcases Nat.lt_or_ge a 549755813888 with h' | h'
    · exact h'
    · exfalso
      have : a.testBit 39 = true := by
        rw [Nat.testBit_eq_decide_div_mod_eq]
        simp
        omega
      rw [ht] at this
      cases this
  omega
theorem Tn_zero_iff {a : Nat} (h : a < 1099511627776) : ∀ n, Tn n a = 0 → a = 0
  | 0, h0 => h0
  | n + 1, h0 => Tn_zero_iff h n (T_zero (Tn_lt n h) h0)

/-- one byte changed -/
theorem reg_set : ∀ (l : List UInt8) (i : Nat) (c m : UInt8) (r : Nat), l[i]? = some c → reg r (l.set i (c ^^^ m)) = reg r l ^^^ Tn (8 * (l.length - i)) (m.toNat * 4294967296)
  | [], i, c, m, r, h => by simp at h
  | d :: l, 0, c, m, r, h => by
    simp at h
    subst h
    show reg (Tn 8 (r ^^^ (d ^^^ m).toNat * 4294967296)) l = reg (Tn 8 (r ^^^ d.toNat * 4294967296)) l ^^^ Tn (8 * (l.length + 1)) (m.toNat * 4294967296)
    have e : r ^^^ (d ^^^ m).toNat * 4294967296 = m.toNat * 4294967296 ^^^ (r ^^^ d.toNat * 4294967296) := by
      rw [UInt8.toNat_xor, show (4294967296 : Nat) = 2 ^ 32 from rfl, xor_shl, ← Nat.xor_assoc, Nat.xor_comm]
    rw [e, Tn_lin 8, reg_xor, Nat.xor_comm, Nat.mul_add, Tn_add]
  | d :: l, i + 1, c, m, r, h => by
    have := reg_set l i c m (Tn 8 (r ^^^ d.toNat * 4294967296)) (by simpa using h)
    show reg (Tn 8 (r ^^^ d.toNat * 4294967296)) (l.set i (c ^^^ m)) = reg (Tn 8 (r ^^^ d.toNat * 4294967296)) l ^^^ Tn (8 * (l.length + 1 - (i + 1))) (m.toNat * 4294967296)
    rw [this, Nat.add_sub_add_right]

/-- the mask of bit j of a byte -/
def mask (j : Nat) : UInt8 := UInt8.ofNat (2 ^ (7 - j))
theorem mask_val : ∀ j, j < 8 → (mask j).toNat = 2 ^ (7 - j) := by decide
theorem mask_top : ∀ j, j < 8 → (mask j).toNat * 4294967296 = 2 ^ (39 - j) := by decide +kernel
/-- bit k of the burst, at its place -/
theorem burst_bit {L first k : Nat} (hk : k < 40) (hn : first + k < 8 * L) :
    Tn (8 * (L - (first + k) / 8)) ((mask ((first + k) % 8)).toNat * 4294967296) = Tn (8 * L - first) (2 ^ (39 - k)) := by
  have hj : (first + k) % 8 < 8 := Nat.mod_lt _ (by decide)
  rw [mask_top _ hj]
  have e1 : 8 * (L - (first + k) / 8) = (8 * L - (first + k)) + (first + k) % 8 := by omega
  have e2 : 8 * L - first = (8 * L - (first + k)) + k := by omega
  rw [e1, e2, Tn_add, Tn_add, Tn_pow (39 - (first + k) % 8) ((first + k) % 8) (by omega), Tn_pow (39 - k) k (by omega)]
  congr 2
  omega

/-- what the burst has changed so far: V; whether it has changed anything: s -/
structure Burst (first : Nat) (l o : List UInt8) (k V : Nat) (s : Bool) : Prop where
  len : o.length = l.length
  reg : reg FULL o = reg FULL l ^^^ Tn (8 * l.length - first) V
  low : ∀ i, i < 40 - k → V.testBit i = false
  lt : V < 1099511627776
  any : s = decide (V ≠ 0)
theorem burst_zero (first : Nat) (l : List UInt8) : Burst first l l 0 0 false :=
  ⟨rfl, by rw [Tn_zero, Nat.xor_zero], fun i _ => by simp, by decide, by decide⟩
theorem Burst.skip {first : Nat} {l o : List UInt8} {k V : Nat} {s : Bool} (h : Burst first l o k V s) : Burst first l o (k + 1) V s :=
  ⟨h.len, h.reg, fun i hi => h.low i (by omega), h.lt, h.any⟩
theorem Burst.flip {first : Nat} {l o : List UInt8} {k V : Nat} {s : Bool} {c : UInt8} (h : Burst first l o k V s) (hk : k < 40) (hn : first + k < 8 * l.length) (hc : o[(first + k) / 8]? = some c) :
    Burst first l (o.set ((first + k) / 8) (c ^^^ mask ((first + k) % 8))) (k + 1) (V ^^^ 2 ^ (39 - k)) true := by
  have hp : 2 ^ (39 - k) < 2 ^ 40 := Nat.pow_lt_pow_right (by decide) (by omega)
  have hbit : (V ^^^ 2 ^ (39 - k)).testBit (39 - k) = true := by
    rw [Nat.testBit_xor, h.low (39 - k) (by omega), Nat.testBit_two_pow_self]
    rfl
  refine ⟨by rw [List.length_set]; exact h.len, ?_, fun i hi => ?_, Nat.xor_lt_two_pow (n := 40) h.lt hp, ?_⟩
  · rw [reg_set o _ c _ _ hc, h.reg, h.len, burst_bit hk hn, Tn_lin, Nat.xor_assoc]
  · rw [Nat.testBit_xor, h.low i (by omega), Nat.testBit_two_pow, decide_eq_false (by omega)]
    rfl
  · symm
    rw [decide_eq_true_iff]
    intro h0
    rw [h0] at hbit
    simp at hbit
theorem Burst.crc {first : Nat} {l o : List UInt8} {k V : Nat} {s : Bool} (h : Burst first l o k V s) : (hp.crc l == hp.crc o) = !s := by
  have e : hp.crc o = hp.crc l ^^^ Tn (8 * l.length - first) V := by
    unfold hp.crc
    rw [h.reg, Nat.xor_assoc, Nat.xor_assoc, Nat.xor_comm FULL]
  rw [e, h.any]
  by_cases hV : V = 0
  · subst hV
    rw [Tn_zero, Nat.xor_zero]
    simp
  · have hne : Tn (8 * l.length - first) V ≠ 0 := fun h0 => hV (Tn_zero_iff h.lt _ h0)
    rw [decide_eq_true hV, Bool.not_true, beq_eq_false_iff_ne]
    intro h1
    apply hne
    have h2 : hp.crc l ^^^ hp.crc l = hp.crc l ^^^ (hp.crc l ^^^ Tn (8 * l.length - first) V) := by rw [← h1]
    rw [Nat.xor_self, ← Nat.xor_assoc, Nat.xor_self, Nat.zero_xor] at h2
    exact h2.symm
end Go.Proofs.YtgcnkdpfdmgpoaaDoor.hbu
