/- Joined: Pk1 Pk Pl. -/
import Derived.Test.YteeianandjokaaaG9

import Derived.Lib.Mul64

import Derived.Laws.Bits64b

import Derived.Laws.CopyOwn
/- Repeat (as in code). -/
namespace Go.Proofs.Yteeianandjokaaa.uk

open Go.ChangeShapes Go.WideShapes Go.ChangeAt Go.RowKit

open Go.Proofs.Yteeianandjokaaa.cq Go.Proofs.Yteeianandjokaaa.vk Go.Proofs.Yteeianandjokaaa.bk Go.Proofs.Yteeianandjokaaa.wk

set_option linter.unusedVariables false
def RowK (w : World) (g : Nat) (l : List Int) : Prop := w.heap[g]? = some (.cells (iv l).toArray 3 (0, 0))
theorem RowK.lt {w : World} {g : Nat} {l : List Int} (h : RowK w g l) : g < w.heap.size := (Array.getElem?_eq_some_iff.1 h).1
theorem RowK.at {w w' : World} {g : Nat} {l : List Int} (h : RowK w g l) (e : w'.heap[g]? = w.heap[g]?) : RowK w' g l := e.trans h
theorem RowK.below {w w' : World} {g : Nat} {l : List Int} (h : RowK w g l) (hb : Below w.heap.size w w') : RowK w' g l := h.at (hb.block g h.lt)
theorem RowK.cell {w : World} {g i : Nat} {l : List Int} {x : Int} (h : RowK w g l) (hx : l[i]? = some x) : w.cell? ⟨g, i, none⟩ = some (.int .i64 x) := by
  rw [cell_of_row _ _ _ _ _ _ h]
  simp [iv, hx]
theorem RowK.frozen {w : World} {g i : Nat} {l : List Int} (h : RowK w g l) : w.frozen? ⟨g, i, none⟩ = false := frozen_of_row _ _ _ _ _ h
theorem RowK.isI {w : World} {g n c : Nat} {l : List Int} (h : RowK w g l) (hl : l.length = n) (hc : n ≤ c) (hm : c ≤ 9223372036854775807) (hb : ∀ x ∈ l, I64 x) : wo.IsI w (some ⟨g, 0, none⟩) n c l :=
  ⟨hl, hc, hm, fun _ => ⟨g, 0, rfl, h.lt, fun j u hu => by rw [cell_of_row _ _ _ _ _ _ h]; simpa using hu⟩, hb⟩
namespace M64
theorem maskN (a : Nat) (ha : a < 18446744073709551616) : bits .and .u64 (a : Int) 4294967295 = ((a % 4294967296 : Nat) : Int) := by
  have h := bits_and_u64_nat a 4294967295 ha (by omega)
  have e : a &&& 4294967295 = a % 4294967296 := Nat.and_two_pow_sub_one_eq_mod a 32
  rw [e] at h
  exact h
theorem divN (a : Nat) : (a : Int) / 4294967296 = ((a / 4294967296 : Nat) : Int) := by omega
theorem mulN (a b : Nat) : (a : Int) * (b : Int) = ((a * b : Nat) : Int) := (Int.natCast_mul a b).symm
theorem addN (a b : Nat) : (a : Int) + (b : Int) = ((a + b : Nat) : Int) := (Int.natCast_add a b).symm
theorem wrapN (a : Nat) (ha : a < 18446744073709551616) : IntKind.u64.wrap (a : Int) = (a : Int) := by rw [IntKind.wrap_u64]; omega
theorem wrapM (a : Nat) : IntKind.u64.wrap (a : Int) = ((a % 18446744073709551616 : Nat) : Int) := by rw [IntKind.wrap_u64]; omega
end M64
set_option maxHeartbeats 1000000 in
theorem mul64_calls (x y : Nat) (hx : x < 18446744073709551616) (hy : y < 18446744073709551616) (w : World) :
    Calls Try.prog 106 #[.int .u64 x, .int .u64 y] w fun e w' => e = .returned (.tuple #[.int .u64 ((x * y / 18446744073709551616 : Nat) : Int), .int .u64 ((x * y % 18446744073709551616 : Nat) : Int)]) ∧ w' = w := by
  obtain ⟨bd, bt, bw, hhi⟩ := Lib.mul64_hi x y hx hy
  have ba := Lib.half_mul_le (a := x / 4294967296) (b := y / 4294967296) (by omega) (by omega)
  have bb := Lib.half_mul_le (a := x / 4294967296) (b := y % 4294967296) (by omega) (by omega)
  have bc := Lib.half_mul_le (a := x % 4294967296) (b := y / 4294967296) (by omega) (by omega)
  have ba' : x / 4294967296 * (y / 4294967296) < 18446744073709551616 := by omega
  have bb' : x / 4294967296 * (y % 4294967296) < 18446744073709551616 := by omega
  have bc' : x % 4294967296 * (y / 4294967296) < 18446744073709551616 := by omega
  have bh1 : x / 4294967296 * (y / 4294967296) + (x / 4294967296 * (y % 4294967296) + x % 4294967296 * (y % 4294967296) / 4294967296) / 4294967296 < 18446744073709551616 := by omega
  have bh : x / 4294967296 * (y / 4294967296) + (x / 4294967296 * (y % 4294967296) + x % 4294967296 * (y % 4294967296) / 4294967296) / 4294967296 + ((x / 4294967296 * (y % 4294967296) + x % 4294967296 * (y % 4294967296) / 4294967296) % 4294967296 + x % 4294967296 * (y / 4294967296)) / 4294967296 < 18446744073709551616 := by omega
  go_enter Try.func106, Try.ntmps106
  go_wp2
  simp only [M64.maskN x hx, M64.maskN y hy, M64.divN, M64.mulN, M64.addN, M64.wrapN _ bd, M64.wrapN _ bb', M64.wrapN _ bt, M64.maskN _ bt, M64.wrapN _ bc', M64.wrapN _ bw, M64.wrapN _ ba', M64.wrapN _ bh1, M64.wrapN _ bh, M64.wrapM (x * y)]
  rw [hhi]
  go_ret2
  exact ⟨rfl, rfl⟩
theorem mul_calls (n : Nat) (hn : n ≤ 4096) (w : World) :
    Calls Try.prog 79 #[.int .u64 1, .int .u64 n] w fun e w' => e = .returned (.tuple #[.int .u64 0, .int .u64 n]) ∧ w' = w := by
  have h := mul64_calls 1 n (by omega) (by omega)
  rw [show 1 * n / 18446744073709551616 = 0 by omega, show 1 * n % 18446744073709551616 = n by omega] at h
  have H := Lib.hid h
  clear h
  go_enter Try.func79, Try.ntmps79
  go_wp2_with fail
  refine (H.out _).mono ?_
  rintro e w' ⟨rfl, rfl⟩
  go_wp2_with fail
  go_ret2
  exact ⟨rfl, rfl⟩
theorem made_int (n : Nat) : madeCells (Value.int .i64 0).cells n = (List.replicate n (Value.int .i64 0)).toArray := by
  unfold madeCells
  refine Array.ext_getElem? fun i => ?_
  rw [Array.getElem?_map, Array.getElem?_range]
  simp only [List.getElem?_toArray, List.getElem?_replicate]
  split
  · simp [Value.cells, Nat.mod_one]
  · rfl
section

variable {P : Program} {Q : Exit → Act → World → Prop}
theorem does_copy_t {o : Oper} {E : Operand → Value} {w : World} {R : World → Value → Prop} (d s : Operand) (dT sT : TypeId) (ho : o.op = .call { callee := .builtin .copy, args := #[d, s], argTypes := #[dT, sT] }) (elem : TypeId) (hu : P.underlying dT = some (.slice elem)) (hsz : (P.info? elem).map (·.size) = some 1)
    (g off dLen dCap : Nat) (ad : Addr) (sLen sCap : Nat) (hd : E d = .slice (some ⟨g, off, none⟩) dLen dCap) (hs : E s = .slice (some ad) sLen sCap) (cur : List Value) (t : TypeId) (hg : w.heap[g]? = some (.cells cur.toArray t (0, 0))) (cs : List Value) (hn : cs.length = Nat.min sLen dLen)
    (hsrc : ∀ j v, cs[j]? = some v → w.cell? (ad.add j) = some v) (hfit : off + cs.length ≤ cur.length) (h1 : ∀ v ∈ cs, v.oneCell' = true) (hR : R (w.setRow g (splice cur off cs).toArray) (goInt cs.length)) : DoesT P Q o E w R := by
  have hrun := run_copy_row (P := P) w dT sT o.type elem g off dLen dCap ad sLen sCap cur.toArray t cs hu hsz hg hn hsrc (by simpa using hfit) h1
  refine does_new_t (v := goInt cs.length) (w' := w.setRow g (splice cur off cs).toArray) ?_ hR
  unfold execOp
  simp only [ho, resolve, invoke, builtin, Sem.run_bind, Sem.run_pure, Result.andThen_ok, List.map_toArray, List.map_cons, List.map_nil, hd, hs, hrun]
  simp [splice]
end
def half (n p : Nat) (x : Int) : List Int := List.replicate p x ++ List.replicate (n - p) 0
theorem half_len {n p : Nat} {x : Int} (h : p ≤ n) : (half n p x).length = n := by simp [half]; omega
theorem half_end {n : Nat} {x : Int} : half n n x = List.replicate n x := by simp [half]
theorem half_splice {n p k : Nat} {x : Int} (h : p + k ≤ n) : splice (iv (half n p x)) p (iv (List.replicate k x)) = iv (half n (p + k) x) := by
  unfold splice half iv
  simp only [List.map_append, List.map_replicate, List.length_replicate]
  rw [List.take_append_of_le_length (by simp), List.take_of_length_le (by simp), List.drop_append, List.drop_of_length_le (by simp), List.nil_append, List.drop_replicate]
  rw [← List.append_assoc, List.replicate_append_replicate]
  congr 2
  simp
  omega
theorem infoI1 : (Try.prog.info? 3).map (·.size) = some 1 := by kernel_rfl
theorem run_low (g p n : Nat) (h : p < n) (w' : World) : (Instr.slice 23 (.slice (some ⟨g, 0, none⟩) n n) (some (.int .i64 p)) none none).run Try.prog w' = .ok (.slice (some ⟨g, p, none⟩) (n - p) (n - p)) w' := by
  have ht : Try.prog.underlying 23 = some (.slice (Try.prog.elem 23)) := by simp [Program.elem, Try.underlying23]
  have he : Try.prog.elem 23 = 3 := by simp [Program.elem, Try.underlying23]
  rw [run_slice_l w' 23 _ n n ht .i64 p (by omega) (by omega), he, wk.run_sizeOf w' 3 1 infoI1]
  simp only [Result.andThen, sliced, Int.toNat_natCast]
  rw [if_neg (by omega)]
  simp [wk.add_at]
theorem run_high (g p n : Nat) (h : p ≤ n) (h1 : 1 ≤ n) (w' : World) : (Instr.slice 23 (.slice (some ⟨g, 0, none⟩) n n) none (some (.int .i64 p)) none).run Try.prog w' = .ok (.slice (some ⟨g, 0, none⟩) p n) w' := by
  have ht : Try.prog.underlying 23 = some (.slice (Try.prog.elem 23)) := by simp [Program.elem, Try.underlying23]
  have he : Try.prog.elem 23 = 3 := by simp [Program.elem, Try.underlying23]
  rw [run_slice_h w' 23 _ n n ht .i64 p (by omega) (by omega), he, wk.run_sizeOf w' 3 1 infoI1]
  simp only [Result.andThen, sliced, Int.toNat_natCast]
  rw [if_neg (by omega)]
  simp [wk.add_at]
set_option maxRecDepth 100000 in
set_option maxHeartbeats 4000000 in
theorem repeat_calls (b : Nat) (x : Int) (n : Nat) (w : World) (h : w.cell? ⟨b, 0, none⟩ = some (.int .i64 x)) (h1 : 1 ≤ n) (hn : n ≤ 4096) :
    Calls Try.prog 43 #[.slice (some ⟨b, 0, none⟩) 1 1, .int .i64 n] w fun e w' => e = .returned (.slice (some ⟨w.heap.size, 0, none⟩) n n) ∧ RowK w' w.heap.size (List.replicate n x) ∧ Below w.heap.size w w' := by
  obtain ⟨i0, hi9, hz0, hz1, hz2⟩ := info_parts infoIz
  have hnI : (i0.bytes : Nat) * n ≤ 281474976710656 := by rw [hz2]; omega
  have hMU := fun w => mul_calls n hn w
  have HMU := Lib.hid hMU
  have hblt : b < w.heap.size := block_lt_of_cell h
  have HC := Lib.hid h
  have hmk := run_make (P := Try.prog) w 23 3 i0 (.int .i64 0) Try.underlying23 hi9 hz0 .i64 .i64 n n (by omega) (Int.le_refl _) (by omega) (by omega)
  rw [Int.toNat_natCast, hz1, Nat.mul_one, made_int] at hmk
  have hb0 := below_new w (.cells (iv (half n 0 x)).toArray 3)
  have hg0 : RowK (w.alloc (.cells (iv (half n 0 x)).toArray 3)) w.heap.size (half n 0 x) := heap_alloc_new w _
  have hc0 := (hb0.cell (p := ⟨b, 0, none⟩) hblt).trans h
  rw [show (List.replicate n (Value.int .i64 0)) = iv (half n 0 x) by simp [iv, half]] at hmk
  have hg1 : (w.alloc (.cells (iv (half n 0 x)).toArray 3)).heap[w.heap.size]? = some (.cells (iv (half n 0 x)).toArray 3 (0, 0)) := hg0
  generalize hwA : w.alloc (.cells (iv (half n 0 x)).toArray 3) = wA at *
  have hSP := half_splice (n := n) (p := 0) (k := 1) (x := x) (by omega)
  obtain ⟨X0, hX0⟩ : ∃ X, X = iv (half n 0 x) := ⟨_, rfl⟩
  obtain ⟨C1, hC1⟩ : ∃ X, X = iv (List.replicate 1 x) := ⟨_, rfl⟩
  rw [← hX0] at hg1 hSP
  rw [← hC1] at hSP
  have hX0l : X0.length = n := by rw [hX0]; simp [iv, half]
  have hC1l : C1.length = 1 := by rw [hC1]; simp [iv]
  have HCC : Hid (∀ j v, C1[j]? = some v → wA.cell? ((⟨b, 0, none⟩ : Addr).add j) = some v) := fun j v hv => by
    rw [hC1] at hv
    match j, hv with
    | 0, hv => simp [iv] at hv; subst hv; simpa [wk.add_at] using hc0
    | j + 1, hv => simp [iv] at hv
  have HC1o : Hid (∀ v ∈ C1, v.oneCell' = true) := fun v hv => by rw [hC1] at hv; simp [iv] at hv; subst hv; rfl
  have HX0 := Lib.hid hX0
  have HG1 := Lib.hid hg1
  have HSP := Lib.hid hSP
  have HB0 := Lib.hid hb0
  have hs0 : w.heap.size < wA.heap.size := by rw [← hwA, size_new]; omega
  clear hX0 hC1 hg0 hg1 hSP hb0 hwA h hc0
  generalize hG : w.heap.size = G at *
  have HGE := Lib.hid hG
  clear hG
  go_enter Try.func43, Try.ntmps43
  go_wp2_with fail
  refine (HMU.out _).mono ?_
  rintro e w' ⟨rfl, rfl⟩
  go_wp2_with (refine wpList_copy_splice rfl _ _ 23 23 rfl 3 Try.underlying23 infoI1 (some ⟨G, 0, none⟩) (some ⟨b, 0, none⟩) n n 1 1 rfl rfl G 0 X0 3 HG1.out C1 (by rw [hC1l]; show 1 = min 1 n; omega) (fun _ => ⟨rfl, _, rfl, HCC.out⟩) (by omega) HC1o.out G w' HB0.out (Nat.le_refl _) ?_)
  intro w2 HG2 hB2
  have hg2 : w2.heap[G]? = some (.cells (iv (half n 1 x)).toArray 3 (0, 0)) := by
    have := HG2.out
    rw [HSP.out, Nat.zero_add] at this
    exact this
  have HG3 := Lib.hid hg2
  have HB2 := Lib.hid hB2
  try rw [hC1l]
  clear hg2 hB2 HG2 HSP HX0 HCC HC1o HG1 hX0l hC1l hmk
  go_wp2_with fail
  go_loopg [8] (n - 1) (fun g u wr => ∃ p : Nat, p + g = n ∧ 1 ≤ p ∧ u = .int .i64 (p : Int) ∧ wr.heap[G]? = some (.cells (iv (half n p x)).toArray 3 (0, 0)) ∧ Below G w' wr)
  case atStart => exact ⟨1, by omega, by omega, rfl, HG3.out, HB2.out⟩
  case round =>
    obtain ⟨p, hp, hp1, rfl, hg, hbel⟩ := hrel
    have HP := Lib.hid hp
    have HBEL := Lib.hid hbel
    have HGR := Lib.hid hg
    have hpn : p ≤ n := by omega
    clear hp hbel
    by_cases hlt : p < n
    · obtain ⟨k, hk⟩ : ∃ k, k = Nat.min p (n - p) := ⟨_, rfl⟩
      have hk1 : k ≤ p := by rw [hk]; exact Nat.min_le_left _ _
      have hk2 : k ≤ n - p := by rw [hk]; exact Nat.min_le_right _ _
      have hk0 : 1 ≤ k := by rw [hk]; show 1 ≤ min p (n - p); omega
      have hSP := half_splice (n := n) (p := p) (k := k) (x := x) (by omega)
      obtain ⟨X1, hX1⟩ : ∃ X, X = iv (half n p x) := ⟨_, rfl⟩
      obtain ⟨C2, hC2⟩ : ∃ X, X = iv (List.replicate k x) := ⟨_, rfl⟩
      have HCC : Hid (∀ (w4 : World) (hg4 : w4.heap[G]? = some (.cells X1.toArray 3 (0, 0))) j v, C2[j]? = some v → w4.cell? ((⟨G, 0, none⟩ : Addr).add j) = some v) := fun w4 hg4 j v hv => by
        have hj : j < k := by have := (List.getElem?_eq_some_iff.1 hv).1; rw [hC2] at this; simpa [iv] using this
        rw [hC2] at hv
        have hv' : v = .int .i64 x := by simpa [iv, List.getElem?_replicate, hj] using hv.symm
        subst hv'
        rw [wk.add_at, Nat.zero_add, cell_of_row _ _ _ _ _ _ hg4, hX1]
        have : (half n p x)[j]? = some x := by
          unfold half
          rw [List.getElem?_append_left (by simp; omega), List.getElem?_replicate, if_pos (by omega)]
        simp [iv, this]
      have HC2o : Hid (∀ v ∈ C2, v.oneCell' = true) := fun v hv => by
        rw [hC2] at hv
        simp only [iv, List.mem_map] at hv
        obtain ⟨y, _, rfl⟩ := hv
        rfl
      have hC2l : C2.length = k := by rw [hC2]; simp [iv]
      have hX1l : X1.length = n := by rw [hX1]; simp [iv, half_len hpn]
      rw [← hX1] at hg hSP
      rw [← hC2] at hSP
      have HG5 := Lib.hid hg
      have HSP := Lib.hid hSP
      have HL1 := Lib.hid (run_low G p n hlt)
      have HL2 := Lib.hid (run_high G p n hpn h1)
      have HKM : Hid (k = Nat.min p (n - p)) := hk
      have hlt0 : (p : Int) < (n : Int) := by omega
      clear hX1 hC2 hg hSP hk
      go_wp2_with fail
      refine wk.region_lev2K 9 (fun _ i _ v => v = ([.int .i64 (p : Int), .slice (some ⟨G, 0, none⟩) n n, .int .i64 (p : Int), .slice (some ⟨G, p, none⟩) (n - p) (n - p), .slice (some ⟨G, 0, none⟩) n n, .int .i64 (p : Int), .slice (some ⟨G, 0, none⟩) p n, .int .i64 ((k : Nat) : Int), .int .i64 ((p : Int) + (k : Int))] : List Value).getD i undef) [some 38, some 39, some 40, some 41, some 42, some 43, some 44, some 45, some 46] (fun Lv u => u.heap[G]? = some (.cells (if Lv 7 = true then splice X1 p C2 else X1).toArray 3 (0, 0)) ∧ Below G w' u) ⟨HG5.out, HBEL.out.drew⟩ (by kernel_rfl) (by kernel_rfl) (by kernel_rfl) (by kernel_rfl) (by kernel_rfl) (by kernel_rfl) ?rstep ?rdone
      case rstep =>
        intro i o ho hi9 E Lv w4 hS4 hL hdeps DG hold
        have hi2 : i = 0 ∨ i = 1 ∨ i = 2 ∨ i = 3 ∨ i = 4 ∨ i = 5 ∨ i = 6 ∨ i = 7 ∨ i = 8 := by omega
        clear hi9
        rcases hi2 with rfl | rfl | rfl | rfl | rfl | rfl | rfl | rfl | rfl
        ·
          have ho2 := (Array.getElem?_eq_some_iff.1 ho).2
          simp only [List.getElem_toArray, List.getElem_cons_zero] at ho2
          subst ho2
          clear ho
          have e8 : E (.tmp 8) = .int .i64 (p : Int) := (hold 8 (by kernel_rfl)).trans rfl
          refine wk.Does.weak (R := fun w9 x => x = .int .i64 (p : Int)) ?_ (fun w9 v hb hr => ⟨hr, fun j u _ _ hj => hj, (hb.block G (Array.getElem?_eq_some_iff.1 hS4.1).1).trans hS4.1, hS4.2.trans (hb.mono (by have := hS4.2.size; have := HGE.out; omega))⟩)
          exact wk.does_move rfl e8
        ·
          have ho2 := (Array.getElem?_eq_some_iff.1 ho).2
          simp only [List.getElem_toArray, List.getElem_cons_succ, List.getElem_cons_zero] at ho2
          subst ho2
          clear ho
          have e7 : E (.tmp 7) = .slice (some ⟨G, 0, none⟩) n n := (hold 7 (by kernel_rfl)).trans rfl
          refine wk.Does.weak (R := fun w9 x => x = .slice (some ⟨G, 0, none⟩) n n) ?_ (fun w9 v hb hr => ⟨hr, fun j u _ _ hj => hj, (hb.block G (Array.getElem?_eq_some_iff.1 hS4.1).1).trans hS4.1, hS4.2.trans (hb.mono (by have := hS4.2.size; have := HGE.out; omega))⟩)
          exact wk.does_move rfl e7
        ·
          have ho2 := (Array.getElem?_eq_some_iff.1 ho).2
          simp only [List.getElem_toArray, List.getElem_cons_succ, List.getElem_cons_zero] at ho2
          subst ho2
          clear ho
          have e8 : E (.tmp 8) = .int .i64 (p : Int) := (hold 8 (by kernel_rfl)).trans rfl
          refine wk.Does.weak (R := fun w9 x => x = .int .i64 (p : Int)) ?_ (fun w9 v hb hr => ⟨hr, fun j u _ _ hj => hj, (hb.block G (Array.getElem?_eq_some_iff.1 hS4.1).1).trans hS4.1, hS4.2.trans (hb.mono (by have := hS4.2.size; have := HGE.out; omega))⟩)
          exact wk.does_move rfl e8
        ·
          have ho2 := (Array.getElem?_eq_some_iff.1 ho).2
          simp only [List.getElem_toArray, List.getElem_cons_succ, List.getElem_cons_zero] at ho2
          subst ho2
          clear ho
          have e39 := DG.is { on := 1, ground := .data } (by simp) rfl 39 rfl
          replace e39 : E (.tmp 39) = .slice (some ⟨G, 0, none⟩) n n := e39
          have e40 := DG.is { on := 2, ground := .data } (by simp) rfl 40 rfl
          replace e40 : E (.tmp 40) = .int .i64 (p : Int) := e40
          refine wk.Does.weak (R := fun w9 x => x = .slice (some ⟨G, p, none⟩) (n - p) (n - p)) ?_ (fun w9 v hb hr => ⟨hr, fun j u _ _ hj => hj, (hb.block G (Array.getElem?_eq_some_iff.1 hS4.1).1).trans hS4.1, hS4.2.trans (hb.mono (by have := hS4.2.size; have := HGE.out; omega))⟩)
          exact wk.does_run (wk.op_slice rfl e39 (by simp only [Option.map_some]; rw [e40]) rfl rfl (HL1.out _)) rfl
        ·
          have ho2 := (Array.getElem?_eq_some_iff.1 ho).2
          simp only [List.getElem_toArray, List.getElem_cons_succ, List.getElem_cons_zero] at ho2
          subst ho2
          clear ho
          have e7 : E (.tmp 7) = .slice (some ⟨G, 0, none⟩) n n := (hold 7 (by kernel_rfl)).trans rfl
          refine wk.Does.weak (R := fun w9 x => x = .slice (some ⟨G, 0, none⟩) n n) ?_ (fun w9 v hb hr => ⟨hr, fun j u _ _ hj => hj, (hb.block G (Array.getElem?_eq_some_iff.1 hS4.1).1).trans hS4.1, hS4.2.trans (hb.mono (by have := hS4.2.size; have := HGE.out; omega))⟩)
          exact wk.does_move rfl e7
        ·
          have ho2 := (Array.getElem?_eq_some_iff.1 ho).2
          simp only [List.getElem_toArray, List.getElem_cons_succ, List.getElem_cons_zero] at ho2
          subst ho2
          clear ho
          have e8 : E (.tmp 8) = .int .i64 (p : Int) := (hold 8 (by kernel_rfl)).trans rfl
          refine wk.Does.weak (R := fun w9 x => x = .int .i64 (p : Int)) ?_ (fun w9 v hb hr => ⟨hr, fun j u _ _ hj => hj, (hb.block G (Array.getElem?_eq_some_iff.1 hS4.1).1).trans hS4.1, hS4.2.trans (hb.mono (by have := hS4.2.size; have := HGE.out; omega))⟩)
          exact wk.does_move rfl e8
        ·
          have ho2 := (Array.getElem?_eq_some_iff.1 ho).2
          simp only [List.getElem_toArray, List.getElem_cons_succ, List.getElem_cons_zero] at ho2
          subst ho2
          clear ho
          have e42 := DG.is { on := 4, ground := .data } (by simp) rfl 42 rfl
          replace e42 : E (.tmp 42) = .slice (some ⟨G, 0, none⟩) n n := e42
          have e43 := DG.is { on := 5, ground := .data } (by simp) rfl 43 rfl
          replace e43 : E (.tmp 43) = .int .i64 (p : Int) := e43
          refine wk.Does.weak (R := fun w9 x => x = .slice (some ⟨G, 0, none⟩) p n) ?_ (fun w9 v hb hr => ⟨hr, fun j u _ _ hj => hj, (hb.block G (Array.getElem?_eq_some_iff.1 hS4.1).1).trans hS4.1, hS4.2.trans (hb.mono (by have := hS4.2.size; have := HGE.out; omega))⟩)
          exact wk.does_run (wk.op_slice rfl e42 rfl (by simp only [Option.map_some]; rw [e43]) rfl (HL2.out _)) rfl
        ·
          have ho2 := (Array.getElem?_eq_some_iff.1 ho).2
          simp only [List.getElem_toArray, List.getElem_cons_succ, List.getElem_cons_zero] at ho2
          subst ho2
          clear ho
          have e41 := DG.is { on := 3, ground := .data } (by simp) rfl 41 rfl
          replace e41 : E (.tmp 41) = .slice (some ⟨G, p, none⟩) (n - p) (n - p) := e41
          have e44 := DG.is { on := 6, ground := .data } (by simp) rfl 44 rfl
          replace e44 : E (.tmp 44) = .slice (some ⟨G, 0, none⟩) p n := e44
          have hg4 := hS4.1
          rw [hL] at hg4
          refine does_copy_t (.tmp 41) (.tmp 44) 23 23 rfl 3 Try.underlying23 infoI1 G p (n - p) (n - p) ⟨G, 0, none⟩ p n e41 e44 X1 3 hg4 C2 (by rw [hC2l]; exact HKM.out) (fun j v hv => HCC.out w4 hg4 j v hv) (by omega) HC2o.out ?_
          refine ⟨by rw [hC2l]; rfl, fun j u _ _ hj => hj, ?_, below_setRow hS4.2 (Nat.le_refl _) _⟩
          exact setRow_heap w4 G _ _ 3 _ hg4
        ·
          have ho2 := (Array.getElem?_eq_some_iff.1 ho).2
          simp only [List.getElem_toArray, List.getElem_cons_succ, List.getElem_cons_zero] at ho2
          subst ho2
          clear ho
          have e38 := DG.is { on := 0, ground := .data } (by simp) rfl 38 rfl
          replace e38 : E (.tmp 38) = .int .i64 (p : Int) := e38
          have e45 := DG.is { on := 7, ground := .data } (by simp) rfl 45 rfl
          replace e45 : E (.tmp 45) = .int .i64 ((k : Nat) : Int) := e45
          refine wk.Does.weak (R := fun w9 x => x = .int .i64 ((p : Int) + (k : Int))) ?_ (fun w9 v hb hr => ⟨hr, fun j u _ _ hj => hj, (hb.block G (Array.getElem?_eq_some_iff.1 hS4.1).1).trans hS4.1, hS4.2.trans (hb.mono (by have := hS4.2.size; have := HGE.out; omega))⟩)
          have hw : IntKind.i64.wrap ((p : Int) + (k : Int)) = (p : Int) + (k : Int) := by rw [IntKind.wrap_i64]; omega
          exact wk.does_run (by simp only [execOp]; rw [show E (.tmp 38) = _ from e38, show E (.tmp 45) = _ from e45]; go_simp) rfl
      case rdone =>
        intro vals Lv w4 hall hS4 hv
        have h0 : vals 0 = .int .i64 (p : Int) := hv 0 (by omega)
        have h1 : vals 1 = .slice (some ⟨G, 0, none⟩) n n := hv 1 (by omega)
        have h2 : vals 2 = .int .i64 (p : Int) := hv 2 (by omega)
        have h3 : vals 3 = .slice (some ⟨G, p, none⟩) (n - p) (n - p) := hv 3 (by omega)
        have h4 : vals 4 = .slice (some ⟨G, 0, none⟩) n n := hv 4 (by omega)
        have h5 : vals 5 = .int .i64 (p : Int) := hv 5 (by omega)
        have h6 : vals 6 = .slice (some ⟨G, 0, none⟩) p n := hv 6 (by omega)
        have h7 : vals 7 = .int .i64 ((k : Nat) : Int) := hv 7 (by omega)
        have h8 : vals 8 = .int .i64 ((p : Int) + (k : Int)) := hv 8 (by omega)
        clear hv
        simp only [List.drop_succ_cons, List.drop_zero, wk.setL, List.setIfInBounds_toArray, List.set_cons_zero, List.set_cons_succ, Nat.zero_add, Nat.reduceAdd, h0, h1, h2, h3, h4, h5, h6, h7, h8]
        clear h0 h1 h2 h3 h4 h5 h6 h7 h8
        have hg4 := hS4.1
        rw [hall 7 (by omega), if_pos rfl, HSP.out] at hg4
        have HG6 := Lib.hid hg4
        have HB6 := Lib.hid hS4.2
        clear hg4 hS4 hall
        go_wp2_with fail
        go_roundg (gk - k)
        case measure => have := HP.out; omega
        case rel => exact ⟨p + k, by have := HP.out; omega, by omega, by go_num, HG6.out, HB6.out⟩
    · obtain rfl : p = n := by omega
      have hg' := HGR.out
      rw [half_end] at hg'
      have HGF := Lib.hid hg'
      clear hg hg'
      go_wp2_with fail
      go_ret
      exact ⟨rfl, HGF.out, by first | exact HBEL.out | (rw [HGE.out]; exact HBEL.out)⟩
end Go.Proofs.Yteeianandjokaaa.uk
/- Choose. -/
namespace Go.Proofs.Yteeianandjokaaa.pk

open Go.ChangeShapes Go.WideShapes Go.ChangeAt Go.RowKit

open Go.Proofs.Yteeianandjokaaa.pq Go.Proofs.Yteeianandjokaaa.cq Go.Proofs.Yteeianandjokaaa.vk Go.Proofs.Yteeianandjokaaa.bk Go.Proofs.Yteeianandjokaaa.wk Go.Proofs.Yteeianandjokaaa.uk

set_option linter.unusedVariables false
/-- a variable of one cell -/
def Cel (w : World) (g : Nat) (t : TypeId) (v : Value) : Prop := w.heap[g]? = some (.cells #[v] t (0, 0))
theorem Cel.lt {w : World} {g : Nat} {t : TypeId} {v : Value} (h : Cel w g t v) : g < w.heap.size := (Array.getElem?_eq_some_iff.1 h).1
theorem Cel.cell {w : World} {g : Nat} {t : TypeId} {v : Value} (h : Cel w g t v) : w.cell? ⟨g, 0, none⟩ = some v := by
  rw [cell_of_row _ _ _ _ _ _ h]; rfl
theorem Cel.at {w w' : World} {g : Nat} {t : TypeId} {v : Value} (h : Cel w g t v) (e : w'.heap[g]? = w.heap[g]?) : Cel w' g t v := e.trans h
theorem Cel.below {w w' : World} {g : Nat} {t : TypeId} {v : Value} (h : Cel w g t v) (hb : Below w.heap.size w w') : Cel w' g t v := h.at (hb.block g h.lt)
theorem Cel.new (w : World) (t : TypeId) (v : Value) : Cel (w.alloc (.cells #[v] t)) w.heap.size t v := heap_alloc_new w _
/-- one block may change, and new ones come -/
structure Kx (B g : Nat) (w w' : World) : Prop where
  below : Below B w w'
  other : ∀ k, k < w.heap.size → k ≠ g → w'.heap[k]? = w.heap[k]?
theorem Kx.refl (B g : Nat) (w : World) : Kx B g w w := ⟨Below.refl _ _, fun _ _ _ => rfl⟩
theorem Kx.trans {B g : Nat} {a b c : World} (h : Kx B g a b) (k : Kx B g b c) : Kx B g a c :=
  ⟨h.below.trans k.below, fun i hi hg => (k.other i (Nat.lt_of_lt_of_le hi h.below.size) hg).trans (h.other i hi hg)⟩
theorem Kx.of_below {B g : Nat} {w w' : World} (h : Below w.heap.size w w') (hB : B ≤ w.heap.size) : Kx B g w w' := ⟨h.mono hB, fun k hk _ => h.block k hk⟩
theorem Kx.of_set {B g i : Nat} {w : World} (v : Value) (hB : B ≤ g) : Kx B g w (w.setCell ⟨g, i, none⟩ v) :=
  ⟨(Below.refl B w).setCell (p := ⟨g, i, none⟩) hB v, fun k _ hk => Below.heap_setCell _ _ _ _ hk⟩
theorem Kx.grown {B g : Nat} {w w' : World} (h : Kx B g w w') : w.grownBy w' (some g) := ⟨h.below.os, h.below.tape, h.below.output, h.below.size, fun k hk hne => h.other k hk (fun e => hne (by rw [e]))⟩
theorem Cel.kx {B g k : Nat} {w w' : World} {t : TypeId} {v : Value} (h : Cel w k t v) (hk : Kx B g w w') (hne : k ≠ g) : Cel w' k t v := h.at (hk.other k h.lt hne)
theorem RowK.set {w : World} {g i : Nat} {l : List Int} (h : RowK w g l) (x : Int) : RowK (w.setCell ⟨g, i, none⟩ (.int .i64 x)) g (l.set i x) := by
  have h1 := heap_setCell_same w g i (iv l).toArray 3 (.int .i64 x) h
  unfold RowK
  rw [h1]
  simp [iv, List.map_set]
set_option maxRecDepth 100000 in
set_option maxHeartbeats 2000000 in
theorem choose1_calls {m x z : Int} {AL A7 : Option Addr} {n cL n7 c7 k d GR gN gK gL : Nat} {L : VV} {p v l : List Int} (w : World) (h1 : 1 ≤ m) (h3 : m ≤ 3) (hL : IsVV w AL n cL L) (hI : wo.IsI w A7 n7 c7 p) (hp : p.length = d ∧ vq.Vec p) (hv : v.length = d ∧ vq.Vec v) (hk : k < n) (hLk : L[k]? = some v)
    (hR : RowK w GR l) (hx : l[k]? = some x) (hz : min x (vq.key m p v) = z) (hN : Cel w gN 23 (.slice (some ⟨GR, 0, none⟩) n n)) (hKb : Cel w gK 76 (kfun m A7 n7 c7)) (hLb : Cel w gL 22 (.slice AL n cL)) (hNR : gN ≠ GR) (hn : n ≤ 4096) :
    Calls Try.prog 46 #[.int .i64 k, .pointer (some ⟨gN, 0, none⟩), .pointer (some ⟨gK, 0, none⟩), .pointer (some ⟨gL, 0, none⟩)] w fun e w' => e = .returned (.int .i64 z) ∧ ∃ w2, Below w.heap.size w w2 ∧ w' = w2.setCell ⟨GR, k, none⟩ (.int .i64 z) := by
  obtain ⟨b, o, A8, n8, c8, v', rfl, hb8, hc8, hI8, hv'⟩ := isVV_get hL hk
  rw [hLk] at hv'
  cases hv'
  have HCK := Lib.hid (fun w' (hb : Below w.heap.size w w') => ckey_calls w' h1 h3 (isI_below hI hb) (isI_below hI8 hb) hp hv)
  have hm := hL.2.2.1
  have hnc := hL.2.1
  have hlt0 : (k : Int) < (n : Int) := by omega
  have HX := Lib.hid hx
  have HZ := Lib.hid hz
  have HL7 : Hid (k < l.length) := (List.getElem?_eq_some_iff.1 hx).1
  generalize vq.key m p v = y at *
  clear hL hI hp hv hLk hI8 hz hx
  go_enter Try.func46, Try.ntmps46
  go_wp2_with fail
  refine wk.region_tailS 14 [.is (.slice (some ⟨GR, 0, none⟩) n n), .is (.int .i64 (k : Int)), .is (.slice (some ⟨GR, 0, none⟩) n n), .is (.int .i64 (k : Int)), .is (.pointer (some ⟨GR, k, none⟩)), .is (.int .i64 x), .is (kfun m A7 n7 c7), .is (.slice (some ⟨b, o, none⟩) n cL), .is (.int .i64 (k : Int)), .is (.pointer (some ⟨b, o + k, none⟩)), .is (.slice A8 n8 c8), .is (.int .i64 y), .is (.int .i64 z), .is (.pointer (some ⟨GR, k, none⟩))] [some 6, some 7, some 8, some 9, some 10, some 11, some 12, some 13, some 14, some 15, some 16, some 17, some 18, some 19] (by kernel_rfl) (by kernel_rfl) (by kernel_rfl) (by kernel_rfl) [] (by kernel_rfl) (by intro p hp; cases hp) (by kernel_rfl) (by kernel_rfl) ?hstep ?hdone
  case hstep =>
    intro i o ho hi hns E w4 hb4 D
    have hi2 : i = 0 ∨ i = 1 ∨ i = 2 ∨ i = 3 ∨ i = 4 ∨ i = 5 ∨ i = 6 ∨ i = 7 ∨ i = 8 ∨ i = 9 ∨ i = 10 ∨ i = 11 ∨ i = 12 ∨ i = 13 := by omega
    clear hi
    rcases hi2 with rfl | rfl | rfl | rfl | rfl | rfl | rfl | rfl | rfl | rfl | rfl | rfl | rfl | rfl
    ·
      have ho2 := (Array.getElem?_eq_some_iff.1 ho).2
      simp only [List.getElem_toArray, List.getElem_cons_zero] at ho2
      subst ho2
      clear ho
      have e1 := D.old 1 (by kernel_rfl)
      exact wk.does_load1 rfl (show E (.tmp 1) = .pointer (some ⟨gN, 0, none⟩) by rw [e1]; rfl) ((hN.below ((Below.refl _ _).drew.trans hb4)).cell) Try.underlying23 rfl rfl
    ·
      have ho2 := (Array.getElem?_eq_some_iff.1 ho).2
      simp only [List.getElem_toArray, List.getElem_cons_succ, List.getElem_cons_zero] at ho2
      subst ho2
      clear ho
      have e0 := D.old 0 (by kernel_rfl)
      exact wk.does_move rfl (by rw [e0]; rfl)
    ·
      have ho2 := (Array.getElem?_eq_some_iff.1 ho).2
      simp only [List.getElem_toArray, List.getElem_cons_succ, List.getElem_cons_zero] at ho2
      subst ho2
      clear ho
      have e1 := D.old 1 (by kernel_rfl)
      exact wk.does_load1 rfl (show E (.tmp 1) = .pointer (some ⟨gN, 0, none⟩) by rw [e1]; rfl) ((hN.below ((Below.refl _ _).drew.trans hb4)).cell) Try.underlying23 rfl rfl
    ·
      have ho2 := (Array.getElem?_eq_some_iff.1 ho).2
      simp only [List.getElem_toArray, List.getElem_cons_succ, List.getElem_cons_zero] at ho2
      subst ho2
      clear ho
      have e0 := D.old 0 (by kernel_rfl)
      exact wk.does_move rfl (by rw [e0]; rfl)
    ·
      have ho2 := (Array.getElem?_eq_some_iff.1 ho).2
      simp only [List.getElem_toArray, List.getElem_cons_succ, List.getElem_cons_zero] at ho2
      subst ho2
      clear ho
      have e8 := D.is { on := 2, ground := .data } (by simp) rfl rfl 8 rfl
      have e9 := D.is { on := 3, ground := .data } (by simp) rfl rfl 9 rfl
      exact wk.does_run (by simp only [execOp]; rw [show E (.tmp 8) = _ from e8, show E (.tmp 9) = _ from e9]; go_simp) rfl
    ·
      have ho2 := (Array.getElem?_eq_some_iff.1 ho).2
      simp only [List.getElem_toArray, List.getElem_cons_succ, List.getElem_cons_zero] at ho2
      subst ho2
      clear ho
      have e10 := D.is { on := 4, ground := .data } (by simp) rfl rfl 10 rfl
      exact wk.does_load1 rfl e10 ((hR.below ((Below.refl _ _).drew.trans hb4)).cell HX.out) Try.underlying3 rfl rfl
    ·
      have ho2 := (Array.getElem?_eq_some_iff.1 ho).2
      simp only [List.getElem_toArray, List.getElem_cons_succ, List.getElem_cons_zero] at ho2
      subst ho2
      clear ho
      have e2 := D.old 2 (by kernel_rfl)
      exact wk.does_load1 rfl (show E (.tmp 2) = .pointer (some ⟨gK, 0, none⟩) by rw [e2]; rfl) ((hKb.below ((Below.refl _ _).drew.trans hb4)).cell) Try.underlying76 rfl rfl
    ·
      have ho2 := (Array.getElem?_eq_some_iff.1 ho).2
      simp only [List.getElem_toArray, List.getElem_cons_succ, List.getElem_cons_zero] at ho2
      subst ho2
      clear ho
      have e3 := D.old 3 (by kernel_rfl)
      exact wk.does_load1 rfl (show E (.tmp 3) = .pointer (some ⟨gL, 0, none⟩) by rw [e3]; rfl) ((hLb.below ((Below.refl _ _).drew.trans hb4)).cell) Try.underlying22 rfl rfl
    ·
      have ho2 := (Array.getElem?_eq_some_iff.1 ho).2
      simp only [List.getElem_toArray, List.getElem_cons_succ, List.getElem_cons_zero] at ho2
      subst ho2
      clear ho
      have e0 := D.old 0 (by kernel_rfl)
      exact wk.does_move rfl (by rw [e0]; rfl)
    ·
      have ho2 := (Array.getElem?_eq_some_iff.1 ho).2
      simp only [List.getElem_toArray, List.getElem_cons_succ, List.getElem_cons_zero] at ho2
      subst ho2
      clear ho
      have e13 := D.is { on := 7, ground := .data } (by simp) rfl rfl 13 rfl
      have e14 := D.is { on := 8, ground := .data } (by simp) rfl rfl 14 rfl
      exact wk.does_run (by simp only [execOp]; rw [show E (.tmp 13) = _ from e13, show E (.tmp 14) = _ from e14]; go_simp) rfl
    ·
      have ho2 := (Array.getElem?_eq_some_iff.1 ho).2
      simp only [List.getElem_toArray, List.getElem_cons_succ, List.getElem_cons_zero] at ho2
      subst ho2
      clear ho
      have e15 := D.is { on := 9, ground := .data } (by simp) rfl rfl 15 rfl
      exact wk.does_load1 rfl e15 ((((Below.refl _ _).drew.trans hb4).cell (p := ⟨b, o + k, none⟩) hb8).trans hc8) Try.underlying23 rfl rfl
    ·
      have ho2 := (Array.getElem?_eq_some_iff.1 ho).2
      simp only [List.getElem_toArray, List.getElem_cons_succ, List.getElem_cons_zero] at ho2
      subst ho2
      clear ho
      have e12 := D.is { on := 6, ground := .data } (by simp) rfl rfl 12 rfl
      have e16 := D.is { on := 10, ground := .data } (by simp) rfl rfl 16 rfl
      refine wk.does_fnb (f := 44) (bs := #[.agg #[.int .i64 m, .slice A7 n7 c7]]) (vs := #[.agg #[.int .i64 m, .slice A7 n7 c7], .slice A8 n8 c8]) rfl (show E (.tmp 12) = _ from e12) (by simp [e16]) (by go_simp) ?_
      refine (HCK.out w4 ((Below.refl _ _).drew.trans hb4)).mono ?_
      rintro e w7 ⟨rfl, hb7⟩
      exact ⟨_, rfl, hb7, rfl⟩
    ·
      have ho2 := (Array.getElem?_eq_some_iff.1 ho).2
      simp only [List.getElem_toArray, List.getElem_cons_succ, List.getElem_cons_zero] at ho2
      subst ho2
      clear ho
      have e11 := D.is { on := 5, ground := .data } (by simp) rfl rfl 11 rfl
      have e17 := D.is { on := 11, ground := .data } (by simp) rfl rfl 17 rfl
      exact wk.does_run (v := .int .i64 z) (by unfold execOp; simp only [resolve, invoke, builtin, Sem.run_bind, Sem.run_pure, Result.andThen_ok, List.map_toArray, List.map_cons, List.map_nil]; rw [show E (.tmp 11) = _ from e11, show E (.tmp 17) = _ from e17]; go_simp; try rw [HZ.out]) rfl
    ·
      have ho2 := (Array.getElem?_eq_some_iff.1 ho).2
      simp only [List.getElem_toArray, List.getElem_cons_succ, List.getElem_cons_zero] at ho2
      subst ho2
      clear ho
      have e6 := D.is { on := 0, ground := .data } (by simp) rfl rfl 6 rfl
      have e7 := D.is { on := 1, ground := .data } (by simp) rfl rfl 7 rfl
      exact wk.does_run (by simp only [execOp]; rw [show E (.tmp 6) = _ from e6, show E (.tmp 7) = _ from e7]; go_simp) rfl
  case hdone =>
    intro vals w4 hb4 hv
    have h12 := hv 12 (by omega)
    have h13 := hv 13 (by omega)
    clear hv
    replace h12 : vals 12 = (.int .i64 z) := h12
    replace h13 : vals 13 = (.pointer (some ⟨GR, k, none⟩)) := h13
    simp only [List.drop_succ_cons, List.drop_zero, wk.setL, List.setIfInBounds_toArray, List.set_cons_zero, List.set_cons_succ, Nat.zero_add, Nat.reduceAdd, h12, h13]
    generalize vals 0 = x0
    generalize vals 1 = x1
    generalize vals 2 = x2
    generalize vals 3 = x3
    generalize vals 4 = x4
    generalize vals 5 = x5
    generalize vals 6 = x6
    generalize vals 7 = x7
    generalize vals 8 = x8
    generalize vals 9 = x9
    generalize vals 10 = x10
    generalize vals 11 = x11
    have hb5 : Below w.heap.size w w4 := (Below.refl _ _).drew.trans hb4
    have hN4 := hN.below hb5
    have hR4 := hR.below hb5
    have hf := hR4.frozen (i := k)
    have hcR := hR4.cell HX.out
    have hR5 := RowK.set (i := k) hR4 z
    have hN5 := hN4.at (Below.heap_setCell w4 (⟨GR, k, none⟩ : Addr) (.int .i64 z) gN hNR)
    have hcN5 := hN5.cell
    have hcR5 := hR5.cell (i := k) (x := z) (by rw [List.getElem?_set_self HL7.out])
    have HB5 := Lib.hid hb5
    clear hb4 hb5 hN4 hR4 hR5 hN5
    go_wp2_with fail
    go_ret
    exact ⟨rfl, w4, HB5.out, rfl⟩
end Go.Proofs.Yteeianandjokaaa.pk
/- Choose, walked. -/
namespace Go.Proofs.Yteeianandjokaaa.pk

open Go.ChangeShapes Go.WideShapes Go.ChangeAt Go.RowKit

open Go.Proofs.Yteeianandjokaaa.pq Go.Proofs.Yteeianandjokaaa.cq Go.Proofs.Yteeianandjokaaa.vk Go.Proofs.Yteeianandjokaaa.bk Go.Proofs.Yteeianandjokaaa.wk Go.Proofs.Yteeianandjokaaa.uk

set_option linter.unusedVariables false
def nl (m : Int) (L : VV) (pl : List Nat) : List Int := L.map fun v => ap m (pl.map fun k => L.getD k []) v
theorem nl_len (m : Int) (L : VV) (pl : List Nat) : (nl m L pl).length = L.length := by simp [nl]
theorem nl_at {m : Int} {L : VV} {k : Nat} {v : List Int} (pl : List Nat) (h : L[k]? = some v) : (nl m L pl)[k]? = some (ap m (pl.map fun k => L.getD k []) v) := by simp [nl, h]
theorem nl_nil (m : Int) (L : VV) : nl m L [] = List.replicate L.length 134217728 := by
  unfold nl
  induction L with
  | nil => rfl
  | cons x l ih => rw [List.map_cons, List.length_cons, List.replicate_succ, ← ih]; rfl
theorem af_at {m : Int} {L : VV} {k : Nat} {v : List Int} (pl : List Nat) (h : L[k]? = some v) : af m L pl k = ap m (pl.map fun k => L.getD k []) v := by
  unfold af; rw [getD_some h]
theorem ap_more {m : Int} {L : VV} {k : Nat} {p : List Int} (pl : List Nat) (h : L[k]? = some p) (v : List Int) : ap m ((pl ++ [k]).map fun k => L.getD k []) v = min (ap m (pl.map fun k => L.getD k []) v) (vq.key m p v) := by
  rw [List.map_append, List.map_cons, List.map_nil, ap_snoc, getD_some h]
def pz (pl : List Nat) : List Int := pl.map fun (k : Nat) => ((k : Nat) : Int)
set_option maxRecDepth 100000 in
set_option maxHeartbeats 4000000 in
theorem choose_bad {m most : Int} {AL : Option Addr} {n cL : Nat} {L : VV} (w : World) (h : IsVV w AL n cL L) (hk : cok' m L most = false) :
    Calls Try.prog 11 #[.int .i64 m, .slice AL n cL, .int .i64 most] w fun e w' => e = .returned (.tuple #[.slice none 0 0, .int .i64 1]) ∧ Below w.heap.size w w' := by
  have hb0 := below_new w (.cells #[.slice AL n cL] 22)
  have hx0 := Box.new w (.slice AL n cL) 22
  have HM := Lib.hid (fun w' => isMetric_calls m w')
  have HF := Lib.hid (fun w' (hb : Below (w.alloc (.cells #[.slice AL n cL] 22)).heap.size (w.alloc (.cells #[.slice AL n cL] 22)) w') => fit_calls 4096 4096 rfl (by omega) AL n cL L w' (isVV_below (isVV_below h hb0) hb))
  have HB0 := Lib.hid hb0
  have HX0 := Lib.hid hx0
  have hcb := hx0.cell
  unfold cok' at hk
  clear h hb0 hx0
  cases h1 : isM m
  · rw [h1] at HM
    go_enter Try.func11, Try.ntmps11
    go_wp2_with fail
    refine (HM.out _).mono ?_
    rintro e w1 ⟨rfl, hb1⟩
    have HB1 := Lib.hid (Below.andThen HB0.out hb1)
    clear hb1
    go_wp2_with fail
    go_ret2
    exact ⟨rfl, HB1.out⟩
  · rw [h1] at HM
    cases h2 : fit 4096 L
    · rw [h2] at HF
      go_enter Try.func11, Try.ntmps11
      go_wp2_with fail
      refine (HM.out _).mono ?_
      rintro e w1 ⟨rfl, hb1⟩
      have HB1 := Lib.hid (Below.andThen HB0.out hb1)
      have HF1 := Lib.hid (HF.out w1 hb1)
      have hcb1 := (HX0.out.below hb1).cell
      clear hb1
      go_wp2_with fail
      refine HF1.out.mono ?_
      rintro e w2 ⟨rfl, hb2⟩
      have HB2 := Lib.hid (Below.andThen HB1.out hb2)
      clear hb2
      go_wp2_with fail
      go_ret2
      exact ⟨rfl, HB2.out⟩
    · rw [h2] at HF
      rw [h1, h2, Bool.true_and, Bool.true_and, decide_eq_false_iff_not] at hk
      by_cases h3 : most < 1
      · go_enter Try.func11, Try.ntmps11
        go_wp2_with fail
        refine (HM.out _).mono ?_
        rintro e w1 ⟨rfl, hb1⟩
        have HB1 := Lib.hid (Below.andThen HB0.out hb1)
        have HF1 := Lib.hid (HF.out w1 hb1)
        have hcb1 := (HX0.out.below hb1).cell
        clear hb1
        go_wp2_with fail
        refine HF1.out.mono ?_
        rintro e w2 ⟨rfl, hb2⟩
        have HB2 := Lib.hid (Below.andThen HB1.out hb2)
        clear hb2
        go_wp2_with fail
        go_ret2
        exact ⟨rfl, HB2.out⟩
      · have h4 : 8 < most := by omega
        go_enter Try.func11, Try.ntmps11
        go_wp2_with fail
        refine (HM.out _).mono ?_
        rintro e w1 ⟨rfl, hb1⟩
        have HB1 := Lib.hid (Below.andThen HB0.out hb1)
        have HF1 := Lib.hid (HF.out w1 hb1)
        have hcb1 := (HX0.out.below hb1).cell
        clear hb1
        go_wp2_with fail
        refine HF1.out.mono ?_
        rintro e w2 ⟨rfl, hb2⟩
        have HB2 := Lib.hid (Below.andThen HB1.out hb2)
        clear hb2
        go_wp2_with fail
        go_ret2
        exact ⟨rfl, HB2.out⟩
/-- one step of greatest -/
theorem choose_step {m : Int} {AL A7 : Option Addr} {n cL n7 c7 d GR gN gK gL at' : Nat} {L : VV} {p : List Int} {pl : List Nat} (w0 wI : World) (h1 : 1 ≤ m) (h3 : m ≤ 3) (hF : Fit 4096 d L) (hL : IsVV w0 AL n cL L) (hI : wo.IsI w0 A7 n7 c7 p) (hp : L[at']? = some p) (hb0 : Below w0.heap.size w0 wI) (hGR : w0.heap.size ≤ GR)
    (hN : Cel wI gN 23 (.slice (some ⟨GR, 0, none⟩) n n)) (hKb : Cel wI gK 76 (kfun m A7 n7 c7)) (hLb : Cel wI gL 22 (.slice AL n cL)) (hNR : gN ≠ GR) (hKR : gK ≠ GR) (hLR : gL ≠ GR) (hn : n ≤ 4096) (k : Nat) (w : World) (hk : k < n)
    (hInv : RowK w GR (vq.part (nl m L (pl ++ [at'])) (nl m L pl) k) ∧ Kx w0.heap.size GR wI w) :
    Calls Try.prog 46 (#[.int .i64 k] ++ #[.pointer (some ⟨gN, 0, none⟩), .pointer (some ⟨gK, 0, none⟩), .pointer (some ⟨gL, 0, none⟩)]) w fun e w' => e = .returned (.int .i64 (af m L (pl ++ [at']) k)) ∧ RowK w' GR (vq.part (nl m L (pl ++ [at'])) (nl m L pl) (k + 1)) ∧ Kx w0.heap.size GR wI w' := by
  obtain ⟨hR, hK⟩ := hInv
  have hkl : k < L.length := by rw [hL.1]; exact hk
  have hv := List.getElem?_eq_getElem hkl
  have hx := nl_at (m := m) pl hv
  have hN2 := nl_at (m := m) (pl ++ [at']) hv
  have hxp := vq.part_at (p := nl m L (pl ++ [at'])) (by rw [nl_len]; omega) hx
  have hbw : Below w0.heap.size w0 w := hb0.trans hK.below
  have hB : w0.heap.size ≤ w.heap.size := hbw.size
  refine (choose1_calls w h1 h3 (isVV_below hL hbw) (isI_below hI hbw) (hF.at hp) (hF.at hv) hk hv hR hxp (ap_more pl hp _).symm (hN.kx hK hNR) (hKb.kx hK hKR) (hLb.kx hK hLR) hNR hn).mono ?_
  rintro e w' ⟨rfl, w2, hb2, rfl⟩
  refine ⟨by rw [af_at (pl ++ [at']) hv], ?_, (hK.trans (Kx.of_below hb2 hB)).trans (Kx.of_set _ hGR)⟩
  have h4 := RowK.set (i := k) (hR.below hb2) (ap m ((pl ++ [at']).map fun k => L.getD k []) L[k])
  rw [vq.part_set hN2 hx] at h4
  exact h4
theorem keep_low {w w' : World} {base n s k : Nat} {e : TypeId} {v : Value} {xs : List Value} {o : Obj} (ho : w.ownsRow base e s v n xs) (hg : (w.alloc o).grownBy w' v.ownBlock) (hk : k < base) (hkw : k < w.heap.size) : w'.heap[k]? = w.heap[k]? :=
  (hg.block k (by rw [size_new]; omega) (fun he => by have := (ho.lt k he.symm).1; omega)).trans ((below_new w o).block k hkw)
theorem pz_len (pl : List Nat) : (pz pl).length = pl.length := by simp [pz]
theorem pz_snoc (pl : List Nat) (k : Nat) : pz (pl ++ [k]) = pz pl ++ [(k : Int)] := by simp [pz]
theorem pz_bd {pl : List Nat} {n : Nat} (h : ∀ k ∈ pl, k < n) (hn : n ≤ 4096) : ∀ x ∈ pz pl, I64 x := fun x hx => by
  unfold pz at hx
  obtain ⟨k, hk, rfl⟩ := List.mem_map.1 hx
  have := h k hk
  unfold I64
  omega
theorem cok'_iff {m : Int} {L : VV} {most : Int} : cok' m L most = true ↔ isM m = true ∧ fit 4096 L = true ∧ 1 ≤ most ∧ most ≤ 8 := by
  simp [cok', Bool.and_eq_true]
set_option maxRecDepth 100000 in
set_option maxHeartbeats 8000000 in
theorem choose_good {m : Int} {most : Nat} {AL : Option Addr} {n cL : Nat} {L : VV} (w : World) (h : IsVV w AL n cL L) (h0 : isM m = true) (hft : fit 4096 L = true) (hm1 : 1 ≤ most) (hm8 : most ≤ 8) :
    Calls Try.prog 11 #[.int .i64 m, .slice AL n cL, .int .i64 (most : Int)] w fun e w' => ∃ A2 n2 c2, e = .returned (.tuple #[.slice A2 n2 c2, .int .i64 0]) ∧ wo.IsI w' A2 n2 c2 (pz (pq.choose m L (most : Int))) ∧ Below w.heap.size w w' := by
  obtain ⟨i0, hi9, hz0, hz1, hz2⟩ := info_parts wi.infoI
  have hb0 := below_new w (.cells #[.slice AL n cL] 22)
  have hx0 := Cel.new w 22 (.slice AL n cL)
  have hF := fit_of hft
  have hM : 1 ≤ m ∧ m ≤ 3 := by simpa [isM] using h0
  have HM := Lib.hid (fun w' => isMetric_calls m w')
  have HFC := Lib.hid (fun w' (hb : Below (w.alloc (.cells #[.slice AL n cL] 22)).heap.size (w.alloc (.cells #[.slice AL n cL] 22)) w') => fit_calls 4096 4096 rfl (by omega) AL n cL L w' (isVV_below (isVV_below h hb0) hb))
  rw [h0] at HM
  rw [hft] at HFC
  have hn4 : n ≤ 4096 := by rw [← h.1]; exact hF.n2
  have hn1 : 1 ≤ n := by rw [← h.1]; exact hF.n1
  have hmL := h.2.2.1
  have hncL := h.2.1
  have HH := Lib.hid h
  have HF := Lib.hid hF
  have HM13 := Lib.hid hM
  have HB0 := Lib.hid hb0
  have HX0 := Lib.hid hx0
  have hcb := hx0.cell
  have HLN : Hid (L.length = n) := h.1
  have HCH : Hid (pq.choose m L (most : Int) = chN m L most []) := by show _ = _; unfold pq.choose; rw [Int.toNat_natCast]
  clear h hb0 hx0 h0 hft hF hM
  go_enter Try.func11, Try.ntmps11
  go_wp2_with fail
  refine (HM.out _).mono ?_
  rintro e w1 ⟨rfl, hb1⟩
  have HB1 := Lib.hid (Below.andThen HB0.out hb1)
  have HF1 := Lib.hid (HFC.out w1 hb1)
  have HX1 := Lib.hid (HX0.out.below hb1)
  have hcb1 := HX1.out.cell
  clear hb1
  go_wp2_with fail
  refine HF1.out.mono ?_
  rintro e w2 ⟨rfl, hb2⟩
  have HB2 := Lib.hid (Below.andThen HB1.out hb2)
  have hx2 := HX1.out.below hb2
  have hbv := below_new w2 (.cells #[.int .i64 134217728] 3)
  have hcv := (Cel.new w2 3 (.int .i64 134217728)).cell
  have hxv := hx2.below hbv
  have hcbv := hxv.cell
  have HXV := Lib.hid hxv
  have HBV := Lib.hid (Below.andThen HB2.out hbv)
  obtain ⟨GR, hGR⟩ : ∃ g, (w2.alloc (.cells #[.int .i64 134217728] 3)).heap.size = g := ⟨_, rfl⟩
  have hrp := repeat_calls w2.heap.size 134217728 n _ hcv hn1 hn4
  rw [hGR] at hrp
  have HRP := Lib.hid hrp
  have hs2 : w.heap.size < w2.heap.size := hx2.lt
  have HGR2 : Hid (GR = w2.heap.size + 1) := by show _ = _; rw [← hGR, size_new]
  have HS2 := Lib.hid hs2
  clear hb2 hx2 hbv hcv hxv hcb hcb1 hrp hGR hs2
  go_wp2_with fail
  refine HRP.out.mono ?_
  rintro e w3 ⟨rfl, hrow, hb3⟩
  have hGR2 := HGR2.out
  have hs2 := HS2.out
  have HB3 : Hid (Below w.heap.size w w3) := HBV.out.trans (hb3.mono (by omega))
  have hx3 : Cel w3 w.heap.size 22 (.slice AL n cL) := HXV.out.at (hb3.block _ (by omega))
  have HLT3 : Hid (GR < w3.heap.size ∧ w.heap.size < GR) := ⟨hrow.lt, by omega⟩
  have hbN := below_new w3 (.cells #[.slice (some ⟨GR, 0, none⟩) n n] 23)
  have hN4 := Cel.new w3 23 (.slice (some ⟨GR, 0, none⟩) n n)
  have HR4 := Lib.hid (hrow.below hbN)
  have HX4 := Lib.hid (hx3.below hbN)
  have HN4 := Lib.hid hN4
  have HB4 := Lib.hid (Below.andThen HB3.out hbN)
  have HS4 : Hid ((w3.alloc (.cells #[.slice (some ⟨GR, 0, none⟩) n n] 23)).heap.size = w3.heap.size + 1) := size_new _ _
  clear hb3 hx3 hrow hbN hN4 hGR2 hs2
  go_wp2_with fail
  generalize hgN : w3.heap.size = gN at *
  generalize w3.alloc (.cells #[.slice (some ⟨GR, 0, none⟩) n n] 23) = w4 at *
  have HNC : Hid (gN < w4.heap.size ∧ GR < gN ∧ w.heap.size < GR) := by have h1 := HLT3.out; have h2 := HS4.out; exact ⟨by omega, by omega, by omega⟩
  have HFN : Hid (far m L [] = (0, 134217728)) := far_nil m (by rw [HLN.out]; exact hn1)
  go_loopg [9, 10, 11] most (fun gk u x y wr => ∃ (pl : List Nat) (v0 : Value), pl.length + gk = most ∧ v0 = u ∧ x = .int .i64 ((far m L pl).1 : Int) ∧ y = .int .i64 (far m L pl).2 ∧ chN m L most [] = chN m L gk pl ∧ (∀ k ∈ pl, k < n) ∧ wr.ownsRow w4.heap.size 3 1 v0 pl.length (iv (pz pl)) ∧ RowK wr GR (nl m L pl) ∧ Cel wr gN 23 (.slice (some ⟨GR, 0, none⟩) n n) ∧ Cel wr w.heap.size 22 (.slice AL n cL) ∧ Below w.heap.size w wr ∧ w4.heap.size ≤ wr.heap.size)
  case atStart => exact ⟨[], _, by simp, rfl, by rw [HFN.out]; rfl, by rw [HFN.out], rfl, by simp, by simpa [iv, pz] using World.ownsRow_nil _ _ _ _, by rw [nl_nil, HLN.out]; exact HR4.out, HN4.out, HX4.out, HB4.out, Nat.le_refl _⟩
  case round =>
    obtain ⟨pl, v0, hpl, hv0, rfl, rfl, hch, hpn, hown, hrow, hN, hX, hbel, hsz⟩ := hrel
    subst hv0
    have HPL := Lib.hid hpl
    have HCHN := Lib.hid hch
    have HPN := Lib.hid hpn
    have HOWN := Lib.hid hown
    have HROW := Lib.hid hrow
    have HN := Lib.hid hN
    have HX := Lib.hid hX
    have HBEL := Lib.hid hbel
    have HSZ := Lib.hid hsz
    have HA0 : Hid (0 ≤ (far m L pl).2) := gr_nonneg _ _
    have HA1 : Hid ((far m L pl).1 < n) := by show _ < _; have := gr_lt (af m L pl) L.length (by rw [HLN.out]; exact hn1); unfold far; rw [HLN.out] at this ⊢; exact this
    have hcs : ∀ g, chN m L (g + 1) pl = if (far m L pl).2 = 0 then pl else chN m L g (pl ++ [(far m L pl).1]) := fun g => rfl
    have HCS := Lib.hid hcs
    clear hcs
    have hcx := hX.cell
    have hpm : pl.length ≤ most := by omega
    generalize far m L pl = fr at *
    obtain ⟨a1, a2⟩ := fr
    dsimp only at HA0 HA1 HCS ⊢
    have ha0 := HA0.out
    have ha1 := HA1.out
    obtain ⟨Apl, cpl, hvp⟩ := own_slice hown
    subst hvp
    clear hpl hch hpn hown hrow hN hX hbel hsz
    by_cases hdo : pl.length < most ∧ 0 < a2
    · obtain ⟨hd1, hd2⟩ := hdo
      obtain ⟨j, hj⟩ : ∃ j, gk = j + 1 := ⟨gk - 1, by have := HPL.out; omega⟩
      subst hj
      have hd3 : (pl.length : Int) < (most : Int) := by omega
      obtain ⟨bL, oL, A7, n7, c7, p, rfl, hb7, hc7, hI7, hp7⟩ := isVV_get HH.out ha1
      have HI7 := Lib.hid hI7
      have HP7 := Lib.hid hp7
      have hltA : (a1 : Int) < (n : Int) := by omega
      clear hI7 hp7
      go_wp2_with (at_builtin; refine wpList_append_own _ rfl _ _ 23 rfl w4.heap.size 3 i0 (.int .i64 0) 1 8 Try.underlying23 hi9 hz0 hz1 hz2 rfl (by decide) _ _ _ rfl (HOWN.out.alloc _) ⟨wr.heap.size, 0, none⟩ 1 1 [.int .i64 (a1 : Int)] rfl rfl (cells1 _ _ _) ?c2 ?c3 ?c4 ?c5 ?_)
      case c2 => simp [Value.oneCell']
      case c3 => unfold maxLen; omega
      case c4 => omega
      case c5 => have := HSZ.out; simp; omega
      intro v' w5 hown5 hgrow5 _
      have hnc := HNC.out
      have hw4 := HSZ.out
      have hR5 := HROW.out.at (keep_low HOWN.out hgrow5 (show GR < w4.heap.size by omega) (by omega))
      have hN5 := HN.out.at (keep_low HOWN.out hgrow5 (show gN < w4.heap.size by omega) (by omega))
      have hX5 := HX.out.at (keep_low HOWN.out hgrow5 (show w.heap.size < w4.heap.size by omega) (by omega))
      have hB5 : Below w.heap.size w w5 := (HBEL.out.alloc (by omega) _).grown hgrow5 (by rw [size_new]; omega) (fun q hq => by have := (HOWN.out.lt q hq).1; omega)
      have hsz5 : wr.heap.size + 1 ≤ w5.heap.size := by have := hgrow5.size; rw [size_new] at this; exact this
      have hc5 := (hB5.cell (p := ⟨bL, oL + a1, none⟩) hb7).trans hc7
      have hcx5 := hX5.cell
      have HB5 := Lib.hid hB5
      have HO5 := Lib.hid hown5
      -- the key's variable
      have hbK := below_new w5 (.cells #[kfun m A7 n7 c7] 76)
      have hK6 := Cel.new w5 76 (kfun m A7 n7 c7)
      have hN6 := hN5.below hbK
      have hX6 := hX5.below hbK
      have hR6 := hR5.below hbK
      have hcx6 := hX6.cell
      have hB6 := Below.andThen hB5 hbK
      have HO6 := Lib.hid (keptB hown5 hbK)
      have hs6 : (w5.alloc (.cells #[kfun m A7 n7 c7] 76)).heap.size = w5.heap.size + 1 := size_new _ _
      unfold kfun at hcx6
      have HG6 := Lib.hid (greatest_calls 46 #[.pointer (some ⟨gN, 0, none⟩), .pointer (some ⟨w5.heap.size, 0, none⟩), .pointer (some ⟨w.heap.size, 0, none⟩)] (fun _ _ => by kernel_rfl) n (by omega) (af m L (pl ++ [a1]))
        (fun k w' => RowK w' GR (vq.part (nl m L (pl ++ [a1])) (nl m L pl) k) ∧ Kx w.heap.size GR (w5.alloc (.cells #[kfun m A7 n7 c7] 76)) w') (w5.alloc (.cells #[kfun m A7 n7 c7] 76))
        (fun k w' hk hI => choose_step w _ HM13.out.1 HM13.out.2 HF.out HH.out HI7.out HP7.out hB6 (by omega) hN6 hK6 hX6 (by omega) (by omega) (by omega) hn4 k w' hk hI)
        ⟨by rw [vq.part_zero]; exact hR6, Kx.refl _ _ _⟩)
      unfold kfun at HG6 HO6 hs6
      have hN6' := hN6
      have hX6' := hX6
      have hB6' := hB6
      unfold kfun at hN6' hX6' hB6'
      have HN6 := Lib.hid hN6'
      have HX6 := Lib.hid hX6'
      have HB6 := Lib.hid hB6'
      have HS6 := Lib.hid hs6
      have HSZ5 : Hid (w4.heap.size ≤ w5.heap.size) := by show _ ≤ _; omega
      have HNC2 := Lib.hid hnc
      clear hR5 hN5 hX5 hB5 hc7 hown5 hgrow5 hbK hK6 hN6 hX6 hR6 hB6 hs6 hN6' hX6' hB6' hnc hw4 hsz5 hcx
      have HFE : Hid (far m L (pl ++ [a1]) = gr (af m L (pl ++ [a1])) n) := by show _ = _; unfold far; rw [HLN.out]
      have HCN : Hid (chN m L most [] = chN m L j (pl ++ [a1])) := by show _ = _; rw [HCHN.out, HCS.out, if_neg (by omega)]
      have HPN2 : Hid (∀ k ∈ pl ++ [a1], k < n) := fun k hk => by
        rcases List.mem_append.1 hk with h | h
        · exact HPN.out k h
        · rw [List.mem_singleton.1 h]; exact ha1
      have HO62 : Hid (World.ownsRow (w5.alloc (.cells #[.func (.func 44) #[.agg #[.int .i64 m, .slice A7 n7 c7]] #[]] 76)) w4.heap.size 3 1 v' (pl ++ [a1]).length (iv (pz (pl ++ [a1])))) := by
        have h := HO6.out
        rw [pz_snoc, List.length_append]
        unfold iv at h ⊢
        rw [List.map_append]
        exact h
      go_wp2_with fail
      generalize w5.alloc (.cells #[.func (.func 44) #[.agg #[.int .i64 m, .slice A7 n7 c7]] #[]] 76) = w6 at *
      refine HG6.out.mono ?_
      rintro e w7 ⟨rfl, hr7, hk7⟩
      rw [vq.part_end (by rw [nl_len, HLN.out]) (by rw [nl_len, HLN.out])] at hr7
      have hnc := HNC2.out
      have hs6 := HS6.out
      have hs5 := HSZ5.out
      have HR7 := Lib.hid hr7
      have HN7 := Lib.hid (HN6.out.kx hk7 (by omega))
      have HX7 := Lib.hid (HX6.out.kx hk7 (by omega))
      have HB7 := Lib.hid (HB6.out.trans hk7.below)
      have HO7 : Hid (w7.ownsRow w4.heap.size 3 1 v' (pl ++ [a1]).length (iv (pz (pl ++ [a1])))) := World.ownsRow.kept HO62.out hk7.grown (by
        cases hvb : v'.ownBlock with
        | none => exact .inl rfl
        | some r => exact .inr (fun he => by injection he with he; have := (HO62.out.lt r hvb).1; omega))
      have HS7 : Hid (w4.heap.size ≤ w7.heap.size) := by show _ ≤ _; have := hk7.below.size; omega
      clear hr7 hk7 hnc hs6 hs5
      go_wp2_with fail
      go_roundg j
      case measure => omega
      case rel => exact ⟨pl ++ [a1], _, by have := HPL.out; rw [List.length_append]; simp; omega, rfl, by rw [HFE.out], by rw [HFE.out], HCN.out, HPN2.out, HO7.out, HR7.out, HN7.out, HX7.out, HB7.out, HS7.out⟩
    · have hex : pq.choose m L (most : Int) = pl := by
        rw [HCH.out, HCHN.out]
        have hp := HPL.out
        rcases Nat.eq_zero_or_pos gk with hz | hz
        · subst hz; rfl
        · obtain ⟨j, rfl⟩ : ∃ j, gk = j + 1 := ⟨gk - 1, by omega⟩
          rw [HCS.out, if_pos (by omega)]
      have HEX := Lib.hid hex
      have hi := isV_own HOWN.out (pz_bd HPN.out hn4)
      obtain ⟨A9, n9, c9, e9, hI9⟩ := hi
      cases e9
      have HI9 := Lib.hid hI9
      clear hI9 hex
      by_cases hd1 : pl.length < most
      · have hd3 : (pl.length : Int) < (most : Int) := by omega
        have hd4 : a2 = 0 := by omega
        subst hd4
        go_wp2_with fail
        go_ret2
        exact ⟨_, _, _, rfl, by rw [HEX.out]; exact HI9.out, HBEL.out⟩
      · have hd3 : ¬ (pl.length : Int) < (most : Int) := by omega
        go_wp2_with fail
        go_ret2
        exact ⟨_, _, _, rfl, by rw [HEX.out]; exact HI9.out, HBEL.out⟩
theorem choose_calls {m most : Int} {AL : Option Addr} {n cL : Nat} {L : VV} (w : World) (h : IsVV w AL n cL L) :
    Calls Try.prog 11 #[.int .i64 m, .slice AL n cL, .int .i64 most] w fun e w' => ∃ A2 n2 c2, e = .returned (.tuple #[.slice A2 n2 c2, okE (cok' m L most)]) ∧ wo.IsI w' A2 n2 c2 (pz (if cok' m L most then pq.choose m L most else [])) ∧ Below w.heap.size w w' := by
  cases hk : cok' m L most
  · refine (choose_bad w h hk).mono ?_
    rintro e w' ⟨rfl, hb⟩
    exact ⟨_, _, _, rfl, isI_nil _, hb⟩
  · obtain ⟨h1, h2, h3, h4⟩ := cok'_iff.1 hk
    obtain ⟨k, rfl⟩ := Int.eq_ofNat_of_zero_le (show 0 ≤ most by omega)
    refine (choose_good w h h1 h2 (by omega) (by omega)).mono ?_
    rintro e w' ⟨A2, n2, c2, rfl, hI, hb⟩
    exact ⟨_, _, _, rfl, hI, hb⟩
end Go.Proofs.Yteeianandjokaaa.pk
