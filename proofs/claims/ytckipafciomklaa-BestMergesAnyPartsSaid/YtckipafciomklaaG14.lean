/- Joined: Hy Ia Ib Ic Id Ie Ig. -/
import Derived.Test.YtckipafciomklaaG13

import Derived.Laws.AppendOwn
/- A hit that enters, and the worst of a list: plainly. No program here. -/
namespace Go.Proofs.Ytckipafciomklaa.bk

open Go.Proofs.Ytckipafciomklaa.bq

set_option linter.unusedVariables false
theorem last_of {l : List H} (h0 : l ≠ []) (ha : Asc l) : ∃ y ∈ l, l.getLast? = some y ∧ ∀ x ∈ l, x = y ∨ lt x y = true := by
  rcases List.eq_nil_or_concat l with rfl | ⟨l', y, rfl⟩
  · exact absurd rfl h0
  · refine ⟨y, by simp, by simp, fun x hx => ?_⟩
    rw [List.concat_eq_append] at hx ha
    rcases List.mem_append.1 hx with hx | hx
    · exact .inr ((List.pairwise_append.1 ha).2.2 x hx y (by simp))
    · exact .inl (List.mem_singleton.1 hx)
theorem worst_full {l : List H} {k : Int} {y : H} (hl : (l.length : Int) = k) (hk : 1 ≤ k) (hy : l.getLast? = some y) : worst l k = y.2.2 - 1 := by
  unfold worst
  rw [if_neg (by omega), hy]; rfl
theorem worst_less {l : List H} {k : Int} (hl : (l.length : Int) < k) : worst l k = 134217728 := by
  unfold worst
  rw [if_pos (by omega)]
theorem right_key {h : H} (hr : right h = true) : 0 ≤ h.2.2 ∧ h.2.2 ≤ 134217728 := by
  unfold right at hr
  simp only [Bool.and_eq_true, decide_eq_true_eq] at hr
  exact hr.2
theorem lt_key {a b : H} (h : a.2.2 < b.2.2) : lt a b = true := by rw [lt_iff]; exact .inl h
section

variable {l : List H} {h : H} {k : Int}
theorem no_id (hd : Dst l) (hc : com l [h] ≤ 0) : ∀ x ∈ l, x.1 ≠ h.1 := fun x hx e => by
  rw [com_eq hd (lst_one h).2] at hc
  have : x ∈ l.filter (hasI [h]) := List.mem_filter.2 ⟨hx, hasI_iff.2 (by simp [e])⟩
  have := List.length_pos_of_mem this
  omega
theorem mem_l (hd : Dst l) (hn : ∀ x ∈ l, x.1 ≠ h.1) {x : H} (hx : x ∈ l) : x ∈ bst (l ++ [h]) := mem_bst.2 ⟨List.mem_append_left _ hx, fun g hg e => by
  rcases List.mem_append.1 hg with hg | hg
  · rw [dst_id hd g hg x hx e]; exact lt_irrefl _
  · rw [List.mem_singleton.1 hg] at e; exact absurd e.symm (hn x hx)⟩
theorem mem_h (hn : ∀ x ∈ l, x.1 ≠ h.1) : h ∈ bst (l ++ [h]) := mem_bst.2 ⟨by simp, fun g hg e => by
  rcases List.mem_append.1 hg with hg | hg
  · exact absurd e (hn g hg)
  · rw [List.mem_singleton.1 hg]; exact lt_irrefl _⟩
theorem cnt_up {z : H} (hz : lt h z = false) : cnt (l ++ [h]) z ≤ (l.filter (lt · z)).length := by
  have hs : Dst ((bst (l ++ [h])).filter (lt · z)) := dst_filter (lst_bst _).2 _
  have := pigeon (b := (l.filter (lt · z)).map fun x : H => x.1) hs fun i hi => by
    obtain ⟨x, hx, rfl⟩ := List.mem_map.1 hi
    rw [List.mem_filter] at hx
    refine List.mem_map.2 ⟨x, List.mem_filter.2 ⟨?_, hx.2⟩, rfl⟩
    rcases List.mem_append.1 (mem_bst.1 hx.1).1 with h1 | h1
    · exact h1
    · rw [List.mem_singleton.1 h1] at hx
      have := hx.2
      rw [hz] at this; cases this
  rw [List.length_map, List.length_map] at this
  exact this
theorem cnt_down (hd : Dst l) (z : H) : (l.filter (lt · z)).length ≤ cnt (l ++ [h]) z :=
  cnt_ge (dst_filter hd _) fun x hx => ⟨List.mem_append_left _ (List.mem_filter.1 hx).1, (List.mem_filter.1 hx).2⟩
theorem bst_ge (hd : Dst l) : l.length ≤ (bst (l ++ [h])).length := by
  have := pigeon (b := (bst (l ++ [h])).map (·.1)) hd fun i hi => id_bst_iff.2 (by rw [List.map_append]; exact List.mem_append_left _ hi)
  rwa [List.length_map, List.length_map] at this
theorem ent_iff (hd : Dst l) (hn : ∀ x ∈ l, x.1 ≠ h.1) {K : Nat} : h ∈ ofL (l ++ [h]) K ↔ (l.filter (lt · h)).length < K := by
  rw [mem_ofL]
  have h1 := cnt_up (l := l) (lt_irrefl h)
  have h2 := cnt_down (h := h) hd h
  constructor
  · rintro ⟨_, h3⟩; omega
  · intro h3; exact ⟨mem_h hn, by omega⟩
theorem stay (hl : Lst l) (hn : ∀ x ∈ l, x.1 ≠ h.1) {K : Nat} (hk : l.length ≤ K) (h3 : h ∉ ofL (l ++ [h]) K) : ofL (l ++ [h]) K = l := by
  rw [ent_iff hl.2 hn] at h3
  have h4 := List.length_filter_le (lt · h) l
  have hall : ∀ x ∈ l, lt x h = true := List.length_filter_eq_length_iff.1 (by omega)
  refine asc_ext (lst_ofL _ _).1 hl.1 fun x => ⟨fun hx => ?_, fun hx => ?_⟩
  · rcases List.mem_append.1 (ofL_mem hx) with h1 | h1
    · exact h1
    · rw [List.mem_singleton.1 h1, ent_iff hl.2 hn] at hx; omega
  · refine mem_ofL.2 ⟨mem_l hl.2 hn hx, ?_⟩
    have h5 := cnt_up (l := l) (lt_asymm (hall x hx))
    have h6 : (l.filter (lt · x)).length < l.length := List.length_filter_lt_length_iff_exists.2 ⟨x, hx, by simp [lt_irrefl]⟩
    omega
/-- what the law needs of a valid list and a hit whose ID it does not have -/
structure Ent (l : List H) (h : H) (k : Int) (s : List H) (E : Bool) : Prop where
  is : (!(l == s)) = E
  one : com s [h] = if E = true then 1 else 0
  low : h.2.2 ≤ worst l k → E = true
  high : (l.length : Int) = k → worst l k + 2 ≤ h.2.2 → E = false
  same : E = false → s = l
  less : worst s k ≤ worst l k
  bd : -1 ≤ worst l k ∧ worst l k ≤ 134217728
  pos : ∀ x ∈ s, 0 ≤ x.2.2
theorem ent (hv : vld l k = true) (hr : right h = true) (hc : com l [h] ≤ 0) : ∃ E, Ent l h k (ofL (l ++ [h]) k.toNat) E := by
  obtain ⟨⟨hk1, hk2⟩, hlk, hrt, hL⟩ := vld_iff.1 hv
  have hn := no_id hL.2 hc
  obtain ⟨K, hK⟩ : ∃ K, K = k.toNat := ⟨_, rfl⟩
  have hKk : (K : Int) = k := by omega
  rw [← hK]
  have hkeys : ∀ x ∈ ofL (l ++ [h]) K, right x = true := fun x hx => by
    rcases List.mem_append.1 (ofL_mem hx) with h1 | h1
    · exact hrt x h1
    · rw [List.mem_singleton.1 h1]; exact hr
  have hnl : h ∉ l := fun hh => hn h hh rfl
  have hdec : ∀ E : Bool, (E = true ↔ h ∈ ofL (l ++ [h]) K) → (!(l == ofL (l ++ [h]) K)) = E := fun E hE => by
    cases E with
    | true =>
      have h1 := hE.1 rfl
      have : l ≠ ofL (l ++ [h]) K := fun e => hnl (e ▸ h1)
      simp [this]
    | false =>
      have h1 : h ∉ ofL (l ++ [h]) K := fun hh => by cases hE.2 hh
      rw [stay hL hn (by omega) h1]; simp
  have hbd : -1 ≤ worst l k ∧ worst l k ≤ 134217728 := by
    rcases Int.lt_or_le (l.length : Int) k with h1 | h1
    · rw [worst_less h1]; omega
    · obtain ⟨y, hy, hy2, _⟩ := last_of (l := l) (by rintro rfl; simp at h1; omega) hL.1
      rw [worst_full (by omega) hk1 hy2]
      have := right_key (hrt y hy); omega
  have hpos : ∀ x ∈ ofL (l ++ [h]) K, 0 ≤ x.2.2 := fun x hx => (right_key (hkeys x hx)).1
  have hfl := List.length_filter_le (lt · h) l
  cases hE : decide (h ∈ ofL (l ++ [h]) K) with
  | true =>
    have hm : h ∈ ofL (l ++ [h]) K := by simpa using hE
    refine ⟨true, hdec true ⟨fun _ => hm, fun _ => rfl⟩, ?_, fun _ => rfl, fun h1 h2 => ?_, (fun h1 => by cases h1), ?_, hbd, hpos⟩
    · rw [com_eq (lst_ofL _ _).2 (lst_one h).2, if_pos rfl]
      have h1 : 0 < ((ofL (l ++ [h]) K).filter (hasI [h])).length := List.length_pos_of_mem (List.mem_filter.2 ⟨hm, hasI_iff.2 (by simp)⟩)
      have h2 := pigeon (a := ((ofL (l ++ [h]) K).filter (hasI [h])).map fun x : H => x.1) (b := [h.1]) (dst_filter (lst_ofL _ _).2 _) fun i hi => by
        obtain ⟨x, hx, rfl⟩ := List.mem_map.1 hi
        have := hasI_iff.1 (List.mem_filter.1 hx).2
        simpa using this
      rw [List.length_map, List.length_singleton] at h2
      omega
    · exfalso
      rw [ent_iff hL.2 hn] at hm
      obtain ⟨y, hy, hy2, hy3⟩ := last_of (l := l) (by rintro rfl; simp at h1; omega) hL.1
      rw [worst_full h1 hk1 hy2] at h2
      have hyh : lt y h = true := lt_key (by omega)
      have hall : ∀ x ∈ l, lt x h = true := fun x hx => by
        rcases hy3 x hx with rfl | h4
        · exact hyh
        · exact lt_trans h4 hyh
      rw [List.length_filter_eq_length_iff.2 hall] at hm
      omega
    · rcases Int.lt_or_le (l.length : Int) k with h1 | h1
      · rw [worst_less h1]
        rcases Int.lt_or_le ((ofL (l ++ [h]) K).length : Int) k with h2 | h2
        · rw [worst_less h2]; omega
        · have h5 := ofL_len (l ++ [h]) K
          obtain ⟨z, hz, hz2, _⟩ := last_of (l := ofL (l ++ [h]) K) (by intro e; rw [e] at h2; simp at h2; omega) (lst_ofL _ _).1
          rw [worst_full (by omega) hk1 hz2]
          have := right_key (hkeys z hz); omega
      · obtain ⟨y, hy, hy2, hy3⟩ := last_of (l := l) (by rintro rfl; simp at h1; omega) hL.1
        rw [worst_full (by omega) hk1 hy2]
        have h5 : (ofL (l ++ [h]) K).length = K := by
          have := bst_ge (h := h) hL.2
          unfold ofL; rw [List.length_take]; omega
        obtain ⟨z, hz, hz2, _⟩ := last_of (l := ofL (l ++ [h]) K) (by intro e; rw [e] at h5; simp at h5; omega) (lst_ofL _ _).1
        rw [worst_full (by omega) hk1 hz2]
        have : z.2.2 ≤ y.2.2 := by
          refine Int.not_lt.1 fun h6 => ?_
          have hyz := lt_key h6
          have h7 := cnt_ge (b := l ++ [h]) (h := z) hL.2 fun x hx => ⟨List.mem_append_left _ hx, by
            rcases hy3 x hx with rfl | h4
            · exact hyz
            · exact lt_trans h4 hyz⟩
          have := (mem_ofL.1 hz).2
          omega
        omega
  | false =>
    have hm : h ∉ ofL (l ++ [h]) K := by simpa using hE
    have hst := stay hL hn (by omega) hm
    refine ⟨false, hdec false ⟨(fun h1 => by cases h1), fun h1 => absurd h1 hm⟩, ?_, fun h1 => ?_, fun _ _ => rfl, fun _ => hst, by rw [hst]; omega, hbd, hpos⟩
    · rw [hst, if_neg (by simp)]
      have := com_nn l [h]; omega
    · exfalso
      rw [ent_iff hL.2 hn] at hm
      have h4 : (l.length : Int) = k := by omega
      obtain ⟨y, hy, hy2, hy3⟩ := last_of (l := l) (by rintro rfl; simp at h4; omega) hL.1
      rw [worst_full h4 hk1 hy2] at h1
      have hyh : lt h y = true := lt_key (by omega)
      have h6 : (l.filter (lt · h)).length < l.length := List.length_filter_lt_length_iff_exists.2 ⟨y, hy, by simp [lt_asymm hyh]⟩
      omega
end

end Go.Proofs.Ytckipafciomklaa.bk
/- The reference's Worst and Common. -/
namespace Go.Proofs.Ytckipafciomklaa.bk

open Go.ChangeShapes Go.WideShapes Go.ChangeAt Go.RowKit

open Go.Proofs.Ytckipafciomklaa.bq Go.Proofs.Ytckipafciomklaa.vk Go.Proofs.Ytckipafciomklaa.wk

set_option linter.unusedVariables false
attribute [local go_sem] Oper.semAt_some
theorem getLast_at {l : List H} {n : Nat} {y : H} (hl : l.length = n) (h : l[n - 1]? = some y) : l.getLast? = some y := by
  rw [List.getLast?_eq_getElem?, hl]; exact h
set_option maxRecDepth 100000 in
set_option maxHeartbeats 4000000 in
theorem rworst_calls {l : List H} {A : Option Addr} {n c : Nat} (k : Int) (w : World) (h : IsH w A n c l) (hk : 1 ≤ k) (hp : ∀ x ∈ l, 0 ≤ x.2.2) : Calls Try.prog 28 #[.slice A n c, .int .i64 k] w fun e w' => e = .returned (.int .i64 (worst l k)) ∧ w' = w := by
  have hm := h.2.2.1
  have hnc := h.2.1
  have hl := h.1
  by_cases hlt : (n : Int) < k
  · have HV := Lib.hid (worst_less (l := l) (k := k) (by rw [hl]; exact hlt))
    clear h hp
    go_enter Try.func28, Try.ntmps28
    go_wp2_with fail
    go_ret
    exact ⟨by rw [HV.out]; rfl, rfl⟩
  · obtain ⟨m, hm1⟩ : ∃ m, m + 1 = n := ⟨n - 1, by omega⟩
    obtain ⟨b, o, x, rfl, hx1, hx2, hx3, hb1, hX, hwx⟩ := isH_get (k := m) h (by omega)
    have hx0 := hp x (List.mem_of_getElem? hX)
    have hlast := getLast_at (y := x) hl (by rw [show n - 1 = m by omega]; exact hX)
    have HV : Hid (worst l k = x.2.2 - 1) := by
      show _ = _
      unfold worst
      rw [if_neg (by rw [hl]; omega), hlast]; rfl
    have hb2 := hwx.2.2.2
    have hmi : (m : Int) < (n : Int) := by omega
    have hwr : IntKind.i64.wrap ((n : Int) - 1) = (m : Int) := by rw [IntKind.wrap_i64]; omega
    clear h hp hX hwx hx1 hx2 hb1 hlast hl
    go_enter Try.func28, Try.ntmps28
    go_wp2_with fail
    go_ret
    exact ⟨by rw [HV.out]; rfl, rfl⟩
theorem filt_snoc {a : List H} {p : H → Bool} {k : Nat} {x : H} (hx : a[k]? = some x) : ((a.take (k + 1)).filter p).length = ((a.take k).filter p).length + if p x then 1 else 0 := by
  rw [take_succ' hx, List.filter_append, List.length_append, List.filter_cons]
  cases p x <;> rfl
set_option maxRecDepth 100000 in
set_option maxHeartbeats 4000000 in
theorem rcommon_calls {a b : List H} {A A' : Option Addr} {n c n' c' : Nat} (w : World) (h : IsH w A n c a) (h' : IsH w A' n' c' b) (hn : n ≤ 1000000) : Calls Try.prog 30 #[.slice A n c, .slice A' n' c'] w fun e w' => e = .returned (.int .i64 ((a.filter (hasI b)).length : Int)) ∧ w' = w := by
  have hm := h.2.2.1
  have hnc := h.2.1
  have hm' := h'.2.2.1
  have hnc' := h'.2.1
  have H := Lib.hid h
  have H' := Lib.hid h'
  have HLN := Lib.hid h.1
  clear h h'
  go_enter Try.func30, Try.ntmps30
  go_wp2_with fail
  go_loopg [5, 6] n (fun g y x wr => ∃ k q : Nat, k + g = n ∧ x = .int .i64 (k : Int) ∧ y = .int .i64 (q : Int) ∧ wr = w ∧ q = ((a.take k).filter (hasI b)).length)
  case atStart => exact ⟨0, 0, by omega, rfl, rfl, rfl, rfl⟩
  case round =>
    obtain ⟨k, q, hk, rfl, rfl, rfl, hr⟩ := hrel
    have HK := Lib.hid hk
    have HR := Lib.hid hr
    have hkn : k ≤ n := by omega
    have hqn : q ≤ k := by rw [hr]; have := List.length_filter_le (hasI b) (a.take k); rw [List.length_take] at this; omega
    clear hk hr
    by_cases hlt : k < n
    · obtain ⟨bb, o, x, rfl, hx1, hx2, hx3, hb1, hX, hwx⟩ := isH_get H.out hlt
      have HS := Lib.hid (filt_snoc (p := hasI b) hX)
      have hlt0 : (k : Int) < (n : Int) := by omega
      clear hX hwx hb1 hx2 hx3
      cases hh : hasI b x with
      | true =>
        have HH := Lib.hid hh
        go_wp2_with fail
        refine (rhas_calls x.1 _ H'.out).mono ?_
        rintro e w' ⟨rfl, hw'⟩
        rw [hw']
        clear hw' w'
        rw [show (b.any fun r => r.1 == x.1) = true from HH.out]
        go_wp2_with fail
        go_roundg (gk - 1)
        case measure => have := HK.out; omega
        case rel => exact ⟨k + 1, q + 1, by have := HK.out; omega, by go_num, by go_num, rfl, by rw [HS.out, HH.out, ← HR.out]; rfl⟩
      | false =>
        have HH := Lib.hid hh
        go_wp2_with fail
        refine (rhas_calls x.1 _ H'.out).mono ?_
        rintro e w' ⟨rfl, hw'⟩
        rw [hw']
        clear hw' w'
        rw [show (b.any fun r => r.1 == x.1) = false from HH.out]
        go_wp2_with fail
        go_roundg (gk - 1)
        case measure => have := HK.out; omega
        case rel => exact ⟨k + 1, q, by have := HK.out; omega, by go_num, rfl, rfl, by rw [HS.out, HH.out, ← HR.out]; rfl⟩
    · have h1 := HR.out
      rw [List.take_of_length_le (by rw [HLN.out]; omega)] at h1
      have H1 := Lib.hid h1
      clear h1
      go_wp2_with fail
      go_ret
      exact ⟨by rw [← H1.out]; rfl, rfl⟩
end Go.Proofs.Ytckipafciomklaa.bk
/- The reference's place. -/
namespace Go.Proofs.Ytckipafciomklaa.bk

open Go.ChangeShapes Go.WideShapes Go.ChangeAt Go.RowKit

open Go.Proofs.Ytckipafciomklaa.bq Go.Proofs.Ytckipafciomklaa.vk Go.Proofs.Ytckipafciomklaa.wk

set_option linter.unusedVariables false
attribute [local go_sem] Oper.semAt_some
/-- the place of the least hit among the first k whose ID is not in a list -/
def Pl (l out : List H) (k : Nat) (b : Int) : Prop := (b = -1 ∧ ∀ x ∈ l.take k, hasI out x = true) ∨ ∃ (j : Nat) (x : H), b = (j : Int) ∧ j < k ∧ l[j]? = some x ∧ hasI out x = false ∧ ∀ y ∈ l.take k, hasI out y = false → lt y x = false
theorem pl_skip {l out : List H} {k : Nat} {b : Int} {x : H} (h : Pl l out k b) (hx : l[k]? = some x) (hh : hasI out x = true) : Pl l out (k + 1) b := by
  unfold Pl at *
  rw [take_succ' hx]
  rcases h with ⟨h1, h2⟩ | ⟨j, y, h1, h2, h3, h4, h5⟩
  · refine .inl ⟨h1, fun z hz => ?_⟩
    rcases List.mem_append.1 hz with hz | hz
    · exact h2 z hz
    · rw [List.mem_singleton.1 hz]; exact hh
  · refine .inr ⟨j, y, h1, by omega, h3, h4, fun z hz hz2 => ?_⟩
    rcases List.mem_append.1 hz with hz | hz
    · exact h5 z hz hz2
    · rw [List.mem_singleton.1 hz, hh] at hz2; cases hz2
theorem pl_first {l out : List H} {k : Nat} {b : Int} {x : H} (h : Pl l out k b) (hb : b < 0) (hx : l[k]? = some x) (hh : hasI out x = false) : Pl l out (k + 1) (k : Int) := by
  unfold Pl at *
  rw [take_succ' hx]
  rcases h with ⟨h1, h2⟩ | ⟨j, y, h1, h2, h3, h4, h5⟩
  · refine .inr ⟨k, x, rfl, by omega, hx, hh, fun z hz hz2 => ?_⟩
    rcases List.mem_append.1 hz with hz | hz
    · rw [h2 z hz] at hz2; cases hz2
    · rw [List.mem_singleton.1 hz]; exact lt_irrefl _
  · omega
theorem pl_less {l out : List H} {k j : Nat} {x y : H} (h : Pl l out k (j : Int)) (hy : l[j]? = some y) (hx : l[k]? = some x) (hh : hasI out x = false) (hl : lt x y = true) : Pl l out (k + 1) (k : Int) := by
  unfold Pl at *
  rw [take_succ' hx]
  rcases h with ⟨h1, h2⟩ | ⟨j', y', h1, h2, h3, h4, h5⟩
  · omega
  · obtain rfl : j' = j := by omega
    rw [hy] at h3
    cases h3
    refine .inr ⟨k, x, rfl, by omega, hx, hh, fun z hz hz2 => ?_⟩
    rcases List.mem_append.1 hz with hz | hz
    · rw [← Bool.not_eq_true]
      intro hzx
      have := lt_trans hzx hl
      rw [h5 z hz hz2] at this; cases this
    · rw [List.mem_singleton.1 hz]; exact lt_irrefl _
theorem pl_keep {l out : List H} {k j : Nat} {x y : H} (h : Pl l out k (j : Int)) (hy : l[j]? = some y) (hx : l[k]? = some x) (hl : lt x y = false) : Pl l out (k + 1) (j : Int) := by
  unfold Pl at *
  rw [take_succ' hx]
  rcases h with ⟨h1, h2⟩ | ⟨j', y', h1, h2, h3, h4, h5⟩
  · omega
  · obtain rfl : j' = j := by omega
    rw [hy] at h3
    cases h3
    refine .inr ⟨j', y, rfl, by omega, hy, h4, fun z hz hz2 => ?_⟩
    rcases List.mem_append.1 hz with hz | hz
    · exact h5 z hz hz2
    · rw [List.mem_singleton.1 hz]; exact hl
set_option maxRecDepth 100000 in
set_option maxHeartbeats 4000000 in
theorem rplace_calls {l out : List H} {A A' : Option Addr} {n c n' c' : Nat} (w : World) (h : IsH w A n c l) (h' : IsH w A' n' c' out) : Calls Try.prog 46 #[.slice A n c, .slice A' n' c'] w fun e w' => ∃ i, e = .returned (.int .i64 i) ∧ Pl l out n i ∧ Below w.heap.size w w' := by
  have hm := h.2.2.1
  have hnc := h.2.1
  have hm' := h'.2.2.1
  have hnc' := h'.2.1
  have H := Lib.hid h
  have H' := Lib.hid h'
  have HLN := Lib.hid h.1
  clear h h'
  go_enter Try.func46, Try.ntmps46
  go_wp2_with fail
  go_loopg [5, 6] n (fun g y x wr => ∃ (k : Nat) (bi : Int), k + g = n ∧ x = .int .i64 (k : Int) ∧ y = .int .i64 bi ∧ Below w.heap.size w wr ∧ Pl l out k bi)
  case atStart => exact ⟨0, -1, by omega, rfl, rfl, Below.refl _ _, .inl ⟨rfl, by simp⟩⟩
  case round =>
    obtain ⟨k, bi, hk, rfl, rfl, hbel, hr⟩ := hrel
    have HK := Lib.hid hk
    have HR := Lib.hid hr
    have HBEL := Lib.hid hbel
    have hkn : k ≤ n := by omega
    clear hk hr hbel
    by_cases hlt : k < n
    · obtain ⟨b, o, x, rfl, -, -, -, hb1, hX, hwx⟩ := isH_get H.out hlt
      have hlt0 : (k : Int) < (n : Int) := by omega
      have HX := Lib.hid hX
      clear hX hwx hb1
      go_wp2_with fail
      cases hh : hasI out x with
      | true =>
        have HH := Lib.hid hh
        have HN := Lib.hid (pl_skip HR.out HX.out hh)
        refine wk.region_tailU 23 [.is (.slice A' n' c'), .is (.slice (some ⟨b, o, none⟩) n c), .is (.int .i64 (k : Int)), .is (.pointer (some ⟨b, o + k * 3, none⟩)), .is (.pointer (some ⟨b, o + k * 3, none⟩)), .is (.int .i64 x.1), .is (.bool true), .is (.bool false), .is (.bool false), .is undef, .is undef, .is undef, .is undef, .is undef, .is undef, .is undef, .is undef, .is undef, .is undef, .is undef, .is undef, .is undef, .is (Value.bool false)] [some 13, some 14, some 15, some 16, some 17, some 18, some 19, some 20, some 21, some 22, some 23, some 24, some 25, some 26, some 27, some 28, some 29, some 30, some 31, some 32, some 33, some 34, some 35] (by kernel_rfl) (by kernel_rfl) (by kernel_rfl) (by kernel_rfl) [9, 10, 11, 12, 13, 14, 15, 16, 17, 18, 19, 20, 21] (by kernel_rfl) (by intro p hp; simp only [List.mem_cons, List.not_mem_nil, or_false] at hp; rcases hp with rfl | rfl | rfl | rfl | rfl | rfl | rfl | rfl | rfl | rfl | rfl | rfl | rfl <;> rfl) (by kernel_rfl) (by kernel_rfl) ?hstep ?hdone
        case hstep =>
          intro i o ho hi hns E w4 hb4 D
          have hi2 : i = 0 ∨ i = 1 ∨ i = 2 ∨ i = 3 ∨ i = 4 ∨ i = 5 ∨ i = 6 ∨ i = 7 ∨ i = 8 ∨ i = 9 ∨ i = 10 ∨ i = 11 ∨ i = 12 ∨ i = 13 ∨ i = 14 ∨ i = 15 ∨ i = 16 ∨ i = 17 ∨ i = 18 ∨ i = 19 ∨ i = 20 ∨ i = 21 ∨ i = 22 := by omega
          clear hi
          rcases hi2 with rfl | rfl | rfl | rfl | rfl | rfl | rfl | rfl | rfl | rfl | rfl | rfl | rfl | rfl | rfl | rfl | rfl | rfl | rfl | rfl | rfl | rfl | rfl
          ·
            have ho2 := (Array.getElem?_eq_some_iff.1 ho).2
            simp only [List.getElem_toArray, List.getElem_cons_zero] at ho2
            subst ho2
            clear ho
            have e1 := D.old 1 (by kernel_rfl)
            exact wk.does_move rfl (by rw [e1]; rfl)
          ·
            have ho2 := (Array.getElem?_eq_some_iff.1 ho).2
            simp only [List.getElem_toArray, List.getElem_cons_succ, List.getElem_cons_zero] at ho2
            subst ho2
            clear ho
            have e0 := D.old 0 (by kernel_rfl)
            exact wk.does_move rfl (by rw [e0]; rfl)
          ·
            have ho2 := (Array.getElem?_eq_some_iff.1 ho).2
            simp only [List.getElem_toArray, List.getElem_cons_succ, List.getElem_cons_zero] at ho2
            subst ho2
            clear ho
            have e6 := D.old 6 (by kernel_rfl)
            exact wk.does_move rfl (by rw [e6]; rfl)
          ·
            have ho2 := (Array.getElem?_eq_some_iff.1 ho).2
            simp only [List.getElem_toArray, List.getElem_cons_succ, List.getElem_cons_zero] at ho2
            subst ho2
            clear ho
            have e14 := D.is { on := 1, ground := .data } (by simp) rfl rfl 14 rfl
            have e15 := D.is { on := 2, ground := .data } (by simp) rfl rfl 15 rfl
            exact wk.does_run (by simp only [execOp]; rw [show E (.tmp 14) = _ from e14, show E (.tmp 15) = _ from e15]; go_simp; try (intro h0; omega)) rfl
          ·
            have ho2 := (Array.getElem?_eq_some_iff.1 ho).2
            simp only [List.getElem_toArray, List.getElem_cons_succ, List.getElem_cons_zero] at ho2
            subst ho2
            clear ho
            have e16 := D.is { on := 3, ground := .data } (by simp) rfl rfl 16 rfl
            exact wk.does_run (by simp only [execOp]; rw [show E (.tmp 16) = _ from e16]; go_simp) rfl
          ·
            have ho2 := (Array.getElem?_eq_some_iff.1 ho).2
            simp only [List.getElem_toArray, List.getElem_cons_succ, List.getElem_cons_zero] at ho2
            subst ho2
            clear ho
            have e17 := D.is { on := 4, ground := .data } (by simp) rfl rfl 17 rfl
            exact wk.does_load1 rfl e17 (isH_at (H.out.below ((HBEL.out).trans (((Below.refl _ _).drew.trans hb4).mono HBEL.out.size))) HX.out 0 _ rfl) Try.underlying3 rfl rfl
          ·
            have ho2 := (Array.getElem?_eq_some_iff.1 ho).2
            simp only [List.getElem_toArray, List.getElem_cons_succ, List.getElem_cons_zero] at ho2
            subst ho2
            clear ho
            have e13 := D.is { on := 0, ground := .data } (by simp) rfl rfl 13 rfl
            have e18 := D.is { on := 5, ground := .data } (by simp) rfl rfl 18 rfl
            refine wk.does_fn (f := 40) (vs := #[.slice A' n' c', .int .i64 x.1]) rfl (D.fn _) (by simp [e13, e18]) (by go_simp) ?_
            refine (rhasB_calls x.1 _ (H'.out.below ((HBEL.out).trans (((Below.refl _ _).drew.trans hb4).mono HBEL.out.size)))).mono ?_
            rintro e w7 ⟨rfl, hb7⟩
            exact ⟨_, rfl, hb7, congrArg Value.bool HH.out⟩
          ·
            have ho2 := (Array.getElem?_eq_some_iff.1 ho).2
            simp only [List.getElem_toArray, List.getElem_cons_succ, List.getElem_cons_zero] at ho2
            subst ho2
            clear ho
            have e19 := D.is { on := 6, ground := .data } (by simp) rfl rfl 19 rfl
            exact wk.does_un rfl (by rw [show E (.tmp 19) = _ from e19]; go_simp) rfl
          ·
            have ho2 := (Array.getElem?_eq_some_iff.1 ho).2
            simp only [List.getElem_toArray, List.getElem_cons_succ, List.getElem_cons_zero] at ho2
            subst ho2
            clear ho
            have e20 := D.is { on := 7, ground := .data } (by simp) rfl rfl 20 rfl
            exact wk.does_move rfl e20
          · cases (show false = true from hns.symm.trans (by kernel_rfl))
          · cases (show false = true from hns.symm.trans (by kernel_rfl))
          · cases (show false = true from hns.symm.trans (by kernel_rfl))
          · cases (show false = true from hns.symm.trans (by kernel_rfl))
          · cases (show false = true from hns.symm.trans (by kernel_rfl))
          · cases (show false = true from hns.symm.trans (by kernel_rfl))
          · cases (show false = true from hns.symm.trans (by kernel_rfl))
          · cases (show false = true from hns.symm.trans (by kernel_rfl))
          · cases (show false = true from hns.symm.trans (by kernel_rfl))
          · cases (show false = true from hns.symm.trans (by kernel_rfl))
          · cases (show false = true from hns.symm.trans (by kernel_rfl))
          · cases (show false = true from hns.symm.trans (by kernel_rfl))
          · cases (show false = true from hns.symm.trans (by kernel_rfl))
          ·
            have ho2 := (Array.getElem?_eq_some_iff.1 ho).2
            simp only [List.getElem_toArray, List.getElem_cons_succ, List.getElem_cons_zero] at ho2
            subst ho2
            clear ho
            have e21 := D.is { on := 8, ground := .data } (by simp) rfl rfl 21 rfl
            have e34 := D.is { on := 21, ground := .data } (by simp) rfl rfl 34 rfl
            exact wk.does_pick rfl e21 (D.con _)
        case hdone =>
          intro vals w4 hb4 hv
          have h22 := hv 22 (by omega)
          clear hv
          replace h22 : vals 22 = (Value.bool false) := h22
          simp only [List.drop_succ_cons, List.drop_zero, wpList, wk.setL, List.setIfInBounds_toArray, List.set_cons_zero, List.set_cons_succ, Nat.zero_add, Nat.reduceAdd, h22]
          generalize vals 0 = x0
          generalize vals 1 = x1
          generalize vals 2 = x2
          generalize vals 3 = x3
          generalize vals 4 = x4
          generalize vals 5 = x5
          generalize vals 6 = x6
          generalize vals 7 = x7
          generalize vals 8 = x8
          generalize vals 9 = x9
          generalize vals 10 = x10
          generalize vals 11 = x11
          generalize vals 12 = x12
          generalize vals 13 = x13
          generalize vals 14 = x14
          generalize vals 15 = x15
          generalize vals 16 = x16
          generalize vals 17 = x17
          generalize vals 18 = x18
          generalize vals 19 = x19
          generalize vals 20 = x20
          generalize vals 21 = x21
          have HB4 := Lib.hid (HBEL.out.trans (((Below.refl _ _).drew.trans hb4).mono HBEL.out.size))
          clear hb4
          go_wp2_with fail
          go_roundg (gk - 1)
          case measure => have := HK.out; omega
          case rel => exact ⟨k + 1, bi, by have := HK.out; omega, by go_num, rfl, HB4.out, HN.out⟩
      | false =>
        have HH := Lib.hid hh
        by_cases hbi : bi < 0
        · have HN := Lib.hid (pl_first HR.out hbi HX.out hh)
          refine wk.region_tailU 23 [.is (.slice A' n' c'), .is (.slice (some ⟨b, o, none⟩) n c), .is (.int .i64 (k : Int)), .is (.pointer (some ⟨b, o + k * 3, none⟩)), .is (.pointer (some ⟨b, o + k * 3, none⟩)), .is (.int .i64 x.1), .is (.bool false), .is (.bool true), .is (.bool true), .is (.int .i64 bi), .is (.bool true), .is (.bool true), .is undef, .is undef, .is undef, .is undef, .is undef, .is undef, .is undef, .is undef, .is undef, .is (Value.bool true), .is (Value.bool true)] [some 13, some 14, some 15, some 16, some 17, some 18, some 19, some 20, some 21, some 22, some 23, some 24, some 25, some 26, some 27, some 28, some 29, some 30, some 31, some 32, some 33, some 34, some 35] (by kernel_rfl) (by kernel_rfl) (by kernel_rfl) (by kernel_rfl) [12, 13, 14, 15, 16, 17, 18, 19, 20] (by kernel_rfl) (by intro p hp; simp only [List.mem_cons, List.not_mem_nil, or_false] at hp; rcases hp with rfl | rfl | rfl | rfl | rfl | rfl | rfl | rfl | rfl <;> rfl) (by kernel_rfl) (by kernel_rfl) ?hstep ?hdone
          case hstep =>
            intro i o ho hi hns E w4 hb4 D
            have hi2 : i = 0 ∨ i = 1 ∨ i = 2 ∨ i = 3 ∨ i = 4 ∨ i = 5 ∨ i = 6 ∨ i = 7 ∨ i = 8 ∨ i = 9 ∨ i = 10 ∨ i = 11 ∨ i = 12 ∨ i = 13 ∨ i = 14 ∨ i = 15 ∨ i = 16 ∨ i = 17 ∨ i = 18 ∨ i = 19 ∨ i = 20 ∨ i = 21 ∨ i = 22 := by omega
            clear hi
            rcases hi2 with rfl | rfl | rfl | rfl | rfl | rfl | rfl | rfl | rfl | rfl | rfl | rfl | rfl | rfl | rfl | rfl | rfl | rfl | rfl | rfl | rfl | rfl | rfl
            ·
              have ho2 := (Array.getElem?_eq_some_iff.1 ho).2
              simp only [List.getElem_toArray, List.getElem_cons_zero] at ho2
              subst ho2
              clear ho
              have e1 := D.old 1 (by kernel_rfl)
              exact wk.does_move rfl (by rw [e1]; rfl)
            ·
              have ho2 := (Array.getElem?_eq_some_iff.1 ho).2
              simp only [List.getElem_toArray, List.getElem_cons_succ, List.getElem_cons_zero] at ho2
              subst ho2
              clear ho
              have e0 := D.old 0 (by kernel_rfl)
              exact wk.does_move rfl (by rw [e0]; rfl)
            ·
              have ho2 := (Array.getElem?_eq_some_iff.1 ho).2
              simp only [List.getElem_toArray, List.getElem_cons_succ, List.getElem_cons_zero] at ho2
              subst ho2
              clear ho
              have e6 := D.old 6 (by kernel_rfl)
              exact wk.does_move rfl (by rw [e6]; rfl)
            ·
              have ho2 := (Array.getElem?_eq_some_iff.1 ho).2
              simp only [List.getElem_toArray, List.getElem_cons_succ, List.getElem_cons_zero] at ho2
              subst ho2
              clear ho
              have e14 := D.is { on := 1, ground := .data } (by simp) rfl rfl 14 rfl
              have e15 := D.is { on := 2, ground := .data } (by simp) rfl rfl 15 rfl
              exact wk.does_run (by simp only [execOp]; rw [show E (.tmp 14) = _ from e14, show E (.tmp 15) = _ from e15]; go_simp; try (intro h0; omega)) rfl
            ·
              have ho2 := (Array.getElem?_eq_some_iff.1 ho).2
              simp only [List.getElem_toArray, List.getElem_cons_succ, List.getElem_cons_zero] at ho2
              subst ho2
              clear ho
              have e16 := D.is { on := 3, ground := .data } (by simp) rfl rfl 16 rfl
              exact wk.does_run (by simp only [execOp]; rw [show E (.tmp 16) = _ from e16]; go_simp) rfl
            ·
              have ho2 := (Array.getElem?_eq_some_iff.1 ho).2
              simp only [List.getElem_toArray, List.getElem_cons_succ, List.getElem_cons_zero] at ho2
              subst ho2
              clear ho
              have e17 := D.is { on := 4, ground := .data } (by simp) rfl rfl 17 rfl
              exact wk.does_load1 rfl e17 (isH_at (H.out.below ((HBEL.out).trans (((Below.refl _ _).drew.trans hb4).mono HBEL.out.size))) HX.out 0 _ rfl) Try.underlying3 rfl rfl
            ·
              have ho2 := (Array.getElem?_eq_some_iff.1 ho).2
              simp only [List.getElem_toArray, List.getElem_cons_succ, List.getElem_cons_zero] at ho2
              subst ho2
              clear ho
              have e13 := D.is { on := 0, ground := .data } (by simp) rfl rfl 13 rfl
              have e18 := D.is { on := 5, ground := .data } (by simp) rfl rfl 18 rfl
              refine wk.does_fn (f := 40) (vs := #[.slice A' n' c', .int .i64 x.1]) rfl (D.fn _) (by simp [e13, e18]) (by go_simp) ?_
              refine (rhasB_calls x.1 _ (H'.out.below ((HBEL.out).trans (((Below.refl _ _).drew.trans hb4).mono HBEL.out.size)))).mono ?_
              rintro e w7 ⟨rfl, hb7⟩
              exact ⟨_, rfl, hb7, congrArg Value.bool HH.out⟩
            ·
              have ho2 := (Array.getElem?_eq_some_iff.1 ho).2
              simp only [List.getElem_toArray, List.getElem_cons_succ, List.getElem_cons_zero] at ho2
              subst ho2
              clear ho
              have e19 := D.is { on := 6, ground := .data } (by simp) rfl rfl 19 rfl
              exact wk.does_un rfl (by rw [show E (.tmp 19) = _ from e19]; go_simp) rfl
            ·
              have ho2 := (Array.getElem?_eq_some_iff.1 ho).2
              simp only [List.getElem_toArray, List.getElem_cons_succ, List.getElem_cons_zero] at ho2
              subst ho2
              clear ho
              have e20 := D.is { on := 7, ground := .data } (by simp) rfl rfl 20 rfl
              exact wk.does_move rfl e20
            ·
              have ho2 := (Array.getElem?_eq_some_iff.1 ho).2
              simp only [List.getElem_toArray, List.getElem_cons_succ, List.getElem_cons_zero] at ho2
              subst ho2
              clear ho
              have e5 := D.old 5 (by kernel_rfl)
              exact wk.does_move rfl (by rw [e5]; rfl)
            ·
              have ho2 := (Array.getElem?_eq_some_iff.1 ho).2
              simp only [List.getElem_toArray, List.getElem_cons_succ, List.getElem_cons_zero] at ho2
              subst ho2
              clear ho
              have e22 := D.is { on := 9, ground := .data } (by simp) rfl rfl 22 rfl
              exact wk.does_run (by simp only [execOp]; rw [show E (.tmp 22) = _ from e22, show E (.const (.int .i64 0)) = .int .i64 0 from D.con _]; go_simp; try omega) rfl
            ·
              have ho2 := (Array.getElem?_eq_some_iff.1 ho).2
              simp only [List.getElem_toArray, List.getElem_cons_succ, List.getElem_cons_zero] at ho2
              subst ho2
              clear ho
              have e23 := D.is { on := 10, ground := .data } (by simp) rfl rfl 23 rfl
              exact wk.does_move rfl e23
            · cases (show false = true from hns.symm.trans (by kernel_rfl))
            · cases (show false = true from hns.symm.trans (by kernel_rfl))
            · cases (show false = true from hns.symm.trans (by kernel_rfl))
            · cases (show false = true from hns.symm.trans (by kernel_rfl))
            · cases (show false = true from hns.symm.trans (by kernel_rfl))
            · cases (show false = true from hns.symm.trans (by kernel_rfl))
            · cases (show false = true from hns.symm.trans (by kernel_rfl))
            · cases (show false = true from hns.symm.trans (by kernel_rfl))
            · cases (show false = true from hns.symm.trans (by kernel_rfl))
            ·
              have ho2 := (Array.getElem?_eq_some_iff.1 ho).2
              simp only [List.getElem_toArray, List.getElem_cons_succ, List.getElem_cons_zero] at ho2
              subst ho2
              clear ho
              have e24 := D.is { on := 11, ground := .data } (by simp) rfl rfl 24 rfl
              have e33 := D.is { on := 20, ground := .data } (by simp) rfl rfl 33 rfl
              exact wk.does_pick rfl e24 (D.con _)
            ·
              have ho2 := (Array.getElem?_eq_some_iff.1 ho).2
              simp only [List.getElem_toArray, List.getElem_cons_succ, List.getElem_cons_zero] at ho2
              subst ho2
              clear ho
              have e21 := D.is { on := 8, ground := .data } (by simp) rfl rfl 21 rfl
              have e34 := D.is { on := 21, ground := .data } (by simp) rfl rfl 34 rfl
              exact wk.does_pick rfl e21 e34
          case hdone =>
            intro vals w4 hb4 hv
            have h22 := hv 22 (by omega)
            clear hv
            replace h22 : vals 22 = (Value.bool true) := h22
            simp only [List.drop_succ_cons, List.drop_zero, wpList, wk.setL, List.setIfInBounds_toArray, List.set_cons_zero, List.set_cons_succ, Nat.zero_add, Nat.reduceAdd, h22]
            generalize vals 0 = x0
            generalize vals 1 = x1
            generalize vals 2 = x2
            generalize vals 3 = x3
            generalize vals 4 = x4
            generalize vals 5 = x5
            generalize vals 6 = x6
            generalize vals 7 = x7
            generalize vals 8 = x8
            generalize vals 9 = x9
            generalize vals 10 = x10
            generalize vals 11 = x11
            generalize vals 12 = x12
            generalize vals 13 = x13
            generalize vals 14 = x14
            generalize vals 15 = x15
            generalize vals 16 = x16
            generalize vals 17 = x17
            generalize vals 18 = x18
            generalize vals 19 = x19
            generalize vals 20 = x20
            generalize vals 21 = x21
            have HB4 := Lib.hid (HBEL.out.trans (((Below.refl _ _).drew.trans hb4).mono HBEL.out.size))
            clear hb4
            go_wp2_with fail
            go_roundg (gk - 1)
            case measure => have := HK.out; omega
            case rel => exact ⟨k + 1, (k : Int), by have := HK.out; omega, by go_num, rfl, HB4.out, HN.out⟩
        · obtain ⟨j, y, rfl, hjk, hy⟩ : ∃ (j : Nat) (y : Int × Int × Int), bi = (j : Int) ∧ j < k ∧ l[j]? = some y := by
            rcases HR.out with ⟨h1, _⟩ | ⟨j, y, h1, h2, h3, _⟩
            · omega
            · exact ⟨j, y, h1, h2, h3⟩
          have HY := Lib.hid hy
          have hjn : j < n := by omega
          have hji : (j : Int) < (n : Int) := by omega
          clear hy
          cases hlt3 : lt x y with
          | true =>
            have HLT := Lib.hid hlt3
            have HN := Lib.hid (pl_less HR.out HY.out HX.out hh hlt3)
            refine wk.region_tailU 23 [.is (.slice A' n' c'), .is (.slice (some ⟨b, o, none⟩) n c), .is (.int .i64 (k : Int)), .is (.pointer (some ⟨b, o + k * 3, none⟩)), .is (.pointer (some ⟨b, o + k * 3, none⟩)), .is (.int .i64 x.1), .is (.bool false), .is (.bool true), .is (.bool true), .is (.int .i64 (j : Int)), .is (.bool false), .is (.bool false), .is (.slice (some ⟨b, o, none⟩) n c), .is (.int .i64 (k : Int)), .is (.pointer (some ⟨b, o + k * 3, none⟩)), .is (.agg #[.int .i64 x.1, .int .i64 x.2.1, .int .i64 x.2.2]), .is (.slice (some ⟨b, o, none⟩) n c), .is (.int .i64 (j : Int)), .is (.pointer (some ⟨b, o + j * 3, none⟩)), .is (.agg #[.int .i64 y.1, .int .i64 y.2.1, .int .i64 y.2.2]), .is (.bool true), .is (.bool true), .is (.bool true)] [some 13, some 14, some 15, some 16, some 17, some 18, some 19, some 20, some 21, some 22, some 23, some 24, some 25, some 26, some 27, some 28, some 29, some 30, some 31, some 32, some 33, some 34, some 35] (by kernel_rfl) (by kernel_rfl) (by kernel_rfl) (by kernel_rfl) [] (by kernel_rfl) (by intro p hp; cases hp) (by kernel_rfl) (by kernel_rfl) ?hstep ?hdone
            case hstep =>
              intro i o ho hi hns E w4 hb4 D
              have hi2 : i = 0 ∨ i = 1 ∨ i = 2 ∨ i = 3 ∨ i = 4 ∨ i = 5 ∨ i = 6 ∨ i = 7 ∨ i = 8 ∨ i = 9 ∨ i = 10 ∨ i = 11 ∨ i = 12 ∨ i = 13 ∨ i = 14 ∨ i = 15 ∨ i = 16 ∨ i = 17 ∨ i = 18 ∨ i = 19 ∨ i = 20 ∨ i = 21 ∨ i = 22 := by omega
              clear hi
              rcases hi2 with rfl | rfl | rfl | rfl | rfl | rfl | rfl | rfl | rfl | rfl | rfl | rfl | rfl | rfl | rfl | rfl | rfl | rfl | rfl | rfl | rfl | rfl | rfl
              ·
                have ho2 := (Array.getElem?_eq_some_iff.1 ho).2
                simp only [List.getElem_toArray, List.getElem_cons_zero] at ho2
                subst ho2
                clear ho
                have e1 := D.old 1 (by kernel_rfl)
                exact wk.does_move rfl (by rw [e1]; rfl)
              ·
                have ho2 := (Array.getElem?_eq_some_iff.1 ho).2
                simp only [List.getElem_toArray, List.getElem_cons_succ, List.getElem_cons_zero] at ho2
                subst ho2
                clear ho
                have e0 := D.old 0 (by kernel_rfl)
                exact wk.does_move rfl (by rw [e0]; rfl)
              ·
                have ho2 := (Array.getElem?_eq_some_iff.1 ho).2
                simp only [List.getElem_toArray, List.getElem_cons_succ, List.getElem_cons_zero] at ho2
                subst ho2
                clear ho
                have e6 := D.old 6 (by kernel_rfl)
                exact wk.does_move rfl (by rw [e6]; rfl)
              ·
                have ho2 := (Array.getElem?_eq_some_iff.1 ho).2
                simp only [List.getElem_toArray, List.getElem_cons_succ, List.getElem_cons_zero] at ho2
                subst ho2
                clear ho
                have e14 := D.is { on := 1, ground := .data } (by simp) rfl rfl 14 rfl
                have e15 := D.is { on := 2, ground := .data } (by simp) rfl rfl 15 rfl
                exact wk.does_run (by simp only [execOp]; rw [show E (.tmp 14) = _ from e14, show E (.tmp 15) = _ from e15]; go_simp; try (intro h0; omega)) rfl
              ·
                have ho2 := (Array.getElem?_eq_some_iff.1 ho).2
                simp only [List.getElem_toArray, List.getElem_cons_succ, List.getElem_cons_zero] at ho2
                subst ho2
                clear ho
                have e16 := D.is { on := 3, ground := .data } (by simp) rfl rfl 16 rfl
                exact wk.does_run (by simp only [execOp]; rw [show E (.tmp 16) = _ from e16]; go_simp) rfl
              ·
                have ho2 := (Array.getElem?_eq_some_iff.1 ho).2
                simp only [List.getElem_toArray, List.getElem_cons_succ, List.getElem_cons_zero] at ho2
                subst ho2
                clear ho
                have e17 := D.is { on := 4, ground := .data } (by simp) rfl rfl 17 rfl
                exact wk.does_load1 rfl e17 (isH_at (H.out.below ((HBEL.out).trans (((Below.refl _ _).drew.trans hb4).mono HBEL.out.size))) HX.out 0 _ rfl) Try.underlying3 rfl rfl
              ·
                have ho2 := (Array.getElem?_eq_some_iff.1 ho).2
                simp only [List.getElem_toArray, List.getElem_cons_succ, List.getElem_cons_zero] at ho2
                subst ho2
                clear ho
                have e13 := D.is { on := 0, ground := .data } (by simp) rfl rfl 13 rfl
                have e18 := D.is { on := 5, ground := .data } (by simp) rfl rfl 18 rfl
                refine wk.does_fn (f := 40) (vs := #[.slice A' n' c', .int .i64 x.1]) rfl (D.fn _) (by simp [e13, e18]) (by go_simp) ?_
                refine (rhasB_calls x.1 _ (H'.out.below ((HBEL.out).trans (((Below.refl _ _).drew.trans hb4).mono HBEL.out.size)))).mono ?_
                rintro e w7 ⟨rfl, hb7⟩
                exact ⟨_, rfl, hb7, congrArg Value.bool HH.out⟩
              ·
                have ho2 := (Array.getElem?_eq_some_iff.1 ho).2
                simp only [List.getElem_toArray, List.getElem_cons_succ, List.getElem_cons_zero] at ho2
                subst ho2
                clear ho
                have e19 := D.is { on := 6, ground := .data } (by simp) rfl rfl 19 rfl
                exact wk.does_un rfl (by rw [show E (.tmp 19) = _ from e19]; go_simp) rfl
              ·
                have ho2 := (Array.getElem?_eq_some_iff.1 ho).2
                simp only [List.getElem_toArray, List.getElem_cons_succ, List.getElem_cons_zero] at ho2
                subst ho2
                clear ho
                have e20 := D.is { on := 7, ground := .data } (by simp) rfl rfl 20 rfl
                exact wk.does_move rfl e20
              ·
                have ho2 := (Array.getElem?_eq_some_iff.1 ho).2
                simp only [List.getElem_toArray, List.getElem_cons_succ, List.getElem_cons_zero] at ho2
                subst ho2
                clear ho
                have e5 := D.old 5 (by kernel_rfl)
                exact wk.does_move rfl (by rw [e5]; rfl)
              ·
                have ho2 := (Array.getElem?_eq_some_iff.1 ho).2
                simp only [List.getElem_toArray, List.getElem_cons_succ, List.getElem_cons_zero] at ho2
                subst ho2
                clear ho
                have e22 := D.is { on := 9, ground := .data } (by simp) rfl rfl 22 rfl
                exact wk.does_run (by simp only [execOp]; rw [show E (.tmp 22) = _ from e22, show E (.const (.int .i64 0)) = .int .i64 0 from D.con _]; go_simp; try omega) rfl
              ·
                have ho2 := (Array.getElem?_eq_some_iff.1 ho).2
                simp only [List.getElem_toArray, List.getElem_cons_succ, List.getElem_cons_zero] at ho2
                subst ho2
                clear ho
                have e23 := D.is { on := 10, ground := .data } (by simp) rfl rfl 23 rfl
                exact wk.does_move rfl e23
              ·
                have ho2 := (Array.getElem?_eq_some_iff.1 ho).2
                simp only [List.getElem_toArray, List.getElem_cons_succ, List.getElem_cons_zero] at ho2
                subst ho2
                clear ho
                have e0 := D.old 0 (by kernel_rfl)
                exact wk.does_move rfl (by rw [e0]; rfl)
              ·
                have ho2 := (Array.getElem?_eq_some_iff.1 ho).2
                simp only [List.getElem_toArray, List.getElem_cons_succ, List.getElem_cons_zero] at ho2
                subst ho2
                clear ho
                have e6 := D.old 6 (by kernel_rfl)
                exact wk.does_move rfl (by rw [e6]; rfl)
              ·
                have ho2 := (Array.getElem?_eq_some_iff.1 ho).2
                simp only [List.getElem_toArray, List.getElem_cons_succ, List.getElem_cons_zero] at ho2
                subst ho2
                clear ho
                have e25 := D.is { on := 12, ground := .data } (by simp) rfl rfl 25 rfl
                have e26 := D.is { on := 13, ground := .data } (by simp) rfl rfl 26 rfl
                exact wk.does_run (by simp only [execOp]; rw [show E (.tmp 25) = _ from e25, show E (.tmp 26) = _ from e26]; go_simp; try (intro h0; omega)) rfl
              ·
                have ho2 := (Array.getElem?_eq_some_iff.1 ho).2
                simp only [List.getElem_toArray, List.getElem_cons_succ, List.getElem_cons_zero] at ho2
                subst ho2
                clear ho
                have e27 := D.is { on := 14, ground := .data } (by simp) rfl rfl 27 rfl
                exact wk.does_load_agg rfl e27 (cs := rv x) (isH_at (H.out.below ((HBEL.out).trans (((Below.refl _ _).drew.trans hb4).mono HBEL.out.size))) HX.out) Try.underlying27 rfl (by kernel_rfl) rfl
              ·
                have ho2 := (Array.getElem?_eq_some_iff.1 ho).2
                simp only [List.getElem_toArray, List.getElem_cons_succ, List.getElem_cons_zero] at ho2
                subst ho2
                clear ho
                have e0 := D.old 0 (by kernel_rfl)
                exact wk.does_move rfl (by rw [e0]; rfl)
              ·
                have ho2 := (Array.getElem?_eq_some_iff.1 ho).2
                simp only [List.getElem_toArray, List.getElem_cons_succ, List.getElem_cons_zero] at ho2
                subst ho2
                clear ho
                have e5 := D.old 5 (by kernel_rfl)
                exact wk.does_move rfl (by rw [e5]; rfl)
              ·
                have ho2 := (Array.getElem?_eq_some_iff.1 ho).2
                simp only [List.getElem_toArray, List.getElem_cons_succ, List.getElem_cons_zero] at ho2
                subst ho2
                clear ho
                have e29 := D.is { on := 16, ground := .data } (by simp) rfl rfl 29 rfl
                have e30 := D.is { on := 17, ground := .data } (by simp) rfl rfl 30 rfl
                exact wk.does_run (by simp only [execOp]; rw [show E (.tmp 29) = _ from e29, show E (.tmp 30) = _ from e30]; go_simp; try (intro h0; omega)) rfl
              ·
                have ho2 := (Array.getElem?_eq_some_iff.1 ho).2
                simp only [List.getElem_toArray, List.getElem_cons_succ, List.getElem_cons_zero] at ho2
                subst ho2
                clear ho
                have e31 := D.is { on := 18, ground := .data } (by simp) rfl rfl 31 rfl
                exact wk.does_load_agg rfl e31 (cs := rv y) (isH_at (H.out.below ((HBEL.out).trans (((Below.refl _ _).drew.trans hb4).mono HBEL.out.size))) HY.out) Try.underlying27 rfl (by kernel_rfl) rfl
              ·
                have ho2 := (Array.getElem?_eq_some_iff.1 ho).2
                simp only [List.getElem_toArray, List.getElem_cons_succ, List.getElem_cons_zero] at ho2
                subst ho2
                clear ho
                have e28 := D.is { on := 15, ground := .data } (by simp) rfl rfl 28 rfl
                have e32 := D.is { on := 19, ground := .data } (by simp) rfl rfl 32 rfl
                refine wk.does_fn (f := 14) (vs := #[.agg #[.int .i64 x.1, .int .i64 x.2.1, .int .i64 x.2.2], .agg #[.int .i64 y.1, .int .i64 y.2.1, .int .i64 y.2.2]]) rfl (D.fn _) (by simp [e28, e32]) (by go_simp) ?_
                refine (rless_calls x y _).mono ?_
                rintro e w7 ⟨rfl, hb7⟩
                exact ⟨_, rfl, hb7, congrArg Value.bool HLT.out⟩
              ·
                have ho2 := (Array.getElem?_eq_some_iff.1 ho).2
                simp only [List.getElem_toArray, List.getElem_cons_succ, List.getElem_cons_zero] at ho2
                subst ho2
                clear ho
                have e24 := D.is { on := 11, ground := .data } (by simp) rfl rfl 24 rfl
                have e33 := D.is { on := 20, ground := .data } (by simp) rfl rfl 33 rfl
                exact wk.does_pick rfl e24 e33
              ·
                have ho2 := (Array.getElem?_eq_some_iff.1 ho).2
                simp only [List.getElem_toArray, List.getElem_cons_succ, List.getElem_cons_zero] at ho2
                subst ho2
                clear ho
                have e21 := D.is { on := 8, ground := .data } (by simp) rfl rfl 21 rfl
                have e34 := D.is { on := 21, ground := .data } (by simp) rfl rfl 34 rfl
                exact wk.does_pick rfl e21 e34
            case hdone =>
              intro vals w4 hb4 hv
              have h22 := hv 22 (by omega)
              clear hv
              replace h22 : vals 22 = (.bool true) := h22
              simp only [List.drop_succ_cons, List.drop_zero, wpList, wk.setL, List.setIfInBounds_toArray, List.set_cons_zero, List.set_cons_succ, Nat.zero_add, Nat.reduceAdd, h22]
              generalize vals 0 = x0
              generalize vals 1 = x1
              generalize vals 2 = x2
              generalize vals 3 = x3
              generalize vals 4 = x4
              generalize vals 5 = x5
              generalize vals 6 = x6
              generalize vals 7 = x7
              generalize vals 8 = x8
              generalize vals 9 = x9
              generalize vals 10 = x10
              generalize vals 11 = x11
              generalize vals 12 = x12
              generalize vals 13 = x13
              generalize vals 14 = x14
              generalize vals 15 = x15
              generalize vals 16 = x16
              generalize vals 17 = x17
              generalize vals 18 = x18
              generalize vals 19 = x19
              generalize vals 20 = x20
              generalize vals 21 = x21
              have HB4 := Lib.hid (HBEL.out.trans (((Below.refl _ _).drew.trans hb4).mono HBEL.out.size))
              clear hb4
              go_wp2_with fail
              go_roundg (gk - 1)
              case measure => have := HK.out; omega
              case rel => exact ⟨k + 1, (k : Int), by have := HK.out; omega, by go_num, rfl, HB4.out, HN.out⟩
          | false =>
            have HLT := Lib.hid hlt3
            have HN := Lib.hid (pl_keep HR.out HY.out HX.out hlt3)
            refine wk.region_tailU 23 [.is (.slice A' n' c'), .is (.slice (some ⟨b, o, none⟩) n c), .is (.int .i64 (k : Int)), .is (.pointer (some ⟨b, o + k * 3, none⟩)), .is (.pointer (some ⟨b, o + k * 3, none⟩)), .is (.int .i64 x.1), .is (.bool false), .is (.bool true), .is (.bool true), .is (.int .i64 (j : Int)), .is (.bool false), .is (.bool false), .is (.slice (some ⟨b, o, none⟩) n c), .is (.int .i64 (k : Int)), .is (.pointer (some ⟨b, o + k * 3, none⟩)), .is (.agg #[.int .i64 x.1, .int .i64 x.2.1, .int .i64 x.2.2]), .is (.slice (some ⟨b, o, none⟩) n c), .is (.int .i64 (j : Int)), .is (.pointer (some ⟨b, o + j * 3, none⟩)), .is (.agg #[.int .i64 y.1, .int .i64 y.2.1, .int .i64 y.2.2]), .is (.bool false), .is (.bool false), .is (.bool false)] [some 13, some 14, some 15, some 16, some 17, some 18, some 19, some 20, some 21, some 22, some 23, some 24, some 25, some 26, some 27, some 28, some 29, some 30, some 31, some 32, some 33, some 34, some 35] (by kernel_rfl) (by kernel_rfl) (by kernel_rfl) (by kernel_rfl) [] (by kernel_rfl) (by intro p hp; cases hp) (by kernel_rfl) (by kernel_rfl) ?hstep ?hdone
            case hstep =>
              intro i o ho hi hns E w4 hb4 D
              have hi2 : i = 0 ∨ i = 1 ∨ i = 2 ∨ i = 3 ∨ i = 4 ∨ i = 5 ∨ i = 6 ∨ i = 7 ∨ i = 8 ∨ i = 9 ∨ i = 10 ∨ i = 11 ∨ i = 12 ∨ i = 13 ∨ i = 14 ∨ i = 15 ∨ i = 16 ∨ i = 17 ∨ i = 18 ∨ i = 19 ∨ i = 20 ∨ i = 21 ∨ i = 22 := by omega
              clear hi
              rcases hi2 with rfl | rfl | rfl | rfl | rfl | rfl | rfl | rfl | rfl | rfl | rfl | rfl | rfl | rfl | rfl | rfl | rfl | rfl | rfl | rfl | rfl | rfl | rfl
              ·
                have ho2 := (Array.getElem?_eq_some_iff.1 ho).2
                simp only [List.getElem_toArray, List.getElem_cons_zero] at ho2
                subst ho2
                clear ho
                have e1 := D.old 1 (by kernel_rfl)
                exact wk.does_move rfl (by rw [e1]; rfl)
              ·
                have ho2 := (Array.getElem?_eq_some_iff.1 ho).2
                simp only [List.getElem_toArray, List.getElem_cons_succ, List.getElem_cons_zero] at ho2
                subst ho2
                clear ho
                have e0 := D.old 0 (by kernel_rfl)
                exact wk.does_move rfl (by rw [e0]; rfl)
              ·
                have ho2 := (Array.getElem?_eq_some_iff.1 ho).2
                simp only [List.getElem_toArray, List.getElem_cons_succ, List.getElem_cons_zero] at ho2
                subst ho2
                clear ho
                have e6 := D.old 6 (by kernel_rfl)
                exact wk.does_move rfl (by rw [e6]; rfl)
              ·
                have ho2 := (Array.getElem?_eq_some_iff.1 ho).2
                simp only [List.getElem_toArray, List.getElem_cons_succ, List.getElem_cons_zero] at ho2
                subst ho2
                clear ho
                have e14 := D.is { on := 1, ground := .data } (by simp) rfl rfl 14 rfl
                have e15 := D.is { on := 2, ground := .data } (by simp) rfl rfl 15 rfl
                exact wk.does_run (by simp only [execOp]; rw [show E (.tmp 14) = _ from e14, show E (.tmp 15) = _ from e15]; go_simp; try (intro h0; omega)) rfl
              ·
                have ho2 := (Array.getElem?_eq_some_iff.1 ho).2
                simp only [List.getElem_toArray, List.getElem_cons_succ, List.getElem_cons_zero] at ho2
                subst ho2
                clear ho
                have e16 := D.is { on := 3, ground := .data } (by simp) rfl rfl 16 rfl
                exact wk.does_run (by simp only [execOp]; rw [show E (.tmp 16) = _ from e16]; go_simp) rfl
              ·
                have ho2 := (Array.getElem?_eq_some_iff.1 ho).2
                simp only [List.getElem_toArray, List.getElem_cons_succ, List.getElem_cons_zero] at ho2
                subst ho2
                clear ho
                have e17 := D.is { on := 4, ground := .data } (by simp) rfl rfl 17 rfl
                exact wk.does_load1 rfl e17 (isH_at (H.out.below ((HBEL.out).trans (((Below.refl _ _).drew.trans hb4).mono HBEL.out.size))) HX.out 0 _ rfl) Try.underlying3 rfl rfl
              ·
                have ho2 := (Array.getElem?_eq_some_iff.1 ho).2
                simp only [List.getElem_toArray, List.getElem_cons_succ, List.getElem_cons_zero] at ho2
                subst ho2
                clear ho
                have e13 := D.is { on := 0, ground := .data } (by simp) rfl rfl 13 rfl
                have e18 := D.is { on := 5, ground := .data } (by simp) rfl rfl 18 rfl
                refine wk.does_fn (f := 40) (vs := #[.slice A' n' c', .int .i64 x.1]) rfl (D.fn _) (by simp [e13, e18]) (by go_simp) ?_
                refine (rhasB_calls x.1 _ (H'.out.below ((HBEL.out).trans (((Below.refl _ _).drew.trans hb4).mono HBEL.out.size)))).mono ?_
                rintro e w7 ⟨rfl, hb7⟩
                exact ⟨_, rfl, hb7, congrArg Value.bool HH.out⟩
              ·
                have ho2 := (Array.getElem?_eq_some_iff.1 ho).2
                simp only [List.getElem_toArray, List.getElem_cons_succ, List.getElem_cons_zero] at ho2
                subst ho2
                clear ho
                have e19 := D.is { on := 6, ground := .data } (by simp) rfl rfl 19 rfl
                exact wk.does_un rfl (by rw [show E (.tmp 19) = _ from e19]; go_simp) rfl
              ·
                have ho2 := (Array.getElem?_eq_some_iff.1 ho).2
                simp only [List.getElem_toArray, List.getElem_cons_succ, List.getElem_cons_zero] at ho2
                subst ho2
                clear ho
                have e20 := D.is { on := 7, ground := .data } (by simp) rfl rfl 20 rfl
                exact wk.does_move rfl e20
              ·
                have ho2 := (Array.getElem?_eq_some_iff.1 ho).2
                simp only [List.getElem_toArray, List.getElem_cons_succ, List.getElem_cons_zero] at ho2
                subst ho2
                clear ho
                have e5 := D.old 5 (by kernel_rfl)
                exact wk.does_move rfl (by rw [e5]; rfl)
              ·
                have ho2 := (Array.getElem?_eq_some_iff.1 ho).2
                simp only [List.getElem_toArray, List.getElem_cons_succ, List.getElem_cons_zero] at ho2
                subst ho2
                clear ho
                have e22 := D.is { on := 9, ground := .data } (by simp) rfl rfl 22 rfl
                exact wk.does_run (by simp only [execOp]; rw [show E (.tmp 22) = _ from e22, show E (.const (.int .i64 0)) = .int .i64 0 from D.con _]; go_simp; try omega) rfl
              ·
                have ho2 := (Array.getElem?_eq_some_iff.1 ho).2
                simp only [List.getElem_toArray, List.getElem_cons_succ, List.getElem_cons_zero] at ho2
                subst ho2
                clear ho
                have e23 := D.is { on := 10, ground := .data } (by simp) rfl rfl 23 rfl
                exact wk.does_move rfl e23
              ·
                have ho2 := (Array.getElem?_eq_some_iff.1 ho).2
                simp only [List.getElem_toArray, List.getElem_cons_succ, List.getElem_cons_zero] at ho2
                subst ho2
                clear ho
                have e0 := D.old 0 (by kernel_rfl)
                exact wk.does_move rfl (by rw [e0]; rfl)
              ·
                have ho2 := (Array.getElem?_eq_some_iff.1 ho).2
                simp only [List.getElem_toArray, List.getElem_cons_succ, List.getElem_cons_zero] at ho2
                subst ho2
                clear ho
                have e6 := D.old 6 (by kernel_rfl)
                exact wk.does_move rfl (by rw [e6]; rfl)
              ·
                have ho2 := (Array.getElem?_eq_some_iff.1 ho).2
                simp only [List.getElem_toArray, List.getElem_cons_succ, List.getElem_cons_zero] at ho2
                subst ho2
                clear ho
                have e25 := D.is { on := 12, ground := .data } (by simp) rfl rfl 25 rfl
                have e26 := D.is { on := 13, ground := .data } (by simp) rfl rfl 26 rfl
                exact wk.does_run (by simp only [execOp]; rw [show E (.tmp 25) = _ from e25, show E (.tmp 26) = _ from e26]; go_simp; try (intro h0; omega)) rfl
              ·
                have ho2 := (Array.getElem?_eq_some_iff.1 ho).2
                simp only [List.getElem_toArray, List.getElem_cons_succ, List.getElem_cons_zero] at ho2
                subst ho2
                clear ho
                have e27 := D.is { on := 14, ground := .data } (by simp) rfl rfl 27 rfl
                exact wk.does_load_agg rfl e27 (cs := rv x) (isH_at (H.out.below ((HBEL.out).trans (((Below.refl _ _).drew.trans hb4).mono HBEL.out.size))) HX.out) Try.underlying27 rfl (by kernel_rfl) rfl
              ·
                have ho2 := (Array.getElem?_eq_some_iff.1 ho).2
                simp only [List.getElem_toArray, List.getElem_cons_succ, List.getElem_cons_zero] at ho2
                subst ho2
                clear ho
                have e0 := D.old 0 (by kernel_rfl)
                exact wk.does_move rfl (by rw [e0]; rfl)
              ·
                have ho2 := (Array.getElem?_eq_some_iff.1 ho).2
                simp only [List.getElem_toArray, List.getElem_cons_succ, List.getElem_cons_zero] at ho2
                subst ho2
                clear ho
                have e5 := D.old 5 (by kernel_rfl)
                exact wk.does_move rfl (by rw [e5]; rfl)
              ·
                have ho2 := (Array.getElem?_eq_some_iff.1 ho).2
                simp only [List.getElem_toArray, List.getElem_cons_succ, List.getElem_cons_zero] at ho2
                subst ho2
                clear ho
                have e29 := D.is { on := 16, ground := .data } (by simp) rfl rfl 29 rfl
                have e30 := D.is { on := 17, ground := .data } (by simp) rfl rfl 30 rfl
                exact wk.does_run (by simp only [execOp]; rw [show E (.tmp 29) = _ from e29, show E (.tmp 30) = _ from e30]; go_simp; try (intro h0; omega)) rfl
              ·
                have ho2 := (Array.getElem?_eq_some_iff.1 ho).2
                simp only [List.getElem_toArray, List.getElem_cons_succ, List.getElem_cons_zero] at ho2
                subst ho2
                clear ho
                have e31 := D.is { on := 18, ground := .data } (by simp) rfl rfl 31 rfl
                exact wk.does_load_agg rfl e31 (cs := rv y) (isH_at (H.out.below ((HBEL.out).trans (((Below.refl _ _).drew.trans hb4).mono HBEL.out.size))) HY.out) Try.underlying27 rfl (by kernel_rfl) rfl
              ·
                have ho2 := (Array.getElem?_eq_some_iff.1 ho).2
                simp only [List.getElem_toArray, List.getElem_cons_succ, List.getElem_cons_zero] at ho2
                subst ho2
                clear ho
                have e28 := D.is { on := 15, ground := .data } (by simp) rfl rfl 28 rfl
                have e32 := D.is { on := 19, ground := .data } (by simp) rfl rfl 32 rfl
                refine wk.does_fn (f := 14) (vs := #[.agg #[.int .i64 x.1, .int .i64 x.2.1, .int .i64 x.2.2], .agg #[.int .i64 y.1, .int .i64 y.2.1, .int .i64 y.2.2]]) rfl (D.fn _) (by simp [e28, e32]) (by go_simp) ?_
                refine (rless_calls x y _).mono ?_
                rintro e w7 ⟨rfl, hb7⟩
                exact ⟨_, rfl, hb7, congrArg Value.bool HLT.out⟩
              ·
                have ho2 := (Array.getElem?_eq_some_iff.1 ho).2
                simp only [List.getElem_toArray, List.getElem_cons_succ, List.getElem_cons_zero] at ho2
                subst ho2
                clear ho
                have e24 := D.is { on := 11, ground := .data } (by simp) rfl rfl 24 rfl
                have e33 := D.is { on := 20, ground := .data } (by simp) rfl rfl 33 rfl
                exact wk.does_pick rfl e24 e33
              ·
                have ho2 := (Array.getElem?_eq_some_iff.1 ho).2
                simp only [List.getElem_toArray, List.getElem_cons_succ, List.getElem_cons_zero] at ho2
                subst ho2
                clear ho
                have e21 := D.is { on := 8, ground := .data } (by simp) rfl rfl 21 rfl
                have e34 := D.is { on := 21, ground := .data } (by simp) rfl rfl 34 rfl
                exact wk.does_pick rfl e21 e34
            case hdone =>
              intro vals w4 hb4 hv
              have h22 := hv 22 (by omega)
              clear hv
              replace h22 : vals 22 = (.bool false) := h22
              simp only [List.drop_succ_cons, List.drop_zero, wpList, wk.setL, List.setIfInBounds_toArray, List.set_cons_zero, List.set_cons_succ, Nat.zero_add, Nat.reduceAdd, h22]
              generalize vals 0 = x0
              generalize vals 1 = x1
              generalize vals 2 = x2
              generalize vals 3 = x3
              generalize vals 4 = x4
              generalize vals 5 = x5
              generalize vals 6 = x6
              generalize vals 7 = x7
              generalize vals 8 = x8
              generalize vals 9 = x9
              generalize vals 10 = x10
              generalize vals 11 = x11
              generalize vals 12 = x12
              generalize vals 13 = x13
              generalize vals 14 = x14
              generalize vals 15 = x15
              generalize vals 16 = x16
              generalize vals 17 = x17
              generalize vals 18 = x18
              generalize vals 19 = x19
              generalize vals 20 = x20
              generalize vals 21 = x21
              have HB4 := Lib.hid (HBEL.out.trans (((Below.refl _ _).drew.trans hb4).mono HBEL.out.size))
              clear hb4
              go_wp2_with fail
              go_roundg (gk - 1)
              case measure => have := HK.out; omega
              case rel => exact ⟨k + 1, (j : Int), by have := HK.out; omega, by go_num, rfl, HB4.out, HN.out⟩
    · obtain rfl : k = n := by omega
      go_wp2_with fail
      go_ret
      exact ⟨_, rfl, HR.out, HBEL.out⟩
end Go.Proofs.Ytckipafciomklaa.bk
/- The reference's Of. -/
namespace Go.Proofs.Ytckipafciomklaa.bk

open Go.ChangeShapes Go.WideShapes Go.ChangeAt Go.RowKit

open Go.Proofs.Ytckipafciomklaa.bq Go.Proofs.Ytckipafciomklaa.vk Go.Proofs.Ytckipafciomklaa.wk

set_option linter.unusedVariables false
attribute [local go_sem] Oper.semAt_some
theorem pl_none {l : List H} {j : Nat} (h : Pl l (ofL l j) l.length (-1)) (hj : (ofL l j).length = j) : bst l = ofL l j := by
  have hall : ∀ x ∈ l, hasI (ofL l j) x = true := by
    rcases h with ⟨_, h2⟩ | ⟨i, x, h1, _⟩
    · rwa [List.take_length] at h2
    · omega
  have h1 := pigeon (a := (bst l).map fun x : H => x.1) (b := (ofL l j).map fun x : H => x.1) (lst_bst l).2 fun i hi => by
    obtain ⟨x, hx, rfl⟩ := List.mem_map.1 hi
    exact hasI_iff.1 (hall x (mem_bst.1 hx).1)
  rw [List.length_map, List.length_map, hj] at h1
  unfold ofL
  rw [List.take_of_length_le h1]
theorem pl_next {l : List H} {j i : Nat} (h : Pl l (ofL l j) l.length (i : Int)) (hj : (ofL l j).length = j) : ∃ x, l[i]? = some x ∧ ofL l (j + 1) = ofL l j ++ [x] := by
  rcases h with ⟨h1, _⟩ | ⟨i', x, h1, _, hx, hn, hmin⟩
  · omega
  · obtain rfl : i' = i := by omega
    rw [List.take_length] at hmin
    refine ⟨x, hx, ?_⟩
    have hxl := List.mem_of_getElem? hx
    have hout : ∀ g : H, g.1 = x.1 → hasI (ofL l j) g = false := fun g e => by
      have : hasI (ofL l j) g = hasI (ofL l j) x := by unfold hasI; rw [e]
      rw [this, hn]
    have hb : x ∈ bst l := mem_bst.2 ⟨hxl, fun g hg e => hmin g hg (hout g e)⟩
    obtain ⟨m, hm, hme⟩ := List.mem_iff_getElem.1 hb
    have hmj : j ≤ m := by
      refine Nat.le_of_not_lt fun hlt => ?_
      have : x ∈ ofL l j := by
        unfold ofL
        exact List.mem_iff_getElem.2 ⟨m, by rw [List.length_take]; omega, by rw [List.getElem_take]; exact hme⟩
      have h2 : hasI (ofL l j) x = true := hasI_iff.2 (List.mem_map.2 ⟨x, this, rfl⟩)
      rw [hn] at h2; cases h2
    have hjl : j < (bst l).length := by omega
    have hmj2 : m = j := by
      refine Nat.le_antisymm (Nat.le_of_not_lt fun hlt => ?_) hmj
      have hz : (bst l)[j] ∈ bst l := List.getElem_mem hjl
      have hzn : hasI (ofL l j) (bst l)[j] = false := by
        rw [← Bool.not_eq_true, hasI_iff]
        intro hh
        obtain ⟨y, hy, e⟩ := List.mem_map.1 hh
        obtain ⟨q, hq, hqe⟩ := List.mem_iff_getElem.1 hy
        unfold ofL at hq hqe
        rw [List.length_take] at hq
        rw [List.getElem_take] at hqe
        have hyb : y ∈ bst l := List.mem_of_mem_take hy
        have h3 := id_bst hyb hz e
        have h4 := List.pairwise_iff_getElem.1 (asc_bst l) q j (by omega) hjl (by omega)
        rw [hqe, h3, lt_irrefl] at h4
        cases h4
      have h1 := hmin _ (mem_bst.1 hz).1 hzn
      have h2 := List.pairwise_iff_getElem.1 (asc_bst l) j m hjl hm hlt
      rw [hme, h1] at h2
      cases h2
    subst hmj2
    unfold ofL
    rw [List.take_add_one, List.getElem?_eq_getElem hm, hme]; rfl
theorem ofL_stop {l : List H} {j : Nat} (k : Nat) (h : bst l = ofL l j) (hj : (ofL l j).length = j) (hk : j ≤ k) : ofL l k = ofL l j := by
  have : (bst l).length = j := by rw [h, hj]
  unfold ofL
  rw [List.take_of_length_le (by omega), List.take_of_length_le (by omega)]
set_option maxRecDepth 100000 in
set_option maxHeartbeats 4000000 in
theorem rof_calls {l : List H} {A : Option Addr} {n c : Nat} (k : Int) (w : World) (h : IsH w A n c l) (hk : k ≤ 1000000) : Calls Try.prog 19 #[.slice A n c, .int .i64 k] w fun e w' => ∃ A' n' c', e = .returned (.slice A' n' c') ∧ IsH w' A' n' c' (ofL l k.toNat) ∧ Below w.heap.size w w' := by
  have hm := h.2.2.1
  have hnc := h.2.1
  have HS := Lib.hid h
  have HLN := Lib.hid h.1
  clear h
  go_enter Try.func19, Try.ntmps19
  go_wp2_with fail
  go_loopg [5] k.toNat (fun g y wr => ∃ (j : Nat) (A1 : Option Addr) (c1 : Nat), j + g = k.toNat ∧ y = .slice A1 j c1 ∧ wr.ownsRow w.heap.size 27 3 (.slice A1 j c1) j (fl (ofL l j)) ∧ Below w.heap.size w wr)
  case atStart => exact ⟨0, none, 0, by omega, rfl, World.ownsRow_nil _ _ _ _, Below.refl _ _⟩
  case round =>
    obtain ⟨j, A1, c1, hj, rfl, hown, hbel⟩ := hrel
    have HWD : ∀ m : Nat, ∀ r ∈ ofL l m, Wd r := fun m r hr => HS.out.2.2.2.2.1 r (ofL_mem hr)
    obtain ⟨A2, c2, e1, hI⟩ := isH_of_own hown (HWD j)
    cases e1
    have HJ := Lib.hid hj
    have HOWN := Lib.hid hown
    have HBEL := Lib.hid hbel
    have HI := Lib.hid hI
    have hlj := hI.1
    have HLJ := Lib.hid hlj
    have hjc := hI.2.1
    have hjm := hI.2.2.1
    have HWD2 := Lib.hid HWD
    clear hown hbel hI HWD hlj hj
    by_cases hlt : (j : Int) < k
    · go_wp2_with fail
      refine (rplace_calls _ (HS.out.below HBEL.out) HI.out).mono ?_
      rintro e w4 ⟨i, rfl, hP, hb⟩
      have hB4 := HBEL.out.trans (hb.mono HBEL.out.size)
      have HB4 := Lib.hid hB4
      have HO4 := Lib.hid (keptB HOWN.out hb)
      have HI4 := Lib.hid (HI.out.below hb)
      clear hB4 hb
      rw [← HLN.out] at hP
      by_cases hi : i < 0
      · obtain rfl : i = -1 := by
          rcases hP with ⟨h1, _⟩ | ⟨q, x, h1, _⟩
          · exact h1
          · omega
        have HST := Lib.hid (ofL_stop k.toNat (pl_none hP HLJ.out) HLJ.out (by omega))
        clear hP
        go_wp2_with fail
        go_ret
        exact ⟨_, _, _, rfl, by rw [HST.out]; exact HI4.out, HB4.out⟩
      · obtain ⟨q, rfl⟩ : ∃ q : Nat, i = (q : Int) := ⟨i.toNat, by omega⟩
        obtain ⟨x, hx, hnx⟩ := pl_next hP HLJ.out
        have hqn : q < n := by have := (List.getElem?_eq_some_iff.1 hx).1; rw [HLN.out] at this; exact this
        obtain ⟨b, o, x', rfl, hx1, hx2, hx3, hb1, hX, hwx⟩ := isH_get (HS.out.below HB4.out) hqn
        rw [hx] at hX
        cases hX
        have hqi : (q : Int) < (n : Int) := by omega
        have HNX := Lib.hid hnx
        have HWX := Lib.hid hwx
        clear hP hx hnx hwx hb1
        go_wp2_with (at_builtin; refine wpList_appH rfl _ _ rfl w.heap.size _ _ _ rfl (keptB HO4.out (below_new w4 (.cells #[.int .i64 x.1, .int .i64 x.2.1, .int .i64 x.2.2] 27))) _ 1 1 [x] rfl (isH_one (RowH.new _ x) HWX.out (Nat.le_refl _) (by omega)) ?c3 ?c5 ?_)
        case c3 => omega
        case c5 => have := HB4.out.size; rw [size_new]; omega
        intro A' n' c' w5 hown5 hgrow
        have hn' : n' = j + 1 := by
          have h1 := hown5.2
          rcases h1 with ⟨hv, h2⟩ | ⟨g', cap', cur', hv, _⟩
          · cases hv; omega
          · cases hv; rfl
        subst hn'
        have HB5 : Hid (Below w.heap.size w w5) := (HB4.out.trans ((below_new w4 (.cells #[.int .i64 x.1, .int .i64 x.2.1, .int .i64 x.2.2] 27)).mono HB4.out.size)).grown hgrow (by have := HB4.out.size; rw [size_new]; omega) (fun g hg => ((keptB HO4.out (below_new w4 (.cells #[.int .i64 x.1, .int .i64 x.2.1, .int .i64 x.2.2] 27))).lt g hg).1)
        have HO5 : Hid (w5.ownsRow w.heap.size 27 3 (.slice A' (j + 1) c') (j + 1) (fl (ofL l (j + 1)))) := by
          have h := hown5
          have e : fl (ofL l j) ++ fl [x] = fl (ofL l (j + 1)) := by rw [HNX.out, fl_append]
          rw [e] at h
          exact h
        clear hown5 hgrow
        go_wp2_with fail
        go_roundg (gk - 1)
        case measure => have := HJ.out; omega
        case rel => exact ⟨j + 1, A', c', by have := HJ.out; omega, rfl, HO5.out, HB5.out⟩
    · have hjk : ofL l j = ofL l k.toNat := by
        by_cases h0 : j = k.toNat
        · rw [h0]
        · have := HJ.out; omega
      have HJK := Lib.hid hjk
      clear hjk
      go_wp2_with fail
      go_ret
      exact ⟨_, _, _, rfl, by rw [← HJK.out]; exact HI.out, HBEL.out⟩
end Go.Proofs.Ytckipafciomklaa.bk
/- The reference's Merge. -/
namespace Go.Proofs.Ytckipafciomklaa.bk

open Go.ChangeShapes Go.WideShapes Go.ChangeAt Go.RowKit

open Go.Proofs.Ytckipafciomklaa.bq Go.Proofs.Ytckipafciomklaa.vk Go.Proofs.Ytckipafciomklaa.wk

set_option linter.unusedVariables false
attribute [local go_sem] Oper.semAt_some
set_option maxRecDepth 100000 in
set_option maxHeartbeats 4000000 in
theorem rmerge_calls {a b : List H} {A A' : Option Addr} {n c n' c' : Nat} (k : Int) (w : World) (h : IsH w A n c a) (h' : IsH w A' n' c' b) (hn : n + n' ≤ 1000) (hk : k ≤ 1000000) : Calls Try.prog 26 #[.slice A n c, .slice A' n' c', .int .i64 k] w fun e w' => ∃ A2 n2 c2, e = .returned (.slice A2 n2 c2) ∧ IsH w' A2 n2 c2 (ofL (a ++ b) k.toNat) ∧ Below w.heap.size w w' := by
  have HC := Lib.hid (isH_below h (below_new w (.cells #[] 27)))
  have HD0 := Lib.hid h'
  have HO : Hid ((w.alloc (.cells #[] 27)).ownsRow w.heap.size 27 3 (.slice (some ⟨w.heap.size, 0, none⟩) 0 0) 0 []) := World.ownsRow_lit (base := w.heap.size) w #[] 0 (Nat.le_refl _) (by unfold maxLen; omega) rfl
  have HWD : Hid (∀ r ∈ a ++ b, Wd r) := fun r hr => by
    rcases List.mem_append.1 hr with hr | hr
    · exact h.2.2.2.2.1 r hr
    · exact h'.2.2.2.2.1 r hr
  have hla := h.1
  have hlb := h'.1
  clear h h'
  go_enter Try.func26, Try.ntmps26
  go_wp2_with (at_builtin; refine wpList_appH rfl _ _ rfl w.heap.size _ _ _ rfl HO.out _ n c a rfl HC.out ?c3 ?c5 ?_)
  case c3 => omega
  case c5 => rw [size_new]; omega
  intro A1 n1 c1 w2 hown1 hg1
  have hB2 : Below w.heap.size w w2 := (below_new w (.cells #[] 27)).grown hg1 (by rw [size_new]; omega) (fun g hg => (HO.out.lt g hg).1)
  have hD2 := HD0.out.below hB2
  have HD2 := Lib.hid hD2
  have HB2 := Lib.hid hB2
  have HO2 := Lib.hid hown1
  clear hown1 hg1 hB2 hD2
  go_wp2_with (at_builtin; refine wpList_appH rfl _ _ rfl w.heap.size _ _ _ rfl HO2.out _ n' c' b rfl HD2.out ?d3 ?d5 ?_)
  case d3 => omega
  case d5 => exact HB2.out.size
  intro A3 n3 c3 w3 hown3 hg3
  have HB3 : Hid (Below w.heap.size w w3) := HB2.out.grown hg3 HB2.out.size (fun g hg => (HO2.out.lt g hg).1)
  have hrow : w3.ownsRow w.heap.size 27 3 (.slice A3 n3 c3) (n + n') (fl (a ++ b)) := by
    have h := hown3
    rw [← fl_append] at h
    exact h
  obtain ⟨A4, c4, e4, hI⟩ := isH_of_own hrow HWD.out
  injection e4 with e5 e6 e7
  subst e5
  subst e6
  subst e7
  have HI := Lib.hid hI
  clear hown3 hg3 hrow hI
  go_wp2_with fail
  refine (rof_calls k _ HI.out hk).mono ?_
  rintro e w4 ⟨A5, n5, c5, rfl, hI5, hb⟩
  have HB4 := Lib.hid (HB3.out.trans (hb.mono HB3.out.size))
  have HI5 := Lib.hid hI5
  clear hI5 hb
  go_wp2_with fail
  go_ret
  exact ⟨_, _, _, rfl, HI5.out, HB4.out⟩
end Go.Proofs.Ytckipafciomklaa.bk
/- The reference's Encode. -/
namespace Go.Proofs.Ytckipafciomklaa.bk

open Go.ChangeShapes Go.WideShapes Go.ChangeAt Go.RowKit

open Go.Proofs.Ytckipafciomklaa.bq Go.Proofs.Ytckipafciomklaa.vk Go.Proofs.Ytckipafciomklaa.wk

set_option linter.unusedVariables false
attribute [local go_sem] Oper.semAt_some
def RowI (w : World) (g : Nat) (x : H) : Prop := w.heap[g]? = some (.cells #[.int .i64 x.1, .int .i64 x.2.1, .int .i64 x.2.2] 3 (0, 0))
theorem RowI.below {w w' : World} {g : Nat} {x : H} (h : RowI w g x) (hb : Below w.heap.size w w') : RowI w' g x := (hb.block g (Array.getElem?_eq_some_iff.1 h).1).trans h
theorem RowI.new (w : World) (x : H) : RowI (w.alloc (.cells #[.int .i64 x.1, .int .i64 x.2.1, .int .i64 x.2.2] 3)) w.heap.size x := heap_alloc_new w _
theorem RowI.cells {w : World} {g : Nat} {x : H} (h : RowI w g x) : ∀ j u, (ir x)[j]? = some u → w.cell? ((⟨g, 0, none⟩ : Addr).add j) = some u := fun j u hu => by
  rw [wk.add_at, Nat.zero_add, cell_of_row _ _ _ _ _ _ h]
  unfold ir at hu
  simpa using hu
set_option maxRecDepth 100000 in
set_option maxHeartbeats 4000000 in
theorem rencode_calls {l : List H} {A : Option Addr} {n c : Nat} (w : World) (h : IsH w A n c l) (hn : n ≤ 1000) : Calls Try.prog 34 #[.slice A n c] w fun e w' => ∃ A' c', e = .returned (.slice A' (wp.encIs (nums l)).length c') ∧ wo.IsB w' A' (wp.encIs (nums l)).length c' (wp.encIs (nums l)) ∧ Below w.heap.size w w' := by
  obtain ⟨i0, hi, hz0, hz1, hz2⟩ := info_parts wi.infoI
  have hm := h.2.2.1
  have hnc := h.2.1
  have HS := Lib.hid h
  have hbd := nums_bd h.2.2.2.2.1
  have hel := vq.encIs_length (nums l) hbd (by rw [nums_length]; have := h.1; omega)
  have HEL := Lib.hid hel
  have HBD := Lib.hid hbd
  clear h hel hbd
  go_enter Try.func34, Try.ntmps34
  go_wp2_with fail
  go_loopg [3, 4] n (fun gg s x wr => ∃ (k : Nat) (v : Value), k + gg = n ∧ x = .int .i64 (k : Int) ∧ v = s ∧ Below w.heap.size w wr ∧ wr.ownsRow w.heap.size 3 1 v (3 * k) (iv (nums (l.take k))))
  case atStart => exact ⟨0, _, by omega, rfl, rfl, Below.refl _ _, by simpa [nums, iv] using World.ownsRow_nil _ _ _ _⟩
  case round =>
    obtain ⟨k, v, hk, rfl, rfl, hbel, hown⟩ := hrel
    have HK := Lib.hid hk
    have HBEL := Lib.hid hbel
    have HOW := Lib.hid hown
    have HBW : Hid (w.heap.size ≤ wr.heap.size) := hbel.size
    have hkn : k ≤ n := by omega
    clear hk hbel hown
    by_cases hlt : k < n
    · obtain ⟨b, o, x, rfl, -, -, -, hb1, hX, hwx⟩ := isH_get HS.out hlt
      have hlt0 : (k : Int) < (n : Int) := by omega
      have HNS := Lib.hid (nums_snoc hX)
      have HX := Lib.hid hX
      clear hX hwx hb1
      go_wp2_with fail
      refine wk.region_tailK 17 [.is (v), .is (.slice (some ⟨b, o, none⟩) n c), .is (.int .i64 (k : Int)), .is (.pointer (some ⟨b, o + k * 3, none⟩)), .is (.pointer (some ⟨b, o + k * 3, none⟩)), .is (.int .i64 x.1), .is (.slice (some ⟨b, o, none⟩) n c), .is (.int .i64 (k : Int)), .is (.pointer (some ⟨b, o + k * 3, none⟩)), .is (.pointer (some ⟨b, o + k * 3 + 1, none⟩)), .is (.int .i64 x.2.1), .is (.slice (some ⟨b, o, none⟩) n c), .is (.int .i64 (k : Int)), .is (.pointer (some ⟨b, o + k * 3, none⟩)), .is (.pointer (some ⟨b, o + k * 3 + 2, none⟩)), .is (.int .i64 x.2.2), .st (fun u xx => ∃ g, xx = .slice (some ⟨g, 0, none⟩) 3 3 ∧ RowI u g x) (fun u u2 xx h hb => by obtain ⟨g, h1, h2⟩ := h; exact ⟨g, h1, h2.below hb⟩)] [some 11, some 12, some 13, some 14, some 15, some 16, some 17, some 18, some 19, some 20, some 21, some 22, some 23, some 24, some 25, some 26, some 27] (by kernel_rfl) (by kernel_rfl) (by kernel_rfl) (by kernel_rfl) [] (by kernel_rfl) (by intro p hp; cases hp) (by kernel_rfl) (by kernel_rfl) ?hstep ?hdone
      case hstep =>
        intro i o ho hi hns E w4 hb4 D hold
        have hi2 : i = 0 ∨ i = 1 ∨ i = 2 ∨ i = 3 ∨ i = 4 ∨ i = 5 ∨ i = 6 ∨ i = 7 ∨ i = 8 ∨ i = 9 ∨ i = 10 ∨ i = 11 ∨ i = 12 ∨ i = 13 ∨ i = 14 ∨ i = 15 ∨ i = 16 := by omega
        clear hi
        rcases hi2 with rfl | rfl | rfl | rfl | rfl | rfl | rfl | rfl | rfl | rfl | rfl | rfl | rfl | rfl | rfl | rfl | rfl
        ·
          have ho2 := (Array.getElem?_eq_some_iff.1 ho).2
          simp only [List.getElem_toArray, List.getElem_cons_zero] at ho2
          subst ho2
          clear ho
          have e3 := hold 3 (by kernel_rfl)
          exact wk.does_move rfl (by rw [e3]; rfl)
        ·
          have ho2 := (Array.getElem?_eq_some_iff.1 ho).2
          simp only [List.getElem_toArray, List.getElem_cons_succ, List.getElem_cons_zero] at ho2
          subst ho2
          clear ho
          have e0 := D.old 0 (by kernel_rfl)
          exact wk.does_move rfl (by rw [e0]; rfl)
        ·
          have ho2 := (Array.getElem?_eq_some_iff.1 ho).2
          simp only [List.getElem_toArray, List.getElem_cons_succ, List.getElem_cons_zero] at ho2
          subst ho2
          clear ho
          have e4 := D.old 4 (by kernel_rfl)
          exact wk.does_move rfl (by rw [e4]; rfl)
        ·
          have ho2 := (Array.getElem?_eq_some_iff.1 ho).2
          simp only [List.getElem_toArray, List.getElem_cons_succ, List.getElem_cons_zero] at ho2
          subst ho2
          clear ho
          have e12 := D.is { on := 1, ground := .data } (by simp) rfl rfl 12 rfl
          have e13 := D.is { on := 2, ground := .data } (by simp) rfl rfl 13 rfl
          exact wk.does_run (by simp only [execOp]; rw [show E (.tmp 12) = _ from e12, show E (.tmp 13) = _ from e13]; go_simp; try (intro h0; omega)) rfl
        ·
          have ho2 := (Array.getElem?_eq_some_iff.1 ho).2
          simp only [List.getElem_toArray, List.getElem_cons_succ, List.getElem_cons_zero] at ho2
          subst ho2
          clear ho
          have e14 := D.is { on := 3, ground := .data } (by simp) rfl rfl 14 rfl
          exact wk.does_run (by simp only [execOp]; rw [show E (.tmp 14) = _ from e14]; go_simp) rfl
        ·
          have ho2 := (Array.getElem?_eq_some_iff.1 ho).2
          simp only [List.getElem_toArray, List.getElem_cons_succ, List.getElem_cons_zero] at ho2
          subst ho2
          clear ho
          have e15 := D.is { on := 4, ground := .data } (by simp) rfl rfl 15 rfl
          exact wk.does_load1 rfl e15 (isH_at (HS.out.below ((HBEL.out).trans (((Below.refl _ _).drew.trans hb4).mono HBEL.out.size))) HX.out 0 _ rfl) Try.underlying3 rfl rfl
        ·
          have ho2 := (Array.getElem?_eq_some_iff.1 ho).2
          simp only [List.getElem_toArray, List.getElem_cons_succ, List.getElem_cons_zero] at ho2
          subst ho2
          clear ho
          have e0 := D.old 0 (by kernel_rfl)
          exact wk.does_move rfl (by rw [e0]; rfl)
        ·
          have ho2 := (Array.getElem?_eq_some_iff.1 ho).2
          simp only [List.getElem_toArray, List.getElem_cons_succ, List.getElem_cons_zero] at ho2
          subst ho2
          clear ho
          have e4 := D.old 4 (by kernel_rfl)
          exact wk.does_move rfl (by rw [e4]; rfl)
        ·
          have ho2 := (Array.getElem?_eq_some_iff.1 ho).2
          simp only [List.getElem_toArray, List.getElem_cons_succ, List.getElem_cons_zero] at ho2
          subst ho2
          clear ho
          have e17 := D.is { on := 6, ground := .data } (by simp) rfl rfl 17 rfl
          have e18 := D.is { on := 7, ground := .data } (by simp) rfl rfl 18 rfl
          exact wk.does_run (by simp only [execOp]; rw [show E (.tmp 17) = _ from e17, show E (.tmp 18) = _ from e18]; go_simp; try (intro h0; omega)) rfl
        ·
          have ho2 := (Array.getElem?_eq_some_iff.1 ho).2
          simp only [List.getElem_toArray, List.getElem_cons_succ, List.getElem_cons_zero] at ho2
          subst ho2
          clear ho
          have e19 := D.is { on := 8, ground := .data } (by simp) rfl rfl 19 rfl
          exact wk.does_run (by simp only [execOp]; rw [show E (.tmp 19) = _ from e19]; go_simp) rfl
        ·
          have ho2 := (Array.getElem?_eq_some_iff.1 ho).2
          simp only [List.getElem_toArray, List.getElem_cons_succ, List.getElem_cons_zero] at ho2
          subst ho2
          clear ho
          have e20 := D.is { on := 9, ground := .data } (by simp) rfl rfl 20 rfl
          exact wk.does_load1 rfl e20 (isH_at (HS.out.below ((HBEL.out).trans (((Below.refl _ _).drew.trans hb4).mono HBEL.out.size))) HX.out 1 _ rfl) Try.underlying3 rfl rfl
        ·
          have ho2 := (Array.getElem?_eq_some_iff.1 ho).2
          simp only [List.getElem_toArray, List.getElem_cons_succ, List.getElem_cons_zero] at ho2
          subst ho2
          clear ho
          have e0 := D.old 0 (by kernel_rfl)
          exact wk.does_move rfl (by rw [e0]; rfl)
        ·
          have ho2 := (Array.getElem?_eq_some_iff.1 ho).2
          simp only [List.getElem_toArray, List.getElem_cons_succ, List.getElem_cons_zero] at ho2
          subst ho2
          clear ho
          have e4 := D.old 4 (by kernel_rfl)
          exact wk.does_move rfl (by rw [e4]; rfl)
        ·
          have ho2 := (Array.getElem?_eq_some_iff.1 ho).2
          simp only [List.getElem_toArray, List.getElem_cons_succ, List.getElem_cons_zero] at ho2
          subst ho2
          clear ho
          have e22 := D.is { on := 11, ground := .data } (by simp) rfl rfl 22 rfl
          have e23 := D.is { on := 12, ground := .data } (by simp) rfl rfl 23 rfl
          exact wk.does_run (by simp only [execOp]; rw [show E (.tmp 22) = _ from e22, show E (.tmp 23) = _ from e23]; go_simp; try (intro h0; omega)) rfl
        ·
          have ho2 := (Array.getElem?_eq_some_iff.1 ho).2
          simp only [List.getElem_toArray, List.getElem_cons_succ, List.getElem_cons_zero] at ho2
          subst ho2
          clear ho
          have e24 := D.is { on := 13, ground := .data } (by simp) rfl rfl 24 rfl
          exact wk.does_run (by simp only [execOp]; rw [show E (.tmp 24) = _ from e24]; go_simp) rfl
        ·
          have ho2 := (Array.getElem?_eq_some_iff.1 ho).2
          simp only [List.getElem_toArray, List.getElem_cons_succ, List.getElem_cons_zero] at ho2
          subst ho2
          clear ho
          have e25 := D.is { on := 14, ground := .data } (by simp) rfl rfl 25 rfl
          exact wk.does_load1 rfl e25 (isH_at (HS.out.below ((HBEL.out).trans (((Below.refl _ _).drew.trans hb4).mono HBEL.out.size))) HX.out 2 _ rfl) Try.underlying3 rfl rfl
        ·
          have ho2 := (Array.getElem?_eq_some_iff.1 ho).2
          simp only [List.getElem_toArray, List.getElem_cons_succ, List.getElem_cons_zero] at ho2
          subst ho2
          clear ho
          have e16 := D.is { on := 5, ground := .data } (by simp) rfl rfl 16 rfl
          have e21 := D.is { on := 10, ground := .data } (by simp) rfl rfl 21 rfl
          have e26 := D.is { on := 15, ground := .data } (by simp) rfl rfl 26 rfl
          refine wk.does_new (v := .slice (some ⟨w4.heap.size, 0, none⟩) 3 3) (w' := w4.alloc (.cells #[.int .i64 x.1, .int .i64 x.2.1, .int .i64 x.2.2] 3)) (by simp only [execOp, List.map_toArray, List.map_cons, List.map_nil]; rw [show E (.tmp 16) = _ from e16, show E (.tmp 21) = _ from e21, show E (.tmp 26) = _ from e26]; go_simp) (below_new _ _) ⟨_, rfl, RowI.new _ _⟩
      case hdone =>
        intro vals w4 hb4 hv
        have h0 := hv 0 (by omega)
        have h16 := hv 16 (by omega)
        clear hv
        replace h0 : vals 0 = (v) := h0
        simp only [List.drop_succ_cons, List.drop_zero, wk.setL, List.setIfInBounds_toArray, List.set_cons_zero, List.set_cons_succ, Nat.zero_add, Nat.reduceAdd, h0]
        generalize vals 1 = x1
        generalize vals 2 = x2
        generalize vals 3 = x3
        generalize vals 4 = x4
        generalize vals 5 = x5
        generalize vals 6 = x6
        generalize vals 7 = x7
        generalize vals 8 = x8
        generalize vals 9 = x9
        generalize vals 10 = x10
        generalize vals 11 = x11
        generalize vals 12 = x12
        generalize vals 13 = x13
        generalize vals 14 = x14
        generalize vals 15 = x15
        generalize vals 16 = x16 at *
        obtain ⟨g, rfl, hrow⟩ := h16
        have hbb : Below wr.heap.size wr w4 := (Below.refl _ _).drew.trans hb4
        have HO2 := Lib.hid (keptB HOW.out hbb)
        have HB4 := Lib.hid (HBEL.out.trans (hbb.mono HBW.out))
        have HROW := Lib.hid hrow
        clear hb4 hbb hrow
        go_wp2_with (at_builtin; refine wpList_append_own _ rfl _ _ 66 rfl w.heap.size 3 i0 (.int .i64 0) 1 8 Try.underlying66 hi hz0 hz1 hz2 rfl (by decide) _ _ _ rfl HO2.out ⟨g, 0, none⟩ 3 3 (ir x) rfl rfl HROW.out.cells ones3 ?c3 ?c4 ?c5 ?_)
        case c3 => unfold maxLen; omega
        case c4 => omega
        case c5 => exact HB4.out.size
        intro v5 w5 hown5 hg5 _
        have HB5 := Lib.hid (HB4.out.grown hg5 HB4.out.size (fun g hg => (HO2.out.lt g hg).1))
        have HOW5 := Lib.hid hown5
        clear hown5 hg5
        go_wp2_with fail
        go_roundg (gk - 1)
        case measure => have := HK.out; omega
        case rel => exact ⟨k + 1, _, by have := HK.out; omega, by go_num, rfl, HB5.out, by rw [HNS.out]; have := HOW5.out; unfold iv at this ⊢; rw [List.map_append]; exact this⟩
    · obtain rfl : k = n := by omega
      have ho : wr.ownsRow w.heap.size 3 1 v (3 * k) (iv (nums l)) := by have := HOW.out; rw [List.take_of_length_le (by have := HS.out.1; omega)] at this; exact this
      obtain ⟨A7, c7, rfl, hI⟩ := isI_own2 ho HBD.out
      have HEN := Lib.hid ((wi.refInts_out A7 (3 * k) c7 (nums l) wr hI.1 hI.2.1 hI.2.2.1 hI.2.2.2.1 hI.2.2.2.2 (by have := HEL.out; have := nums_length l; have := HS.out.1; omega)).mono fun e w' hh => isB_of_out hh)
      clear ho hI
      go_wp2_with fail
      refine HEN.out.mono ?_
      rintro e w' ⟨A', c', rfl, hI2, hb⟩
      have HF := Lib.hid (And.intro hI2 (HBEL.out.trans (hb.mono HBW.out)))
      clear hI2 hb
      go_wp2_with fail
      go_ret
      exact ⟨A', c', rfl, HF.out⟩
end Go.Proofs.Ytckipafciomklaa.bk
/- The reference's Put and Enters. -/
namespace Go.Proofs.Ytckipafciomklaa.bk

open Go.ChangeShapes Go.WideShapes Go.ChangeAt Go.RowKit

open Go.Proofs.Ytckipafciomklaa.bq Go.Proofs.Ytckipafciomklaa.vk Go.Proofs.Ytckipafciomklaa.wk

set_option linter.unusedVariables false
attribute [local go_sem] Oper.semAt_some
theorem setRow_self {w : World} {g : Nat} {cs : Array Value} {e : TypeId} (h : w.heap[g]? = some (.cells cs e (0, 0))) : w.setRow g cs = w := by
  have hh : (w.setRow g cs).heap = w.heap := by
    apply Array.ext_getElem?
    intro k
    by_cases e : k = g
    · subst e; rw [setRow_heap _ _ _ _ _ _ h, h]
    · rw [setRow_other _ _ _ _ e]
  show ({ w with heap := (w.setRow g cs).heap } : World) = w
  rw [hh]
theorem lv_ne {Lv : Nat → Bool} {a m : Nat} (h : a ≠ m) (h4 : (fun j => if j = m then true else Lv j) a = false) : Lv a = false := by simpa [h] using h4
theorem lv_of {Lv : Nat → Bool} {a m : Nat} (h4 : (fun j => if j = m then true else Lv j) a = false) : Lv a = false := by
  by_cases h : a = m
  · simp [h] at h4
  · exact lv_ne h h4
theorem lv_eq {Lv : Nat → Bool} {a : Nat} {p : Prop} (h4 : (fun j => if j = a then true else Lv j) a = false) : p := by simp at h4
/-- a copy of a list, made within a region that draws its order -/
theorem does_copyH {Q : Exit → Act → World → Prop} {o : Oper} {E : Operand → Value} {w : World} {R : World → Value → Prop} (s x : Operand) (ho : o.op = .call { callee := .builtin .append, args := #[s, x], argTypes := #[22, 22] })
    {B g n c : Nat} {A : Option Addr} {l : List H} (hrow : w.heap[g]? = some (.cells #[] 27 (0, 0))) (hBg : B ≤ g) (hBw : B ≤ w.heap.size) (hs : E s = .slice (some ⟨g, 0, none⟩) 0 0) (hx : E x = .slice A n c) (h : IsH w A n c l) (hn : n ≤ 100000)
    (hR : ∀ v' w', Below w.heap.size w w' → w'.ownsRow B 27 3 v' n (fl l) → R w' v') : DoesT Try.prog Q o E w R := by
  obtain ⟨i0, hi, hz0, hz1, hz2⟩ := info_parts infoHt
  have hown : w.ownsRow B 27 3 (.slice (some ⟨g, 0, none⟩) 0 0) 0 [] := ⟨rfl, .inr ⟨g, 0, #[], rfl, hBg, hrow, Nat.le_refl _, by unfold maxLen; omega, rfl, rfl⟩⟩
  have fin : ∀ v' w', (Builtin.append_ #[22, 22] o.type #[.slice (some ⟨g, 0, none⟩) 0 0, .slice A n c]).run Try.prog w = .ok v' w' → Below w.heap.size w w' → w'.ownsRow B 27 3 v' n (fl l) → DoesT Try.prog Q o E w R := fun v' w' hr hb ho2 => by
    refine wk.does_new_t (v := v') (w' := w') ?_ (hR v' w' hb ho2)
    unfold execOp
    simp only [ho, resolve, invoke, builtin, Sem.run_bind, Sem.run_pure, Result.andThen_ok, List.map_toArray, List.map_cons, List.map_nil, hs, hx, hr]
  cases A with
  | none =>
    have hc := h.2.2.2.2.2 rfl
    subst hc
    obtain rfl : n = 0 := by have := h.2.1; omega
    have hl0 : l = [] := List.length_eq_zero_iff.1 h.1
    subst hl0
    exact fin _ _ (run_append_owned_none (P := Try.prog) (w := w) B 22 o.type 27 i0 3 Try.underlying22 hi _ 0 [] hown) (Below.refl _ _) hown
  | some ad =>
    have hlen : (fl l).length = n * 3 := by rw [fl_length, h.1]
    have hnews : ∀ j v, (fl l)[j]? = some v → w.cell? (ad.add j) = some v := fun j u hu => by
      have hlt : 0 < (fl l).length := by have := (List.getElem?_eq_some_iff.1 hu).1; omega
      obtain ⟨b, o, e, hb, hc⟩ := h.2.2.2.1 hlt
      cases e
      rw [wk.add_at]; exact hc j u hu
    by_cases hn0 : n = 0
    · subst hn0
      have hl0 : l = [] := List.length_eq_zero_iff.1 h.1
      subst hl0
      have hr := run_append_room (P := Try.prog) w 22 o.type 27 i0 Try.underlying22 hi g 0 0 #[] hrow ad 0 c [] (by simp) (by simp) (by simp) (by omega) (by simp)
      have hr2 : (Builtin.append_ #[22, 22] o.type #[.slice (some ⟨g, 0, none⟩) 0 0, .slice (some ad) 0 c]).run Try.prog w = .ok (.slice (some ⟨g, 0, none⟩) 0 0) (w.setRow g #[]) := by simpa using hr
      rw [setRow_self hrow] at hr2
      exact fin _ w hr2 (Below.refl _ _) hown
    · have hr := run_append_grow (P := Try.prog) w 22 o.type 27 i0 (.agg #[.int .i64 0, .int .i64 0, .int .i64 0]) Try.underlying22 hi hz0 ⟨g, 0, none⟩ 0 0 [] (by simp) (by simp) ad n c (fl l) (by rw [hlen, hz1]) hnews (by omega) (by omega) (growslice_fits (by omega) (by rw [hz2]; omega))
      have hbel : Below w.heap.size w (w.drew.alloc (.cells (([] : List Value).toArray ++ (fl l).toArray ++ Builtin.zeroCells (Value.agg #[.int .i64 0, .int .i64 0, .int .i64 0]).cells (grownCap w n 0 27 - n)) 27)) := (Below.refl _ _).drew.alloc (Nat.le_refl _) _
      obtain ⟨v', w', hr2, h2, -, -⟩ := run_append_own (P := Try.prog) w B 22 o.type 27 i0 (.agg #[.int .i64 0, .int .i64 0, .int .i64 0]) 3 24 Try.underlying22 hi hz0 hz1 hz2 rfl (by decide) _ 0 [] hown ad n c (fl l) hlen hnews (fl_ones l) (by unfold maxLen; omega) (by omega) hBw
      rw [Nat.zero_add] at hr h2
      rw [List.nil_append] at h2
      refine fin v' w' hr2 ?_ h2
      rw [hr] at hr2
      injection hr2 with e1 e2
      rw [← e2]; exact hbel
def PR (B : Nat) (A : Option Addr) (n c : Nat) (l : List H) (x0 : H) (k : Int) (Lv : Nat → Bool) (i : Nat) (w : World) (x : Value) : Prop :=
  match i with
  | 0 => ∃ g, x = .slice (some ⟨g, 0, none⟩) 0 0 ∧ B ≤ g ∧ (Lv 2 = false → w.heap[g]? = some (.cells #[] 27 (0, 0)))
  | 1 => x = .slice A n c
  | 2 => Lv 5 = false → w.ownsRow B 27 3 x n (fl l)
  | 3 => x = .agg #[.int .i64 x0.1, .int .i64 x0.2.1, .int .i64 x0.2.2]
  | 4 => ∃ g, x = .slice (some ⟨g, 0, none⟩) 1 1 ∧ (Lv 5 = false → RowH w g x0)
  | 5 => w.ownsRow B 27 3 x (n + 1) (fl l ++ rv x0)
  | 6 => x = .int .i64 k
  | 7 => ∃ A' n' c', x = .slice A' n' c' ∧ IsH w A' n' c' (ofL (l ++ [x0]) k.toNat)
  | _ => True
theorem PR.next {B : Nat} {A : Option Addr} {n c : Nat} {l : List H} {x0 : H} {k : Int} {Lv : Nat → Bool} {i m : Nat} {w w' : World} {x : Value} (h5 : m ≠ 5) (hb : Below w.heap.size w w') (h : PR B A n c l x0 k Lv i w x) : PR B A n c l x0 k (fun j => if j = m then true else Lv j) i w' x := by
  unfold PR at h ⊢
  split at h
  · obtain ⟨g, h1, h2, h3⟩ := h
    refine ⟨g, h1, h2, fun h4 => ?_⟩
    have h4' : Lv 2 = false := lv_of h4
    have h6 := h3 h4'
    exact (hb.block g (Array.getElem?_eq_some_iff.1 h6).1).trans h6
  · exact h
  · exact fun h4 => keptB (h (lv_of h4)) hb
  · exact h
  · obtain ⟨g, h1, h2⟩ := h; exact ⟨g, h1, fun h4 => (h2 (lv_of h4)).below hb⟩
  · exact keptB h hb
  · exact h
  · obtain ⟨A', n', c', h1, h2⟩ := h; exact ⟨A', n', c', h1, h2.below hb⟩
  · trivial
theorem PR.app {B : Nat} {A : Option Addr} {n c : Nat} {l : List H} {x0 : H} {k : Int} {Lv : Nat → Bool} {i : Nat} {w w' : World} {x : Value} (h2 : Lv 2 = true) (h5 : i ≠ 5) (h7 : i ≠ 7) (h : PR B A n c l x0 k Lv i w x) : PR B A n c l x0 k (fun j => if j = 5 then true else Lv j) i w' x := by
  unfold PR at h ⊢
  split at h
  · obtain ⟨g, h1, h3, _⟩ := h
    refine ⟨g, h1, h3, fun h4 => ?_⟩
    have h6 := lv_of h4
    rw [h2] at h6; cases h6
  · exact h
  · exact fun h4 => lv_eq h4
  · exact h
  · obtain ⟨g, h1, h2⟩ := h; exact ⟨g, h1, fun h4 => lv_eq h4⟩
  · exact absurd rfl h5
  · exact h
  · exact absurd rfl h7
  · trivial
/-- what is done in the order of the data -/
def PS (w0 : World) (Lv : Nat → Bool) (u : World) : Prop := Below w0.heap.size w0 u ∧ (Lv 5 = true → Lv 2 = true) ∧ (Lv 7 = true → Lv 5 = true)
theorem PS.next {w0 : World} {Lv : Nat → Bool} {u u' : World} (m : Nat) (h5 : m = 5 → Lv 2 = true) (h7 : m = 7 → Lv 5 = true) (hb : Below w0.heap.size w0 u') (h : PS w0 Lv u) : PS w0 (fun j => if j = m then true else Lv j) u' := by
  refine ⟨hb, fun h3 => ?_, fun h3 => ?_⟩
  · show (if 2 = m then true else Lv 2) = true
    by_cases e : 2 = m
    · rw [if_pos e]
    · rw [if_neg e]
      replace h3 : (if 5 = m then true else Lv 5) = true := h3
      by_cases e5 : 5 = m
      · exact h5 e5.symm
      · rw [if_neg e5] at h3; exact h.2.1 h3
  · show (if 5 = m then true else Lv 5) = true
    by_cases e : 5 = m
    · rw [if_pos e]
    · rw [if_neg e]
      replace h3 : (if 7 = m then true else Lv 7) = true := h3
      by_cases e5 : 7 = m
      · exact h7 e5.symm
      · rw [if_neg e5] at h3; exact h.2.2 h3
set_option maxRecDepth 100000 in
set_option maxHeartbeats 4000000 in
theorem rput_calls {l : List H} {x : H} {A : Option Addr} {n c : Nat} (k : Int) (w : World) (h : IsH w A n c l) (hx : Wd x) (hn9 : n ≤ 900) (hk : k ≤ 1000000) : Calls Try.prog 22 #[.slice A n c, .int .i64 k, .agg #[.int .i64 x.1, .int .i64 x.2.1, .int .i64 x.2.2]] w fun e w' => ∃ A2 n2 c2, e = .returned (.slice A2 n2 c2) ∧ IsH w' A2 n2 c2 (ofL (l ++ [x]) k.toNat) ∧ Below w.heap.size w w' := by
  obtain ⟨i0, hi, hz0, hz1, hz2⟩ := info_parts infoHt
  have hn : n ≤ 100000 := by omega
  have H0 := Lib.hid h
  have HWD : Hid (∀ r ∈ l ++ [x], Wd r) := fun r hr => by
    rcases List.mem_append.1 hr with hr | hr
    · exact h.2.2.2.2.1 r hr
    · rw [List.mem_singleton.1 hr]; exact hx
  have HB : Hid (Below w.heap.size w (w.alloc (.cells #[.int .i64 x.1, .int .i64 x.2.1, .int .i64 x.2.2] 27))) := below_new _ _
  have HROW : Hid (RowH (w.alloc (.cells #[.int .i64 x.1, .int .i64 x.2.1, .int .i64 x.2.2] 27)) w.heap.size x) := RowH.new _ _
  have H1 := Lib.hid (h.below HB.out)
  clear h hx H0
  go_enter Try.func22, Try.ntmps22
  go_wp2_with fail
  refine wk.region_lev2W 8 (PR (w.alloc (.cells #[.int .i64 x.1, .int .i64 x.2.1, .int .i64 x.2.2] 27)).heap.size A n c l x k) [some 7, some 8, some 9, some 10, some 11, some 12, some 13, some 14] (fun Lv u => PS (w.alloc (.cells #[.int .i64 x.1, .int .i64 x.2.1, .int .i64 x.2.2] 27)) Lv u) ?hstart (by kernel_rfl) (by kernel_rfl) (by kernel_rfl) (by kernel_rfl) (by kernel_rfl) (by kernel_rfl) ?hstep ?hdone
  case hstart => exact ⟨(Below.refl _ _).drew, by simp, by simp⟩
  case hstep =>
    intro i o ho hi9 E Lv w4 hS4 hL hdeps DG hold
    have hi2 : i = 0 ∨ i = 1 ∨ i = 2 ∨ i = 3 ∨ i = 4 ∨ i = 5 ∨ i = 6 ∨ i = 7 := by omega
    clear hi9
    rcases hi2 with rfl | rfl | rfl | rfl | rfl | rfl | rfl | rfl
    ·
      have ho2 := (Array.getElem?_eq_some_iff.1 ho).2
      simp only [List.getElem_toArray, List.getElem_cons_zero] at ho2
      subst ho2
      clear ho
      refine wk.Does.weak (R := fun w' x' => ∃ g, x' = .slice (some ⟨g, 0, none⟩) 0 0 ∧ (w.alloc (.cells #[.int .i64 x.1, .int .i64 x.2.1, .int .i64 x.2.2] 27)).heap.size ≤ g ∧ w'.heap[g]? = some (.cells #[] 27 (0, 0))) ?_ (fun w' v' hb hr => ⟨by obtain ⟨g, h1, h2, h3⟩ := hr; exact ⟨g, h1, h2, fun _ => h3⟩, fun j u _ _ hj => PR.next (by omega) hb hj, PS.next 0 (by omega) (by omega) (hS4.1.trans (hb.mono hS4.1.size)) hS4⟩)
      exact wk.does_new (v := .slice (some ⟨w4.heap.size, 0, none⟩) 0 0) (w' := w4.alloc (.cells #[] 27)) (by simp only [execOp]; go_simp) (below_new _ _) ⟨_, rfl, hS4.1.size, heap_alloc_new w4 _⟩
    ·
      have ho2 := (Array.getElem?_eq_some_iff.1 ho).2
      simp only [List.getElem_toArray, List.getElem_cons_succ, List.getElem_cons_zero] at ho2
      subst ho2
      clear ho
      refine wk.Does.weak (R := fun w' x' => x' = .slice A n c) ?_ (fun w' v' hb hr => ⟨hr, fun j u _ _ hj => PR.next (by omega) hb hj, PS.next 1 (by omega) (by omega) (hS4.1.trans (hb.mono hS4.1.size)) hS4⟩)
      exact wk.does_move rfl ((DG.old 0 (by kernel_rfl)).trans rfl)
    ·
      have ho2 := (Array.getElem?_eq_some_iff.1 ho).2
      simp only [List.getElem_toArray, List.getElem_cons_succ, List.getElem_cons_zero] at ho2
      subst ho2
      clear ho
      have e7 := DG.is { on := 0, ground := .data } (by simp) rfl 7 rfl
      have e8 := DG.is { on := 1, ground := .data } (by simp) rfl 8 rfl
      obtain ⟨g, eg, hg1, hg2⟩ := e7
      replace e8 : E (.tmp 8) = .slice A n c := e8
      exact does_copyH (.tmp 7) (.tmp 8) rfl (hg2 hL) hg1 hS4.1.size eg e8 (H1.out.below hS4.1) hn (fun v' w' hb hr => ⟨fun _ => hr, fun j u _ _ hj => PR.next (by omega) hb hj, PS.next 2 (by omega) (by omega) (hS4.1.trans (hb.mono hS4.1.size)) hS4⟩)
    ·
      have ho2 := (Array.getElem?_eq_some_iff.1 ho).2
      simp only [List.getElem_toArray, List.getElem_cons_succ, List.getElem_cons_zero] at ho2
      subst ho2
      clear ho
      refine wk.Does.weak (R := fun w' x' => x' = .agg #[.int .i64 x.1, .int .i64 x.2.1, .int .i64 x.2.2]) ?_ (fun w' v' hb hr => ⟨hr, fun j u _ _ hj => PR.next (by omega) hb hj, PS.next 3 (by omega) (by omega) (hS4.1.trans (hb.mono hS4.1.size)) hS4⟩)
      exact wk.does_load_agg rfl ((DG.old 5 (by kernel_rfl)).trans rfl) (cs := rv x) (RowH.cells (HROW.out.below hS4.1)) Try.underlying27 rfl (by kernel_rfl) rfl
    ·
      have ho2 := (Array.getElem?_eq_some_iff.1 ho).2
      simp only [List.getElem_toArray, List.getElem_cons_succ, List.getElem_cons_zero] at ho2
      subst ho2
      clear ho
      have e10 := DG.is { on := 3, ground := .data } (by simp) rfl 10 rfl
      replace e10 : E (.tmp 10) = .agg #[.int .i64 x.1, .int .i64 x.2.1, .int .i64 x.2.2] := e10
      refine wk.Does.weak (R := fun w' x' => ∃ g, x' = .slice (some ⟨g, 0, none⟩) 1 1 ∧ RowH w' g x) ?_ (fun w' v' hb hr => ⟨by obtain ⟨g, h1, h2⟩ := hr; exact ⟨g, h1, fun _ => h2⟩, fun j u _ _ hj => PR.next (by omega) hb hj, PS.next 4 (by omega) (by omega) (hS4.1.trans (hb.mono hS4.1.size)) hS4⟩)
      exact wk.does_new (v := .slice (some ⟨w4.heap.size, 0, none⟩) 1 1) (w' := w4.alloc (.cells #[.int .i64 x.1, .int .i64 x.2.1, .int .i64 x.2.2] 27)) (by simp only [execOp, List.map_toArray, List.map_cons, List.map_nil]; rw [e10]; go_simp) (below_new _ _) ⟨_, rfl, RowH.new _ _⟩
    ·
      have ho2 := (Array.getElem?_eq_some_iff.1 ho).2
      simp only [List.getElem_toArray, List.getElem_cons_succ, List.getElem_cons_zero] at ho2
      subst ho2
      clear ho
      have e9 := DG.is { on := 2, ground := .data } (by simp) rfl 9 rfl
      have e11 := DG.is { on := 4, ground := .data } (by simp) rfl 11 rfl
      have h25 : Lv 2 = true := hdeps { on := 2, ground := .data } (by simp) rfl
      replace e9 : w4.ownsRow (w.alloc (.cells #[.int .i64 x.1, .int .i64 x.2.1, .int .i64 x.2.2] 27)).heap.size 27 3 (E (.tmp 9)) n (fl l) := e9 hL
      obtain ⟨g, eg, hone⟩ := e11
      exact does_append_t (.tmp 9) (.tmp 11) 22 rfl (w.alloc (.cells #[.int .i64 x.1, .int .i64 x.2.1, .int .i64 x.2.2] 27)).heap.size 27 i0 (.agg #[.int .i64 0, .int .i64 0, .int .i64 0]) 3 24 Try.underlying22 hi hz0 hz1 hz2 rfl (by decide) (E (.tmp 9)) n (fl l) rfl e9 ⟨g, 0, none⟩ 1 (rv x) eg rfl (hone hL).cells ones3 (by omega) (by omega) hS4.1.size (fun v' w' h5 h6 _ => ⟨h5, fun j' u hLj _ hj => PR.app h25 (by rintro rfl; rw [hL] at hLj; cases hLj) (by rintro rfl; have := hS4.2.2 hLj; rw [hL] at this; cases this) hj, PS.next 5 (fun _ => h25) (by omega) (hS4.1.grown h6 hS4.1.size (fun q hq => (e9.lt q hq).1)) hS4⟩)
    ·
      have ho2 := (Array.getElem?_eq_some_iff.1 ho).2
      simp only [List.getElem_toArray, List.getElem_cons_succ, List.getElem_cons_zero] at ho2
      subst ho2
      clear ho
      refine wk.Does.weak (R := fun w' x' => x' = .int .i64 k) ?_ (fun w' v' hb hr => ⟨hr, fun j u _ _ hj => PR.next (by omega) hb hj, PS.next 6 (by omega) (by omega) (hS4.1.trans (hb.mono hS4.1.size)) hS4⟩)
      exact wk.does_move rfl ((DG.old 1 (by kernel_rfl)).trans rfl)
    ·
      have ho2 := (Array.getElem?_eq_some_iff.1 ho).2
      simp only [List.getElem_toArray, List.getElem_cons_succ, List.getElem_cons_zero] at ho2
      subst ho2
      clear ho
      have e12 := DG.is { on := 5, ground := .data } (by simp) rfl 12 rfl
      have e13 := DG.is { on := 6, ground := .data } (by simp) rfl 13 rfl
      have h57 : Lv 5 = true := hdeps { on := 5, ground := .data } (by simp) rfl
      replace e12 : w4.ownsRow (w.alloc (.cells #[.int .i64 x.1, .int .i64 x.2.1, .int .i64 x.2.2] 27)).heap.size 27 3 (E (.tmp 12)) (n + 1) (fl l ++ rv x) := e12
      replace e13 : E (.tmp 13) = .int .i64 k := e13
      have hrow : w4.ownsRow (w.alloc (.cells #[.int .i64 x.1, .int .i64 x.2.1, .int .i64 x.2.2] 27)).heap.size 27 3 (E (.tmp 12)) (n + 1) (fl (l ++ [x])) := by rw [fl_append]; simpa [fl] using e12
      obtain ⟨A4, c4, e4, hI⟩ := isH_of_own hrow HWD.out
      refine wk.Does.weak (R := fun w' x' => ∃ A' n' c', x' = .slice A' n' c' ∧ IsH w' A' n' c' (ofL (l ++ [x]) k.toNat)) ?_ (fun w' v' hb hr => ⟨hr, fun j u _ _ hj => PR.next (by omega) hb hj, PS.next 7 (by omega) (fun _ => h57) (hS4.1.trans (hb.mono hS4.1.size)) hS4⟩)
      refine wk.does_fn (f := 19) (vs := #[.slice A4 (n + 1) c4, .int .i64 k]) rfl (DG.fn _) (by simp [e4, e13]) (by go_simp) ((rof_calls k w4 hI hk).mono ?_)
      rintro e w' ⟨A', n', c', rfl, h1, hb⟩
      exact ⟨_, rfl, hb, _, _, _, rfl, h1⟩
  case hdone =>
    intro vals Lv w4 hall hS4 hv
    have h7 : ∃ A' n' c', vals 7 = .slice A' n' c' ∧ IsH w4 A' n' c' (ofL (l ++ [x]) k.toNat) := hv 7 (by omega)
    have hB4 := Lib.hid (HB.out.trans (hS4.1.mono HB.out.size))
    clear hv hall hS4
    obtain ⟨A', n', c', h8, hI⟩ := h7
    have HI := Lib.hid hI
    clear hI
    simp only [List.drop_succ_cons, List.drop_zero, wk.setL, List.setIfInBounds_toArray, List.set_cons_zero, List.set_cons_succ, Nat.zero_add, Nat.reduceAdd, h8]
    clear h8
    generalize vals 0 = x0 at *
    generalize vals 1 = x1 at *
    generalize vals 2 = x2 at *
    generalize vals 3 = x3 at *
    generalize vals 4 = x4 at *
    generalize vals 5 = x5 at *
    generalize vals 6 = x6 at *
    go_wp2_with fail
    go_ret
    exact ⟨_, _, _, rfl, HI.out, hB4.out⟩
set_option maxRecDepth 100000 in
set_option maxHeartbeats 4000000 in
theorem renters_calls {a : List H} {x : H} {A : Option Addr} {n c : Nat} (k : Int) (w : World) (h : IsH w A n c a) (hx : Wd x) (hn : n ≤ 900) (hk : k ≤ 1000000) : Calls Try.prog 24 #[.slice A n c, .int .i64 k, .agg #[.int .i64 x.1, .int .i64 x.2.1, .int .i64 x.2.2]] w fun e w' => e = .returned (.bool (!(a == ofL (a ++ [x]) k.toNat))) ∧ Below w.heap.size w w' := by
  have hb1 := below_new w (.cells #[.int .i64 x.1, .int .i64 x.2.1, .int .i64 x.2.2] 27)
  have hR := RowH.new w x
  have h0 := hR.c0
  have h1 := hR.c1
  have h2 := hR.c2
  have HB := Lib.hid hb1
  have HA := Lib.hid (isH_below h hb1)
  have HM := Lib.hid (rput_calls k (w.alloc (.cells #[.int .i64 x.1, .int .i64 x.2.1, .int .i64 x.2.2] 27)) (isH_below h hb1) hx hn hk)
  clear h hb1 hR
  go_enter Try.func24, Try.ntmps24
  go_wp2_with fail
  refine HM.out.mono ?_
  rintro e w' ⟨A2, n2, c2, rfl, h3, h4⟩
  have HE := Lib.hid (rsame_calls w' (HA.out.below h4) h3)
  have HF := Lib.hid (Below.andThen HB.out h4)
  clear h3 h4
  go_wp2_with fail
  refine HE.out.mono ?_
  rintro e w2 ⟨rfl, q, rfl⟩
  have HF2 : Hid (Below w.heap.size w (w'.drewN q)) := HF.out.trans ⟨rfl, rfl, rfl, Nat.le_refl _, fun _ _ => rfl⟩
  go_wp2_with fail
  go_ret
  exact ⟨rfl, HF2.out⟩
end Go.Proofs.Ytckipafciomklaa.bk
