/- A hit that enters, and the worst of a list: plainly. No program here. -/
import Derived.Test.YteeoogcchgiffaaG13

namespace Go.Proofs.Yteeoogcchgiffaa.bk

open Go.Proofs.Yteeoogcchgiffaa.bq

set_option linter.unusedVariables false
theorem last_of {l : List H} (h0 : l ≠ []) (ha : Asc l) : ∃ y ∈ l, l.getLast? = some y ∧ ∀ x ∈ l, x = y ∨ lt x y = true := by
  rcases List.eq_nil_or_concat l with rfl | ⟨l', y, rfl⟩
  · exact absurd rfl h0
  · refine ⟨y, by simp, by simp, fun x hx => ?_⟩
    rw [List.concat_eq_append] at hx ha
    rcases List.mem_append.1 hx with hx | hx
    · exact .inr ((List.pairwise_append.1 ha).2.2 x hx y (by simp))
    · exact .inl (List.mem_singleton.1 hx)
theorem worst_full {l : List H} {k : Int} {y : H} (hl : (l.length : Int) = k) (hk : 1 ≤ k) (hy : l.getLast? = some y) : worst l k = y.2.2 - 1 := by
  unfold worst
  rw [if_neg (by omega), hy]; rfl
theorem worst_less {l : List H} {k : Int} (hl : (l.length : Int) < k) : worst l k = 134217728 := by
  unfold worst
  rw [if_pos (by omega)]
theorem right_key {h : H} (hr : right h = true) : 0 ≤ h.2.2 ∧ h.2.2 ≤ 134217728 := by
  unfold right at hr
  simp only [Bool.and_eq_true, decide_eq_true_eq] at hr
  exact hr.2
theorem lt_key {a b : H} (h : a.2.2 < b.2.2) : lt a b = true := by rw [lt_iff]; exact .inl h
section

variable {l : List H} {h : H} {k : Int}
theorem no_id (hd : Dst l) (hc : com l [h] ≤ 0) : ∀ x ∈ l, x.1 ≠ h.1 := fun x hx e => by
  rw [com_eq hd (lst_one h).2] at hc
  have : x ∈ l.filter (hasI [h]) := List.mem_filter.2 ⟨hx, hasI_iff.2 (by simp [e])⟩
  have := List.length_pos_of_mem this
  omega
theorem mem_l (hd : Dst l) (hn : ∀ x ∈ l, x.1 ≠ h.1) {x : H} (hx : x ∈ l) : x ∈ bst (l ++ [h]) := mem_bst.2 ⟨List.mem_append_left _ hx, fun g hg e => by
  rcases List.mem_append.1 hg with hg | hg
  · rw [dst_id hd g hg x hx e]; exact lt_irrefl _
  · rw [List.mem_singleton.1 hg] at e; exact absurd e.symm (hn x hx)⟩
theorem mem_h (hn : ∀ x ∈ l, x.1 ≠ h.1) : h ∈ bst (l ++ [h]) := mem_bst.2 ⟨by simp, fun g hg e => by
  rcases List.mem_append.1 hg with hg | hg
  · exact absurd e (hn g hg)
  · rw [List.mem_singleton.1 hg]; exact lt_irrefl _⟩
theorem cnt_up {z : H} (hz : lt h z = false) : cnt (l ++ [h]) z ≤ (l.filter (lt · z)).length := by
  have hs : Dst ((bst (l ++ [h])).filter (lt · z)) := dst_filter (lst_bst _).2 _
  have := pigeon (b := (l.filter (lt · z)).map fun x : H => x.1) hs fun i hi => by
    obtain ⟨x, hx, rfl⟩ := List.mem_map.1 hi
    rw [List.mem_filter] at hx
    refine List.mem_map.2 ⟨x, List.mem_filter.2 ⟨?_, hx.2⟩, rfl⟩
    rcases List.mem_append.1 (mem_bst.1 hx.1).1 with h1 | h1
    · exact h1
    · rw [List.mem_singleton.1 h1] at hx
      have := hx.2
      rw [hz] at this; cases this
  rw [List.length_map, List.length_map] at this
  exact this
theorem cnt_down (hd : Dst l) (z : H) : (l.filter (lt · z)).length ≤ cnt (l ++ [h]) z :=
  cnt_ge (dst_filter hd _) fun x hx => ⟨List.mem_append_left _ (List.mem_filter.1 hx).1, (List.mem_filter.1 hx).2⟩
theorem bst_ge (hd : Dst l) : l.length ≤ (bst (l ++ [h])).length := by
  have := pigeon (b := (bst (l ++ [h])).map (·.1)) hd fun i hi => id_bst_iff.2 (by rw [List.map_append]; exact List.mem_append_left _ hi)
  rwa [List.length_map, List.length_map] at this
theorem ent_iff (hd : Dst l) (hn : ∀ x ∈ l, x.1 ≠ h.1) {K : Nat} : h ∈ ofL (l ++ [h]) K ↔ (l.filter (lt · h)).length < K := by
  rw [mem_ofL]
  have h1 := cnt_up (l := l) (lt_irrefl h)
  have h2 := cnt_down (h := h) hd h
  constructor
  · rintro ⟨_, h3⟩; omega
  · intro h3; exact ⟨mem_h hn, by omega⟩
theorem stay (hl : Lst l) (hn : ∀ x ∈ l, x.1 ≠ h.1) {K : Nat} (hk : l.length ≤ K) (h3 : h ∉ ofL (l ++ [h]) K) : ofL (l ++ [h]) K = l := by
  rw [ent_iff hl.2 hn] at h3
  have h4 := List.length_filter_le (lt · h) l
  have hall : ∀ x ∈ l, lt x h = true := List.length_filter_eq_length_iff.1 (by omega)
  refine asc_ext (lst_ofL _ _).1 hl.1 fun x => ⟨fun hx => ?_, fun hx => ?_⟩
  · rcases List.mem_append.1 (ofL_mem hx) with h1 | h1
    · exact h1
    · rw [List.mem_singleton.1 h1, ent_iff hl.2 hn] at hx; omega
  · refine mem_ofL.2 ⟨mem_l hl.2 hn hx, ?_⟩
    have h5 := cnt_up (l := l) (lt_asymm (hall x hx))
    have h6 : (l.filter (lt · x)).length < l.length := List.length_filter_lt_length_iff_exists.2 ⟨x, hx, by simp [lt_irrefl]⟩
    omega
/-- what the law needs of a valid list and a hit whose ID it does not have -/
structure Ent (l : List H) (h : H) (k : Int) (s : List H) (E : Bool) : Prop where
  is : (!(l == s)) = E
  one : com s [h] = if E = true then 1 else 0
  low : h.2.2 ≤ worst l k → E = true
  high : (l.length : Int) = k → worst l k + 2 ≤ h.2.2 → E = false
  same : E = false → s = l
  less : worst s k ≤ worst l k
  bd : -1 ≤ worst l k ∧ worst l k ≤ 134217728
  pos : ∀ x ∈ s, 0 ≤ x.2.2
theorem ent (hv : vld l k = true) (hr : right h = true) (hc : com l [h] ≤ 0) : ∃ E, Ent l h k (ofL (l ++ [h]) k.toNat) E := by
  obtain ⟨⟨hk1, hk2⟩, hlk, hrt, hL⟩ := vld_iff.1 hv
  have hn := no_id hL.2 hc
  obtain ⟨K, hK⟩ : ∃ K, K = k.toNat := ⟨_, rfl⟩
  have hKk : (K : Int) = k := by omega
  rw [← hK]
  have hkeys : ∀ x ∈ ofL (l ++ [h]) K, right x = true := fun x hx => by
    rcases List.mem_append.1 (ofL_mem hx) with h1 | h1
    · exact hrt x h1
    · rw [List.mem_singleton.1 h1]; exact hr
  have hnl : h ∉ l := fun hh => hn h hh rfl
  have hdec : ∀ E : Bool, (E = true ↔ h ∈ ofL (l ++ [h]) K) → (!(l == ofL (l ++ [h]) K)) = E := fun E hE => by
    cases E with
    | true =>
      have h1 := hE.1 rfl
      have : l ≠ ofL (l ++ [h]) K := fun e => hnl (e ▸ h1)
      simp [this]
    | false =>
      have h1 : h ∉ ofL (l ++ [h]) K := fun hh => by cases hE.2 hh
      rw [stay hL hn (by omega) h1]; simp
  have hbd : -1 ≤ worst l k ∧ worst l k ≤ 134217728 := by
    rcases Int.lt_or_le (l.length : Int) k with h1 | h1
    · rw [worst_less h1]; omega
    · obtain ⟨y, hy, hy2, _⟩ := last_of (l := l) (by rintro rfl; simp at h1; omega) hL.1
      rw [worst_full (by omega) hk1 hy2]
      have := right_key (hrt y hy); omega
  have hpos : ∀ x ∈ ofL (l ++ [h]) K, 0 ≤ x.2.2 := fun x hx => (right_key (hkeys x hx)).1
  have hfl := List.length_filter_le (lt · h) l
  cases hE : decide (h ∈ ofL (l ++ [h]) K) with
  | true =>
    have hm : h ∈ ofL (l ++ [h]) K := by simpa using hE
    refine ⟨true, hdec true ⟨fun _ => hm, fun _ => rfl⟩, ?_, fun _ => rfl, fun h1 h2 => ?_, (fun h1 => by cases h1), ?_, hbd, hpos⟩
    · rw [com_eq (lst_ofL _ _).2 (lst_one h).2, if_pos rfl]
      have h1 : 0 < ((ofL (l ++ [h]) K).filter (hasI [h])).length := List.length_pos_of_mem (List.mem_filter.2 ⟨hm, hasI_iff.2 (by simp)⟩)
      have h2 := pigeon (a := ((ofL (l ++ [h]) K).filter (hasI [h])).map fun x : H => x.1) (b := [h.1]) (dst_filter (lst_ofL _ _).2 _) fun i hi => by
        obtain ⟨x, hx, rfl⟩ := List.mem_map.1 hi
        have := hasI_iff.1 (List.mem_filter.1 hx).2
        simpa using this
      rw [List.length_map, List.length_singleton] at h2
      omega
    · exfalso
      rw [ent_iff hL.2 hn] at hm
      obtain ⟨y, hy, hy2, hy3⟩ := last_of (l := l) (by rintro rfl; simp at h1; omega) hL.1
      rw [worst_full h1 hk1 hy2] at h2
      have hyh : lt y h = true := lt_key (by omega)
      have hall : ∀ x ∈ l, lt x h = true := fun x hx => by
        rcases hy3 x hx with rfl | h4
        · exact hyh
        · exact lt_trans h4 hyh
      rw [List.length_filter_eq_length_iff.2 hall] at hm
      omega
    · rcases Int.lt_or_le (l.length : Int) k with h1 | h1
      · rw [worst_less h1]
        rcases Int.lt_or_le ((ofL (l ++ [h]) K).length : Int) k with h2 | h2
        · rw [worst_less h2]; omega
        · have h5 := ofL_len (l ++ [h]) K
          obtain ⟨z, hz, hz2, _⟩ := last_of (l := ofL (l ++ [h]) K) (by intro e; rw [e] at h2; simp at h2; omega) (lst_ofL _ _).1
          rw [worst_full (by omega) hk1 hz2]
          have := right_key (hkeys z hz); omega
      · obtain ⟨y, hy, hy2, hy3⟩ := last_of (l := l) (by rintro rfl; simp at h1; omega) hL.1
        rw [worst_full (by omega) hk1 hy2]
        have h5 : (ofL (l ++ [h]) K).length = K := by
          have := bst_ge (h := h) hL.2
          unfold ofL; rw [List.length_take]; omega
        obtain ⟨z, hz, hz2, _⟩ := last_of (l := ofL (l ++ [h]) K) (by intro e; rw [e] at h5; simp at h5; omega) (lst_ofL _ _).1
        rw [worst_full (by omega) hk1 hz2]
        have : z.2.2 ≤ y.2.2 := by
          refine Int.not_lt.1 fun h6 => ?_
          have hyz := lt_key h6
          have h7 := cnt_ge (b := l ++ [h]) (h := z) hL.2 fun x hx => ⟨List.mem_append_left _ hx, by
            rcases hy3 x hx with rfl | h4
            · exact hyz
            · exact lt_trans h4 hyz⟩
          have := (mem_ofL.1 hz).2
          omega
        omega
  | false =>
    have hm : h ∉ ofL (l ++ [h]) K := by simpa using hE
    have hst := stay hL hn (by omega) hm
    refine ⟨false, hdec false ⟨(fun h1 => by cases h1), fun h1 => absurd h1 hm⟩, ?_, fun h1 => ?_, fun _ _ => rfl, fun _ => hst, by rw [hst]; omega, hbd, hpos⟩
    · rw [hst, if_neg (by simp)]
      have := com_nn l [h]; omega
    · exfalso
      rw [ent_iff hL.2 hn] at hm
      have h4 : (l.length : Int) = k := by omega
      obtain ⟨y, hy, hy2, hy3⟩ := last_of (l := l) (by rintro rfl; simp at h4; omega) hL.1
      rw [worst_full h4 hk1 hy2] at h1
      have hyh : lt h y = true := lt_key (by omega)
      have h6 : (l.filter (lt · h)).length < l.length := List.length_filter_lt_length_iff_exists.2 ⟨y, hy, by simp [lt_asymm hyh]⟩
      omega
end

end Go.Proofs.Yteeoogcchgiffaa.bk
