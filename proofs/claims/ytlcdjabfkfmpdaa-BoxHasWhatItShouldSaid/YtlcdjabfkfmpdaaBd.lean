/- Valid. -/
import Derived.Test.YtlcdjabfkfmpdaaBc

namespace Go.Proofs.Ytlcdjabfkfmpdaa.bk

open Go.ChangeShapes Go.WideShapes Go.ChangeAt Go.RowKit

open Go.Proofs.Ytlcdjabfkfmpdaa.bq Go.Proofs.Ytlcdjabfkfmpdaa.vk Go.Proofs.Ytlcdjabfkfmpdaa.wk

set_option linter.unusedVariables false
attribute [local go_sem] Oper.semAt_some
set_option maxRecDepth 100000 in
set_option maxHeartbeats 2000000 in
theorem valid_calls (v : Value) (p : Pair) (w : World) (h : IsX w v p) :
    Calls Try.prog 19 #[v] w fun e w' => e = .returned (.bool (bvalid p)) ∧ Below w.heap.size w w' := by
  obtain ⟨A, n, c, A', n', c', rfl, hi, hi'⟩ := h
  have hm := hi.2.2.1
  have hm' := hi'.2.2.1
  have hn := hi.2.1
  have hn' := hi'.2.1
  have hl := hi.1
  have hl' := hi'.1
  have hB0 := Below.andThen (below_new w (.cells #[.slice A n c, .slice A' n' c'] 25)) (below_new _ (.cells #[.bool false] 4))
  have hB1 := Below.andThen (below_new w (.cells #[.slice A n c, .slice A' n' c'] 25)) (below_new _ (.cells #[.bool true] 4))
  have HI := Lib.hid hi
  have HI' := Lib.hid hi'
  have HB0 := Lib.hid hB0
  have HV := Lib.hid (fun w' hb => isVector_calls A n c p.1 w' (isI_below hi hb))
  have HV' := Lib.hid (fun w' hb => isVector_calls A' n' c' p.2 w' (isI_below hi' hb))
  have HO := Lib.hid (One.new (w.alloc (.cells #[.slice A n c, .slice A' n' c'] 25)) 4 (.bool false))
  have hS := size_new w (.cells #[.slice A n c, .slice A' n' c'] 25)
  rw [hS] at HO
  clear hi hi' hB0 hS
  refine enter_marks Try.func19 rfl ?_
  simp only [Try.ntmps19, List.size_toArray, List.length_cons, List.length_nil, Nat.reduceAdd, Nat.reduceSub, Array.replicate_succ, Array.replicate_zero, List.push_toArray, List.append_toArray, List.nil_append, List.cons_append]
  by_cases hlen : n = n'
  · subst hlen
    by_cases hv1 : vq.valid p.1 = true
    · rw [hv1] at HV
      by_cases hv2 : vq.valid p.2 = true
      · rw [hv2] at HV'
        have hV : bvalid p = le p.1 p.2 := by simp [bvalid, hv1, hv2, hl, hl']
        rw [hV]
        go_wp2_with fail
        refine (HV.out _ HB0.out).mono ?_
        rintro e w' ⟨rfl, rfl⟩
        go_wp2_with fail
        refine (HV'.out _ HB0.out).mono ?_
        rintro e w' ⟨rfl, rfl⟩
        go_wp2_with fail
        refine (sides_calls _ _ _).mono ?_
        rintro e w' ⟨rfl, rfl⟩
        go_wp2_with fail
        generalize hG : w.heap.size = G at *
        have hs3 : ∀ o1 o2 o3, (((w.alloc o1).alloc o2).alloc o3).heap.size = G + 3 := by intro o1 o2 o3; simp only [size_new, hG]
        have hB3 : Below G w (((w.alloc (.cells #[.slice A n c, .slice A' n c'] 25)).alloc (.cells #[.bool false] 4)).alloc (.cells #[.slice A n c, .slice A' n c'] 25)) := HB0.out.trans ((below_new _ _).mono (by simp only [size_new, hG]; omega))
        refine range_sides' none 4 G (G + 1 + 1) [G + 1] p (.slice A n c) (.slice A' n c') rfl ?c1 ?c2 ?c0 ?c3 ?c4 ?c5 ?c6 (fun pre W => One W (G + 1) 4 (.bool false) ∧ ∀ x ∈ pre, at' p.1 x.1 ≤ at' p.2 x.1) (fun c W => (c = .ret ∧ le p.1 p.2 = false) ∧ One W (G + 1) 4 (.bool false)) ?c7 ?c8 ?c9 ?hassign ?hbody ?hdone ?hstop
        case c0 => have := Two.new ((w.alloc (.cells #[.slice A n c, .slice A' n c'] 25)).alloc (.cells #[.bool false] 4)) (.slice A n c) (.slice A' n c') 25; simp only [size_new, hG] at this; exact this
        case c1 => simp
        case c2 => rw [hs3]; omega
        case c3 => simp
        case c4 => rw [hs3]; simp
        case c5 => omega
        case c6 =>
          intro w' hb
          have hb' : Below G w w' := hB3.trans hb
          rw [← hG] at hb'
          exact ⟨A, n, c, A', n, c', rfl, isI_below HI.out hb', isI_below HI'.out hb'⟩
        case c7 => exact OwnFrom.and (own_one (by rw [hs3]; omega)) own_pure
        case c8 => intro c'; exact OwnFrom.and own_pure (own_one (by rw [hs3]; omega))
        case c9 => exact ⟨HO.out.below (below_new _ _), fun x hx => by cases hx⟩
        case hassign =>
          intro l m i a b W K hK
          unfold rng at hK ⊢
          simp only [roundT, List.setIfInBounds_toArray, List.set_cons_succ, List.set_cons_zero] at hK ⊢
          gi_wp2
          exact hK
        case hbody =>
          rintro l m pre x Bx W hBx hT hx ⟨hO, hI⟩ hlen
          simp only [roundT, List.setIfInBounds_toArray, List.set_cons_succ, List.set_cons_zero]
          have hT0 := hT.c0
          have hT1 := hT.c1
          have hO0 := hO.cell
          have hO1 := hO.frozen
          by_cases hle : at' p.1 x.1 ≤ at' p.2 x.1
          · gi_wp2
            exact ⟨Turn.refl _ _ _, hO, fun y hy => by rcases List.mem_append.1 hy with h | h; exact hI y h; rw [List.mem_singleton] at h; subst h; exact hle⟩
          · gi_wp2
            exact ⟨Turn.setCell _ (by simp), ⟨rfl, le_not x.2 (by omega)⟩, hO.set _⟩
        case hdone =>
          rintro D ys W hD hys hx ⟨hO, hI⟩ hK
          have hO0 := hO.cell
          have hO1 := hO.frozen
          have hle : le p.1 p.2 = true := le_iff.2 (all_range hys hI)
          rw [hs3] at hD
          go_wp2_with fail
          refine leave_bool (fn := Try.f19) rfl rfl rfl Try.underlying4 (hO.set _) ?_ (by omega) ⟨by rw [hle], ?_⟩
          · exact (Below.heap_setCell _ _ _ _ (by show D ≠ G + 1; omega)).trans hK
          · rw [hG]; exact below_mark (((hB3.trans (hx.below (by rw [hs3]; omega) (by simp))).setCell (p := ⟨G + 1, 0, none⟩) (by show G ≤ G + 1; omega) _)) (by omega)
        case hstop =>
          rintro D c W hD hx ⟨⟨rfl, hle⟩, hO⟩ hK
          rw [hs3] at hD
          go_wp2_with fail
          refine leave_bool (fn := Try.f19) rfl rfl rfl Try.underlying4 hO hK (by omega) ⟨by rw [hle], ?_⟩
          rw [hG]
          exact below_mark (hB3.trans (hx.below (by rw [hs3]; omega) (by simp))) (by omega)
      · have hV : bvalid p = false := by simp [bvalid, hv2]
        have hv2' : vq.valid p.2 = false := by simpa using hv2
        rw [hv2'] at HV'
        rw [hV]
        go_wp2_with fail
        refine (HV.out _ HB0.out).mono ?_
        rintro e w' ⟨rfl, rfl⟩
        go_wp2_with fail
        refine (HV'.out _ HB0.out).mono ?_
        rintro e w' ⟨rfl, rfl⟩
        go_wp2_with fail
        exact leave_bool0 (fn := Try.f19) rfl rfl rfl Try.underlying4 HO.out ⟨rfl, HB0.out⟩
    · have hV : bvalid p = false := by simp [bvalid, hv1]
      have hv1' : vq.valid p.1 = false := by simpa using hv1
      rw [hv1'] at HV
      rw [hV]
      go_wp2_with fail
      refine (HV.out _ HB0.out).mono ?_
      rintro e w' ⟨rfl, rfl⟩
      go_wp2_with fail
      exact leave_bool0 (fn := Try.f19) rfl rfl rfl Try.underlying4 HO.out ⟨rfl, HB0.out⟩
  · have hV : bvalid p = false := by simp [bvalid, hl, hl', hlen]
    rw [hV]
    go_wp2_with fail
    exact leave_bool0 (fn := Try.f19) rfl rfl rfl Try.underlying4 HO.out ⟨rfl, HB0.out⟩
end Go.Proofs.Ytlcdjabfkfmpdaa.bk
