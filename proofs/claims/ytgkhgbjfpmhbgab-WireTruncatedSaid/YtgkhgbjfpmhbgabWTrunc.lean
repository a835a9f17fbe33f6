import Derived.Test.YtgkhgbjfpmhbgabLive
import Derived.Lib.MinMax
namespace Go.Proofs.Ytgkhgbjfpmhbgab.wireTruncated
open Go.ChangeShapes Go.WideShapes Go.ChangeAt Go.RowKit
set_option linter.unusedVariables false

theorem len_ints (l : List Int) (h : ∀ x ∈ l, -9223372036854775808 ≤ x ∧ x ≤ 9223372036854775807) (hl : l.length ≤ 9223372036854775807) : (wp.encIs l).length ≤ 10 + 10 * l.length := by
  have key : ∀ l : List Int, (∀ x ∈ l, -9223372036854775808 ≤ x ∧ x ≤ 9223372036854775807) → (l.flatMap wp.encI).length ≤ 10 * l.length := by
    intro l
    induction l with
    | nil => intro _; simp
    | cons x r ih =>
      intro hx
      have h1 := ih fun y hy => hx y (List.mem_cons_of_mem _ hy)
      have h2 := wp.encI_length (hx x List.mem_cons_self).1 (hx x List.mem_cons_self).2
      simp only [List.flatMap_cons, List.length_append, List.length_cons]
      omega
  have h1 := key l h
  have h2 := wp.encI_length (n := (l.length : Int)) (by omega) (by omega)
  unfold wp.encIs
  rw [List.length_append]
  omega
theorem len_digs (l : List (List UInt8)) (h : ∀ d ∈ l, d.length = 16) (hl : l.length ≤ 9223372036854775807) : (wp.encDs l).length ≤ 10 + 16 * l.length := by
  have key : ∀ l : List (List UInt8), (∀ d ∈ l, d.length = 16) → (l.flatMap id).length = 16 * l.length := by
    intro l
    induction l with
    | nil => intro _; simp
    | cons x r ih =>
      intro hx
      have h1 := ih fun y hy => hx y (List.mem_cons_of_mem _ hy)
      have h2 := hx x List.mem_cons_self
      simp only [List.flatMap_cons, List.length_append, List.length_cons, h1, id]
      omega
  have h1 := key l h
  have h2 := wp.encI_length (n := (l.length : Int)) (by omega) (by omega)
  unfold wp.encDs
  rw [List.length_append]
  omega
theorem RB_take {w : World} {A : Option Addr} {l : List UInt8} (h : wp.RB w A l) (k : Nat) : wp.RB w A (l.take k) := fun hl => by
  obtain ⟨b, o, hA, hb, hc⟩ := h (by rw [List.length_take] at hl; omega)
  refine ⟨b, o, hA, hb, fun j u hu => hc j u ?_⟩
  rw [List.getElem?_take] at hu
  split at hu
  · exact hu
  · cases hu

theorem short_ints (l : List Int) (h : ∀ x ∈ l, -9223372036854775808 ≤ x ∧ x ≤ 9223372036854775807) (hl : l.length ≤ 9223372036854775807) (j : Nat) (hj : j < (wp.encIs l).length) : (wp.getL wp.getI 1 ((wp.encIs l).take j)).2.2 = 10 :=
  wp.getL_short l 1 (by decide) hl (fun x hx t => wp.getI_encI (h x hx).1 (h x hx).2 t) (fun x hx i hi => by rw [wp.getI_short (h x hx).1 (h x hx).2 hi]) j hj
theorem short_strs (l : List ByteArray) (h : ∀ s ∈ l, s.size ≤ 9223372036854775807) (hl : l.length ≤ 9223372036854775807) (j : Nat) (hj : j < (wp.encSs l).length) : (wp.getL wp.getB 1 ((wp.encSs l).take j)).2.2 = 10 := by
  rw [wp.encSs_eq] at hj ⊢
  have hl' : (l.map fun s => s.data.toList).length ≤ 9223372036854775807 := by rw [List.length_map]; exact hl
  have h' : ∀ x ∈ (l.map fun s => s.data.toList), x.length ≤ 9223372036854775807 := fun x hx => by
    obtain ⟨s, hs, rfl⟩ := List.mem_map.1 hx
    have := h s hs
    have h5 : s.data.toList.length = s.size := by rw [Array.length_toList]; rfl
    omega
  generalize (l.map fun s => s.data.toList) = xs at *
  exact wp.getL_short (one := wp.getB) (enc := wp.encB) xs 1 (by decide) hl' (fun x hx t => wp.getB_round x t (h' x hx)) (fun x hx i hi => wp.getB_short x (h' x hx) i hi) j hj

/-- the rows of what is written, and the list of them -/
abbrev lv (A : Option Addr) (k c : Nat) : Value := .slice A k c

set_option maxRecDepth 100000 in
set_option maxHeartbeats 4000000 in
theorem walk (w : World) {n : Int} {s : ByteArray} {A1 : Option Addr} {n1 c1 : Nat} {li : List Int} {A2 : Option Addr} {n2 c2 : Nat} {ls : List ByteArray} {A3 : Option Addr} {n3 c3 : Nat} {ld : List (List UInt8)}
    (wn : (Lit.int .i64 n).wf = true) (_w0 : s.size ≤ maxLen) (m0 : s.size ≤ 140737488351232) (w1 : wo.IsI w A1 n1 c1 li) (m1 : n1 ≤ 140737488351232) (w2 : wo.IsS w A2 n2 c2 ls) (t2 : ∀ s ∈ ls, s.size ≤ 140737488351232) (m2 : n2 ≤ 140737488351232) (w3 : wo.IsD w A3 n3 c3 ld) (m3 : n3 ≤ 140737488351232) :
    Calls Try.prog 3 #[.int .i64 n, .string s, .slice A1 n1 c1, .slice A2 n2 c2, .slice A3 n3 c3] w fun e w' => e = .returned (.bool true) ∧ Below w.heap.size w w' := by
  have hn : -9223372036854775808 ≤ n ∧ n ≤ 9223372036854775807 := by simpa [Lit.wf, IntKind.min, IntKind.max, IntKind.signed, IntKind.bits] using wn
  have hw2 := w2
  obtain ⟨hl1, hn1, hc1, hr1, hwf⟩ := w1
  obtain ⟨hl2, hn2, hc2, hr2, hss⟩ := w2
  obtain ⟨hl3, hn3, hc3, hr3, h16⟩ := w3
  clear wn _w0
  have hout : ∀ P : Prop, (¬ P → P ∨ ¬ P) := fun P _ => Classical.em P
  clear hout
  by_cases hb : 400 < s.size + 10 * n1 + 16 * n3
  · clear hl1 hl2 hl3 hr1 hr2 hr3 hwf hss h16 t2 hw2
    go_enter Try.func3, Try.ntmps3
    go_wp2_with fail
    refine (wi.sanity_true _).mono ?_
    rintro e w5 ⟨rfl, hbl⟩
    go_wp2_with fail
    go_ret
    exact ⟨rfl, hbl⟩
  · by_cases h40 : 40 < n2
    · clear hl1 hl2 hl3 hr1 hr2 hr3 hwf hss h16 t2 hw2
      go_enter Try.func3, Try.ntmps3
      go_wp2_with fail
      refine (wi.sanity_true _).mono ?_
      rintro e w5 ⟨rfl, hbl⟩
      go_wp2_with fail
      go_ret
      exact ⟨rfl, hbl⟩
    · have htot : wp.total ls ≤ 40 + 40 * 140737488351232 := by
        have key : ∀ l : List ByteArray, (∀ s ∈ l, s.size ≤ 140737488351232) → (l.map fun s => s.size).sum ≤ l.length * 140737488351232 := by
          intro l
          induction l with
          | nil => intro _; simp
          | cons x r ih =>
            intro h
            have h1 := ih fun y hy => h y (List.mem_cons_of_mem _ hy)
            have h2 := h x List.mem_cons_self
            simp only [List.map_cons, List.sum_cons, List.length_cons, Nat.add_mul]
            omega
        have h1 := key ls t2
        have h2 : ls.length * 140737488351232 ≤ 40 * 140737488351232 := Nat.mul_le_mul_right _ (by omega)
        unfold wp.total
        omega
      have HF := Lib.hid (wi.few_any A2 n2 c2 ls w hw2 (by omega))
      clear hw2
      by_cases hf : wp.total ls ≤ 2000
      · have hff : decide ((wp.total ls : Int) ≤ 2000) = true := by simp; omega
        rw [hff] at HF
        have hs1 : ∀ s ∈ ls, s.size ≤ 9223372036854775807 := fun s hs => by have := t2 s hs; omega
        have b0 := congrArg List.length (wp.encB_eq s)
        have b0' := wp.encI_length (n := (s.size : Int)) (by omega) (by omega)
        have b0'' : s.data.toList.length = s.size := by rw [Array.length_toList]; rfl
        rw [List.length_append, b0''] at b0
        have b1 := len_ints li hwf (by omega)
        have b3 := len_digs ld h16 (by omega)
        have b2 : (wp.encSs ls).length ≤ 10 + 10 * ls.length + wp.total ls := by
          rcases wp.total_flat ls with h | ⟨s, hs, h⟩
          · exact h
          · have := hs1 s hs; omega
        have bN := wp.encI_length hn.1 hn.2
        have SN := Lib.hid (fun j (h : j < (wp.encI n).length) => wp.getI_short hn.1 hn.2 h)
        have S0 := Lib.hid (fun j h => wp.getB_short s.data.toList (by omega) j h)
        have S1 := Lib.hid (fun j h => short_ints li hwf (by omega) j h)
        have S2 := Lib.hid (fun j h => short_strs ls hs1 (by omega) j h)
        have S3 := Lib.hid (fun j h => wp.getL_D_short ld h16 (by omega) j h)
        have EN := Lib.hid (fun w => wi.int_out n w hn.1 hn.2)
        have E0 := Lib.hid (fun w => wi.bytes_out s w (by omega))
        have E1 := Lib.hid (fun w h => wi.ints_out A1 n1 c1 li w hl1 hn1 hc1 h hwf (by omega))
        have E2 := Lib.hid (fun w h => wi.strings_out A2 n2 c2 ls w hl2 hn2 hc2 h (by omega))
        have E3 := Lib.hid (fun w h => wi.digests_out A3 n3 c3 ld w hl3 hn3 hc3 h h16 (by omega))
        have L0 : wp.LiveL w [(A1, li.map (Value.int .i64)), (A2, ls.map Value.string), (A3, ld.flatMap wp.bc)] := ((wp.LiveL.nil.add hr3).add hr2).add hr1
        have hsum : s.size + 10 * n1 + 16 * n3 ≤ 400 := by omega
        obtain ⟨kN, hkN⟩ : ∃ k, k = (wp.encI n).length := ⟨_, rfl⟩
        obtain ⟨k0, hk0⟩ : ∃ k, k = (wp.encB s.data.toList).length := ⟨_, rfl⟩
        obtain ⟨k1, hk1⟩ : ∃ k, k = (wp.encIs li).length := ⟨_, rfl⟩
        obtain ⟨k2, hk2⟩ : ∃ k, k = (wp.encSs ls).length := ⟨_, rfl⟩
        obtain ⟨k3, hk3⟩ : ∃ k, k = (wp.encDs ld).length := ⟨_, rfl⟩
        have qN : kN ≤ 50000 := by omega
        have q0 : k0 ≤ 50000 := by omega
        have q1 : k1 ≤ 50000 := by omega
        have q2 : k2 ≤ 50000 := by omega
        have q3 : k3 ≤ 50000 := by omega
        have KN := Lib.hid hkN
        have K0 := Lib.hid hk0
        have K1 := Lib.hid hk1
        have K2 := Lib.hid hk2
        have K3 := Lib.hid hk3
        clear hff hs1 b0 b0' b0'' b1 b2 b3 bN hl1 hl2 hl3 hr1 hr2 hr3 hwf hss h16 t2 hf hb hn m0 m1 m2 m3 htot hkN hk0 hk1 hk2 hk3
        generalize wp.encB s.data.toList = T0 at *
        generalize wp.encIs li = T1 at *
        generalize wp.encSs ls = T2 at *
        generalize wp.encDs ld = T3 at *
        generalize wp.encI n = TN at *
        go_enter Try.func3, Try.ntmps3
        go_wp2_with fail
        refine HF.out.mono ?_
        rintro e w4 ⟨rfl, rfl⟩
        go_wp2_with fail
        refine (EN.out w).mono ?_
        rintro e w5 ⟨v5, rfl, hown, hbl⟩
        obtain ⟨P5, d5, rfl, hd5, hm5, hR⟩ := wp.RC.of_own hown
        unfold maxLen at hm5
        rw [← KN.out] at hd5 ⊢
        have B5 : Below w.heap.size w w5 := hbl
        have L5 := wp.LiveL.nil.add hR
        clear hown hbl hR
        go_wp2_with fail
        refine (E0.out w5).mono ?_
        rintro e w6 ⟨v6, rfl, hown, hbl⟩
        obtain ⟨P6, d6, rfl, hd6, hm6, hR⟩ := wp.RC.of_own hown
        unfold maxLen at hm6
        rw [← K0.out] at hd6 ⊢
        have B6 := B5.trans (hbl.mono B5.size)
        have L6 := (L5.below hbl).add hR
        clear hown hbl hR L5 B5
        go_wp2_with fail
        refine (E1.out w6 ((L0.below B6).get 0 rfl)).mono ?_
        rintro e w7 ⟨v7, rfl, hown, hbl⟩
        obtain ⟨P7, d7, rfl, hd7, hm7, hR⟩ := wp.RC.of_own hown
        unfold maxLen at hm7
        rw [← K1.out] at hd7 ⊢
        have B7 := B6.trans (hbl.mono B6.size)
        have L7 := (L6.below hbl).add hR
        clear hown hbl hR L6 B6
        go_wp2_with fail
        refine (E2.out w7 ((L0.below B7).get 1 rfl)).mono ?_
        rintro e w8 ⟨v8, rfl, hown, hbl⟩
        obtain ⟨P8, d8, rfl, hd8, hm8, hR⟩ := wp.RC.of_own hown
        unfold maxLen at hm8
        rw [← K2.out] at hd8 ⊢
        have B8 := B7.trans (hbl.mono B7.size)
        have L8 := (L7.below hbl).add hR
        clear hown hbl hR L7 B7
        go_wp2_with fail
        refine (E3.out w8 ((L0.below B8).get 2 rfl)).mono ?_
        rintro e w9 ⟨v9, rfl, hown, hbl⟩
        obtain ⟨P9, d9, rfl, hd9, hm9, hR⟩ := wp.RC.of_own hown
        unfold maxLen at hm9
        rw [← K3.out] at hd9 ⊢
        have B9 := B8.trans (hbl.mono B8.size)
        have L9 := (L8.below hbl).add hR
        clear hown hbl hR L8 B8
        have L : wp.LiveL w9 [(P9, wp.bc T3), (P8, wp.bc T2), (P7, wp.bc T1), (P6, wp.bc T0), (P5, wp.bc TN)] := L9
        clear EN E0 E1 E2 E3 HF L0 L9
        go_wp2_with fail
        have L1 : wp.LiveL (w9.alloc (.cells #[.slice P5 kN d5, .slice P6 k0 d6, .slice P7 k1 d7, .slice P8 k2 d8, .slice P9 k3 d9] 27)) [(some ⟨w9.heap.size, 0, none⟩, [.slice P5 kN d5, .slice P6 k0 d6, .slice P7 k1 d7, .slice P8 k2 d8, .slice P9 k3 d9]), (P9, wp.bc T3), (P8, wp.bc T2), (P7, wp.bc T1), (P6, wp.bc T0), (P5, wp.bc TN)] :=
          (L.below ((Below.refl _ _).alloc (Nat.le_refl _) _)).add (wi.RC_new rfl _ _ rfl)
        have B1 : Below w.heap.size w (w9.alloc (.cells #[.slice P5 kN d5, .slice P6 k0 d6, .slice P7 k1 d7, .slice P8 k2 d8, .slice P9 k3 d9] 27)) := B9.alloc B9.size _
        clear L B9
        generalize hBK : w9.heap.size = BK at *
        clear hBK
        go_loopg [49] 5 (fun g x wr => ∃ k : Nat, k + g = 5 ∧ x = .int .i64 (k : Int) ∧ wp.LiveL wr [(some ⟨BK, 0, none⟩, [.slice P5 kN d5, .slice P6 k0 d6, .slice P7 k1 d7, .slice P8 k2 d8, .slice P9 k3 d9]), (P9, wp.bc T3), (P8, wp.bc T2), (P7, wp.bc T1), (P6, wp.bc T0), (P5, wp.bc TN)] ∧ Below w.heap.size w wr)
        case atStart => exact ⟨0, rfl, rfl, L1, B1⟩
        case round =>
          obtain ⟨k, hk, rfl, LL, BB⟩ := hrel
          clear L1 B1
          have hk5 : k = 5 ∨ k = 0 ∨ k = 1 ∨ k = 2 ∨ k = 3 ∨ k = 4 := by omega
          rcases hk5 with rfl | rfl | rfl | rfl | rfl | rfl
          · go_wp2_with fail
            refine (wi.sanity_true _).mono ?_
            rintro e w11 ⟨rfl, hbl⟩
            go_wp2_with fail
            go_ret
            exact ⟨rfl, BB.trans (hbl.mono BB.size)⟩
          · obtain ⟨ab, ob, hab, hcb⟩ := wi.RC_at (LL.get 0 rfl) (k := 0) (u := .slice P5 kN d5) rfl
            cases hab
            obtain ⟨kk, hkk⟩ : ∃ kk : Nat, kk = min kN 500 := ⟨_, rfl⟩
            have hmn : min (kN : Int) 500 = (kk : Int) := by omega
            have hkk' : kk ≤ kN := by omega
            clear hkk
            have hg : gk = 5 := by omega
            subst hg
            clear hk
            go_wp2_with fail
            clear hcb
            go_loopg [57] kk (fun g x wx => ∃ i : Nat, i + g = kk ∧ x = .int .i64 (i : Int) ∧ wp.LiveL wx [(some ⟨BK, 0, none⟩, [.slice P5 kN d5, .slice P6 k0 d6, .slice P7 k1 d7, .slice P8 k2 d8, .slice P9 k3 d9]), (P9, wp.bc T3), (P8, wp.bc T2), (P7, wp.bc T1), (P6, wp.bc T0), (P5, wp.bc TN)] ∧ Below w.heap.size w wx)
            case atStart => exact ⟨0, by omega, rfl, LL, BB⟩
            case round =>
              obtain ⟨i, hik, rfl, LX, BX⟩ := hrel
              have HIK := Lib.hid hik
              have hikk : i ≤ kk := by omega
              clear hik
              by_cases hlt : i < kk
              · have hid : i ≤ d5 := by omega
                have hsl : (TN.take i).length = i := by rw [List.length_take]; have := KN.out; omega
                have hS := SN.out i (by have := KN.out; omega)
                have HC := Lib.hid (wi.getInt_any P5 i d5 (TN.take i) wr hid (by omega) hsl (RB_take (LX.get 5 rfl).rb i))
                rw [hS] at HC
                clear hS hsl
                go_wp2_with fail
                refine HC.out.mono ?_
                rintro e wz ⟨rfl, rfl⟩
                go_wp2_with fail
                go_roundg (gk - 1)
                case measure => have := HIK.out; omega
                case rel => exact ⟨i + 1, by have := HIK.out; omega, by go_num, LX, BX⟩
              · go_wp2_with fail
                go_roundg 4
                case measure => omega
                case rel => exact ⟨1, rfl, by go_num, LX, BX⟩
          · obtain ⟨ab, ob, hab, hcb⟩ := wi.RC_at (LL.get 0 rfl) (k := 1) (u := .slice P6 k0 d6) rfl
            cases hab
            obtain ⟨kk, hkk⟩ : ∃ kk : Nat, kk = min k0 500 := ⟨_, rfl⟩
            have hmn : min (k0 : Int) 500 = (kk : Int) := by omega
            have hkk' : kk ≤ k0 := by omega
            clear hkk
            have hg : gk = 4 := by omega
            subst hg
            clear hk
            go_wp2_with fail
            clear hcb
            go_loopg [57] kk (fun g x wx => ∃ i : Nat, i + g = kk ∧ x = .int .i64 (i : Int) ∧ wp.LiveL wx [(some ⟨BK, 0, none⟩, [.slice P5 kN d5, .slice P6 k0 d6, .slice P7 k1 d7, .slice P8 k2 d8, .slice P9 k3 d9]), (P9, wp.bc T3), (P8, wp.bc T2), (P7, wp.bc T1), (P6, wp.bc T0), (P5, wp.bc TN)] ∧ Below w.heap.size w wx)
            case atStart => exact ⟨0, by omega, rfl, LL, BB⟩
            case round =>
              obtain ⟨i, hik, rfl, LX, BX⟩ := hrel
              have HIK := Lib.hid hik
              have hikk : i ≤ kk := by omega
              clear hik
              by_cases hlt : i < kk
              · have hid : i ≤ d6 := by omega
                have hsl : (T0.take i).length = i := by rw [List.length_take]; have := K0.out; omega
                have hS := S0.out i (by have := K0.out; omega)
                have HC := Lib.hid (wi.getBytes_any P6 i d6 (T0.take i) wr hid (by omega) hsl (RB_take (LX.get 4 rfl).rb i))
                rw [hS] at HC
                clear hS hsl
                generalize wp.getB (T0.take i) = r at *
                go_wp2_with fail
                refine HC.out.mono ?_
                rintro e wz ⟨rfl, rfl⟩
                go_wp2_with fail
                go_roundg (gk - 1)
                case measure => have := HIK.out; omega
                case rel => exact ⟨i + 1, by have := HIK.out; omega, by go_num, LX, BX⟩
              · go_wp2_with fail
                go_roundg 3
                case measure => omega
                case rel => exact ⟨2, rfl, by go_num, LX, BX⟩
          · obtain ⟨ab, ob, hab, hcb⟩ := wi.RC_at (LL.get 0 rfl) (k := 2) (u := .slice P7 k1 d7) rfl
            cases hab
            obtain ⟨kk, hkk⟩ : ∃ kk : Nat, kk = min k1 500 := ⟨_, rfl⟩
            have hmn : min (k1 : Int) 500 = (kk : Int) := by omega
            have hkk' : kk ≤ k1 := by omega
            clear hkk
            have hg : gk = 3 := by omega
            subst hg
            clear hk
            go_wp2_with fail
            clear hcb
            go_loopg [57] kk (fun g x wx => ∃ i : Nat, i + g = kk ∧ x = .int .i64 (i : Int) ∧ wp.LiveL wx [(some ⟨BK, 0, none⟩, [.slice P5 kN d5, .slice P6 k0 d6, .slice P7 k1 d7, .slice P8 k2 d8, .slice P9 k3 d9]), (P9, wp.bc T3), (P8, wp.bc T2), (P7, wp.bc T1), (P6, wp.bc T0), (P5, wp.bc TN)] ∧ Below w.heap.size w wx)
            case atStart => exact ⟨0, by omega, rfl, LL, BB⟩
            case round =>
              obtain ⟨i, hik, rfl, LX, BX⟩ := hrel
              have HIK := Lib.hid hik
              have hikk : i ≤ kk := by omega
              clear hik
              by_cases hlt : i < kk
              · have hid : i ≤ d7 := by omega
                have hsl : (T1.take i).length = i := by rw [List.length_take]; have := K1.out; omega
                have hS := S1.out i (by have := K1.out; omega)
                have HC := Lib.hid (wi.getInts_any P7 i d7 (T1.take i) wr hid (by omega) hsl (RB_take (LX.get 3 rfl).rb i) (by omega))
                rw [hS] at HC
                clear hS hsl
                generalize wp.getL wp.getI 1 (T1.take i) = r at *
                go_wp2_with fail
                refine HC.out.mono ?_
                rintro e wz ⟨vz, rfl, _, hbl⟩
                go_wp2_with fail
                go_roundg (gk - 1)
                case measure => have := HIK.out; omega
                case rel => exact ⟨i + 1, by have := HIK.out; omega, by go_num, LX.below hbl, BX.trans (hbl.mono BX.size)⟩
              · go_wp2_with fail
                go_roundg 2
                case measure => omega
                case rel => exact ⟨3, rfl, by go_num, LX, BX⟩
          · obtain ⟨ab, ob, hab, hcb⟩ := wi.RC_at (LL.get 0 rfl) (k := 3) (u := .slice P8 k2 d8) rfl
            cases hab
            obtain ⟨kk, hkk⟩ : ∃ kk : Nat, kk = min k2 500 := ⟨_, rfl⟩
            have hmn : min (k2 : Int) 500 = (kk : Int) := by omega
            have hkk' : kk ≤ k2 := by omega
            clear hkk
            have hg : gk = 2 := by omega
            subst hg
            clear hk
            go_wp2_with fail
            clear hcb
            go_loopg [57] kk (fun g x wx => ∃ i : Nat, i + g = kk ∧ x = .int .i64 (i : Int) ∧ wp.LiveL wx [(some ⟨BK, 0, none⟩, [.slice P5 kN d5, .slice P6 k0 d6, .slice P7 k1 d7, .slice P8 k2 d8, .slice P9 k3 d9]), (P9, wp.bc T3), (P8, wp.bc T2), (P7, wp.bc T1), (P6, wp.bc T0), (P5, wp.bc TN)] ∧ Below w.heap.size w wx)
            case atStart => exact ⟨0, by omega, rfl, LL, BB⟩
            case round =>
              obtain ⟨i, hik, rfl, LX, BX⟩ := hrel
              have HIK := Lib.hid hik
              have hikk : i ≤ kk := by omega
              clear hik
              by_cases hlt : i < kk
              · have hid : i ≤ d8 := by omega
                have hsl : (T2.take i).length = i := by rw [List.length_take]; have := K2.out; omega
                have hS := S2.out i (by have := K2.out; omega)
                have HC := Lib.hid (wi.getStrings_any P8 i d8 (T2.take i) wr hid (by omega) hsl (RB_take (LX.get 2 rfl).rb i) (by omega))
                rw [hS] at HC
                clear hS hsl
                generalize wp.getL wp.getB 1 (T2.take i) = r at *
                go_wp2_with fail
                refine HC.out.mono ?_
                rintro e wz ⟨vz, rfl, _, hbl⟩
                go_wp2_with fail
                go_roundg (gk - 1)
                case measure => have := HIK.out; omega
                case rel => exact ⟨i + 1, by have := HIK.out; omega, by go_num, LX.below hbl, BX.trans (hbl.mono BX.size)⟩
              · go_wp2_with fail
                go_roundg 1
                case measure => omega
                case rel => exact ⟨4, rfl, by go_num, LX, BX⟩
          · obtain ⟨ab, ob, hab, hcb⟩ := wi.RC_at (LL.get 0 rfl) (k := 4) (u := .slice P9 k3 d9) rfl
            cases hab
            obtain ⟨kk, hkk⟩ : ∃ kk : Nat, kk = min k3 500 := ⟨_, rfl⟩
            have hmn : min (k3 : Int) 500 = (kk : Int) := by omega
            have hkk' : kk ≤ k3 := by omega
            clear hkk
            have hg : gk = 1 := by omega
            subst hg
            clear hk
            go_wp2_with fail
            clear hcb
            go_loopg [57] kk (fun g x wx => ∃ i : Nat, i + g = kk ∧ x = .int .i64 (i : Int) ∧ wp.LiveL wx [(some ⟨BK, 0, none⟩, [.slice P5 kN d5, .slice P6 k0 d6, .slice P7 k1 d7, .slice P8 k2 d8, .slice P9 k3 d9]), (P9, wp.bc T3), (P8, wp.bc T2), (P7, wp.bc T1), (P6, wp.bc T0), (P5, wp.bc TN)] ∧ Below w.heap.size w wx)
            case atStart => exact ⟨0, by omega, rfl, LL, BB⟩
            case round =>
              obtain ⟨i, hik, rfl, LX, BX⟩ := hrel
              have HIK := Lib.hid hik
              have hikk : i ≤ kk := by omega
              clear hik
              by_cases hlt : i < kk
              · have hid : i ≤ d9 := by omega
                have hsl : (T3.take i).length = i := by rw [List.length_take]; have := K3.out; omega
                have hS := S3.out i (by have := K3.out; omega)
                have HC := Lib.hid (wi.getDigests_any P9 i d9 (T3.take i) wr hid (by omega) hsl (RB_take (LX.get 1 rfl).rb i) (by omega))
                rw [hS] at HC
                clear hS hsl
                generalize wp.getL wp.getD1 16 (T3.take i) = r at *
                go_wp2_with fail
                refine HC.out.mono ?_
                rintro e wz ⟨vz, rfl, _, hbl⟩
                go_wp2_with fail
                go_roundg (gk - 1)
                case measure => have := HIK.out; omega
                case rel => exact ⟨i + 1, by have := HIK.out; omega, by go_num, LX.below hbl, BX.trans (hbl.mono BX.size)⟩
              · go_wp2_with fail
                go_roundg 0
                case measure => omega
                case rel => exact ⟨5, rfl, by go_num, LX, BX⟩
      · have hff : decide ((wp.total ls : Int) ≤ 2000) = false := by simp; omega
        rw [hff] at HF
        clear hl1 hl2 hl3 hr1 hr2 hr3 hwf hss h16 t2 hf hff htot
        go_enter Try.func3, Try.ntmps3
        go_wp2_with fail
        refine HF.out.mono ?_
        rintro e w5 ⟨rfl, rfl⟩
        go_wp2_with fail
        refine (wi.sanity_true _).mono ?_
        rintro e w5 ⟨rfl, hbl⟩
        go_wp2_with fail
        go_ret
        exact ⟨rfl, hbl⟩
end Go.Proofs.Ytgkhgbjfpmhbgab.wireTruncated
