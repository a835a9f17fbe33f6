/- Joined: Hi Hj Hk Hl Hm Hn Val9. -/
import Derived.Test.YtckipafciomklaaG9

import Derived.Shelf.SlSortCmp.WholeK

import Derived.Lib.SliceRun

import Derived.Laws.AppendOwnNone
/- Sorting the hits: the library's contract at this seat. -/
namespace Go.Proofs.Ytckipafciomklaa.bk

open Go.ChangeShapes Go.WideShapes Go.ChangeAt Go.RowKit

open Go.Proofs.Ytckipafciomklaa.bq Go.Proofs.Ytckipafciomklaa.vk Go.Proofs.Ytckipafciomklaa.wk

set_option linter.unusedVariables false
def renS : Go.Shelf.Ren := ⟨fun x => match x with | 6 => 60 | 15 => 78 | 14 => 77 | 28 => 91 | 29 => 92 | 20 => 83 | 21 => 84 | 22 => 85 | 23 => 86 | 24 => 87 | 25 => 88 | 26 => 89 | 27 => 90 | 46 => 93 | 47 => 94 | 48 => 95 | 49 => 96 | 50 => 97 | 57 => 98 | n => n, fun x => match x with | 22 => 22 | 24 => 27 | 25 => 53 | 3 => 3 | 39 => 93 | 0 => 0 | 53 => 106 | 55 => 94 | 4 => 4 | 46 => 99 | 45 => 98 | 50 => 103 | 5 => 5 | 9 => 9 | 66 => 107 | 70 => 111 | 76 => 113 | 77 => 114 | n => n, fun n => n⟩
theorem sortL : SlLaysF0.n6 Try.prog renS where
  mixed := by kernel_rfl
  f6 := ⟨(Try.f60).name, by kernel_rfl, Try.func60.trans (congrArg some (by kernel_rfl))⟩
  f14 := ⟨(Try.f77).name, by kernel_rfl, Try.func77.trans (congrArg some (by kernel_rfl))⟩
  f15 := Try.func78.trans (congrArg some (by kernel_rfl))
  f20 := ⟨(Try.f83).name, by kernel_rfl, Try.func83.trans (congrArg some (by kernel_rfl))⟩
  f21 := ⟨(Try.f84).name, by kernel_rfl, Try.func84.trans (congrArg some (by kernel_rfl))⟩
  f22 := ⟨(Try.f85).name, by kernel_rfl, Try.func85.trans (congrArg some (by kernel_rfl))⟩
  f23 := ⟨(Try.f86).name, by kernel_rfl, Try.func86.trans (congrArg some (by kernel_rfl))⟩
  f24 := ⟨(Try.f87).name, by kernel_rfl, Try.func87.trans (congrArg some (by kernel_rfl))⟩
  f25 := ⟨(Try.f88).name, by kernel_rfl, Try.func88.trans (congrArg some (by kernel_rfl))⟩
  f26 := ⟨(Try.f89).name, by kernel_rfl, Try.func89.trans (congrArg some (by kernel_rfl))⟩
  f27 := ⟨(Try.f90).name, by kernel_rfl, Try.func90.trans (congrArg some (by kernel_rfl))⟩
  f28 := Try.func91.trans (congrArg some (by kernel_rfl))
  f29 := Try.func92.trans (congrArg some (by kernel_rfl))
  f46 := ⟨(Try.f93).name, by kernel_rfl, Try.func93.trans (congrArg some (by kernel_rfl))⟩
  f47 := Try.func94.trans (congrArg some (by kernel_rfl))
  f48 := Try.func95.trans (congrArg some (by kernel_rfl))
  f49 := ⟨(Try.f96).name, by kernel_rfl, Try.func96.trans (congrArg some (by kernel_rfl))⟩
  f50 := ⟨(Try.f97).name, by kernel_rfl, Try.func97.trans (congrArg some (by kernel_rfl))⟩
  f57 := ⟨(Try.f98).name, by kernel_rfl, Try.func98.trans (congrArg some (by kernel_rfl))⟩
  t0 := Try.underlying0
  a0 := Try.isAgg0
  z0 := Try.sizeOf0
  v0 := Try.zeroValue0
  t3 := Try.underlying3
  a3 := Try.isAgg3
  z3 := Try.sizeOf3
  v3 := Try.zeroValue3
  t4 := Try.underlying4
  a4 := Try.isAgg4
  z4 := Try.sizeOf4
  v4 := Try.zeroValue4
  t5 := Try.underlying5
  a5 := Try.isAgg5
  z5 := Try.sizeOf5
  v5 := Try.zeroValue5
  t9 := Try.underlying9
  a9 := Try.isAgg9
  z9 := Try.sizeOf9
  v9 := Try.zeroValue9
  t22 := Try.underlying22
  a22 := Try.isAgg22
  z22 := Try.sizeOf22
  v22 := Try.zeroValue22
  t25 := Try.underlying53
  a25 := Try.isAgg53
  z25 := Try.sizeOf53
  v25 := Try.zeroValue53
  t39 := Try.underlying93
  a39 := Try.isAgg93
  z39 := Try.sizeOf93
  v39 := Try.zeroValue93
  t45 := Try.underlying98
  a45 := Try.isAgg98
  z45 := Try.sizeOf98
  v45 := Try.zeroValue98
  t46 := Try.underlying99
  a46 := Try.isAgg99
  z46 := Try.sizeOf99
  v46 := Try.zeroValue99
  t50 := Try.underlying103
  a50 := Try.isAgg103
  z50 := Try.sizeOf103
  v50 := Try.zeroValue103
  t53 := Try.underlying106
  a53 := Try.isAgg106
  z53 := Try.sizeOf106
  v53 := Try.zeroValue106
  t55 := Try.underlying94
  a55 := Try.isAgg94
  z55 := Try.sizeOf94
  v55 := Try.zeroValue94
  t66 := Try.underlying107
  a66 := Try.isAgg107
  z66 := Try.sizeOf107
  v66 := Try.zeroValue107
  t70 := Try.underlying111
  a70 := Try.isAgg111
  z70 := Try.sizeOf111
  v70 := Try.zeroValue111
  t76 := Try.underlying113
  a76 := Try.isAgg113
  z76 := Try.sizeOf113
  v76 := Try.zeroValue113
  t77 := Try.underlying114
  a77 := Try.isAgg114
  z77 := Try.sizeOf114
  v77 := Try.zeroValue114
open Go.Lib in
theorem swo : Go.Sort.SWO (ltOf cmpH) where
  irrefl x := lt_irrefl x
  trans x y z h1 h2 := lt_trans h1 h2
  ntrans x y z h1 h2 := by
    cases h : ltOf cmpH x z with
    | false => rfl
    | true =>
      have h1 : lt x y = false := h1
      have h2 : lt y z = false := h2
      have h3 : lt x z = true := h
      cases h4 : lt y x with
      | true =>
        rw [lt_trans h4 h3] at h2; cases h2
      | false =>
        rw [lt_tri h1 h4, h2] at h3; cases h3
end Go.Proofs.Ytckipafciomklaa.bk
/- Of. -/
namespace Go.Proofs.Ytckipafciomklaa.bk

open Go.ChangeShapes Go.WideShapes Go.ChangeAt Go.RowKit

open Go.Proofs.Ytckipafciomklaa.bq Go.Proofs.Ytckipafciomklaa.vk Go.Proofs.Ytckipafciomklaa.wk

set_option linter.unusedVariables false

open Go.Sort (HoldsK PermIn SortedIn)
theorem flat_at {l : List H} {j : Nat} {u : Value} (h : (fl l)[j]? = some u) : j < l.length * 3 ∧ (Go.Sort.flatK rv 3 l.toArray)[j]! = u := by
  have hj : j < l.length * 3 := by rw [← fl_length]; exact (List.getElem?_eq_some_iff.1 h).1
  refine ⟨hj, ?_⟩
  rw [Go.Sort.get_flatK rv 3 l.toArray j (by simpa using hj)]
  have hk : l[j / 3]? = some (l[j / 3]'(by omega)) := List.getElem?_eq_getElem _
  have f := fl_at hk
  have e : l.toArray[j / 3]! = l[j / 3]'(by omega) := by
    rw [getElem!_pos l.toArray (j / 3) (by simpa using (by omega : j / 3 < l.length))]; simp
  rw [e]
  have h3 : j % 3 = 0 ∨ j % 3 = 1 ∨ j % 3 = 2 := by omega
  rcases h3 with h2 | h2 | h2
  · have e : j / 3 * 3 = j := by omega
    rw [e, h] at f
    rw [h2]; exact (Option.some.inj f.1).symm
  · have e : j / 3 * 3 + 1 = j := by omega
    rw [e, h] at f
    rw [h2]; exact (Option.some.inj f.2.1).symm
  · have e : j / 3 * 3 + 2 = j := by omega
    rw [e, h] at f
    rw [h2]; exact (Option.some.inj f.2.2).symm
theorem fl_get {l : List H} {j : Nat} (hj : j < l.length * 3) : (fl l)[j]? = some ((Go.Sort.flatK rv 3 l.toArray)[j]!) := by
  have h : (fl l)[j]? = some ((fl l)[j]'(by rw [fl_length]; exact hj)) := List.getElem?_eq_getElem _
  rw [(flat_at h).2]; exact h
theorem below_sorted {n : Nat} {w : World} {blk m : Nat} {d : Array H} {os : Array Obj} (h : n ≤ blk) (hn : n ≤ w.heap.size) : Below n w (sortWorldK rv 3 w blk 0 m d os) := by
  refine ⟨rfl, rfl, rfl, ?_, fun k hk => ?_⟩
  · simp [sortWorldK, Go.Sort.grow, Go.Sort.putRowK, Go.Sort.putRow, Go.Sort.mapBlock, Go.Sort.ahead]
  · unfold sortWorldK
    rw [Go.Sort.heap_grow_old _ _ (by simp [Go.Sort.putRowK, Go.Sort.putRow, Go.Sort.mapBlock, Go.Sort.ahead]; omega)]
    simp only [Go.Sort.putRowK, Go.Sort.putRow, Go.Sort.mapBlock, Go.Sort.ahead, Array.getElem?_modify]
    rw [if_neg (by omega)]
theorem sorted_eq {L ys : List H} (h : VS L ys) {d : Array H} (hp : PermIn 0 ys.toArray.size ys.toArray d) (hs : SortedIn (Go.Proofs.ltOf cmpH) 0 ys.toArray.size d) : d.toList = bst L := by
  obtain ⟨h1, -, h2⟩ := hp
  have e1 : (d.extract 0 ys.toArray.size).toList = d.toList := by rw [← h1]; simp
  have e2 : (ys.toArray.extract 0 ys.toArray.size).toList = ys := by simp
  rw [e1, e2] at h2
  have hny : ys.Nodup := by
    rw [List.nodup_iff_pairwise_ne]
    have := h.1
    rw [List.nodup_iff_pairwise_ne, List.pairwise_map] at this
    exact this.imp fun hne e => hne (by rw [e])
  have hnd : d.toList.Nodup := h2.symm.nodup hny
  refine asc_ext ?_ (asc_bst L) fun x => by rw [← h.2 x]; exact h2.mem_iff
  unfold Asc
  rw [List.pairwise_iff_getElem]
  intro i j hi hj hij
  simp only [Array.length_toList] at hi hj
  have h3 := hs i j (Nat.zero_le _) hij (by omega)
  rw [getElem!_pos d j hj, getElem!_pos d i hi] at h3
  have h3 : lt d[j] d[i] = false := h3
  cases h4 : lt d.toList[i] d.toList[j] with
  | true => rfl
  | false =>
    have h5 : d[i] = d[j] := lt_tri (by simpa using h4) h3
    rw [List.nodup_iff_pairwise_ne, List.pairwise_iff_getElem] at hnd
    exact absurd (show d.toList[i] = d.toList[j] from h5) (hnd i j (by simpa using hi) (by simpa using hj) hij)
theorem nil_sorted {L : List H} (h : VS L []) : bst L = [] := by
  cases e : bst L with
  | nil => rfl
  | cons x l => have := (h.2 x).2 (by rw [e]; simp); simp at this
theorem cmpLays (blk size : Nat) (w : World) : Go.Proofs.CmpLays Try.prog 56 #[] rv 3 cmpH blk 0 size w := fun m os dk _ x y => cmpH_calls x y _
set_option maxRecDepth 100000 in
set_option maxHeartbeats 4000000 in
theorem insNone_calls (p : Option Addr) (cap : Nat) (fv : Value) (w : World) : Calls Try.prog 83 #[.slice p 0 cap, .int .i64 0, .int .i64 0, fv] w fun e w' => e = .returned (.tuple #[]) ∧ w' = w := by
  go_enter Try.func83, Try.ntmps83
  go_wp2_with fail
  refine wp_loop_rounds 1 ?_
  rw [rounds_succ]
  go_wp2_with fail
  go_end0
  exact ⟨rfl, rfl⟩
set_option maxRecDepth 100000 in
set_option maxHeartbeats 4000000 in
theorem pdqNone_calls (p : Option Addr) (cap : Nat) (lim : Int) (fv : Value) (w : World) : Calls Try.prog 77 #[.slice p 0 cap, .int .i64 0, .int .i64 0, .int .i64 lim, fv] w fun e w' => e = .returned (.tuple #[]) ∧ w' = w := by
  have HI := Lib.hid (fun w' => insNone_calls p cap fv w')
  go_enter Try.func77, Try.ntmps77
  go_wp2_with fail
  refine wp_loop_rounds 1 ?_
  rw [rounds_succ]
  go_wp2_with fail
  refine (HI.out _).mono ?_
  rintro e w' ⟨rfl, rfl⟩
  go_wp2_with fail
  refine bodyPost_ret (results_none rfl _ _ _) rfl ?_
  exact ⟨rfl, rfl⟩
set_option maxRecDepth 100000 in
set_option maxHeartbeats 4000000 in
theorem sortNone_calls (p : Option Addr) (cap : Nat) (fv : Value) (w : World) : Calls Try.prog 60 #[.slice p 0 cap, fv] w fun e w' => e = .returned (.tuple #[]) ∧ w' = w := by
  have HP := Lib.hid (fun lim w' => pdqNone_calls p cap lim fv w')
  have HL : Hid (∀ w', Calls Try.prog 78 #[.int .u64 0] w' fun e w2 => e = .returned (.int .i64 (Lib.bitLen 0 : Nat)) ∧ w2 = w') := fun w' => Any.bits_Len (SlLaysF0.n15.bits (P := Try.prog) (ρ := renS) { sortL with }) 0 w' (by omega) (by omega)
  go_enter Try.func60, Try.ntmps60
  go_wp2_with fail
  refine (HL.out _).mono ?_
  rintro e w' ⟨rfl, rfl⟩
  go_wp2_with fail
  refine (HP.out _ _).mono ?_
  rintro e w' ⟨rfl, rfl⟩
  go_wp2_with fail
  go_end0
  exact ⟨rfl, rfl⟩
set_option maxRecDepth 100000 in
set_option maxHeartbeats 4000000 in
theorem sort_calls {L ys : List H} {v : Value} {B : Nat} (w : World) (hys : VS L ys) (hown : w.ownsRow B 27 3 v ys.length (fl ys)) (hB : B ≤ w.heap.size) (hL : ∀ h ∈ L, Wd h) (hn : ys.length ≤ 1000000) :
    ∃ A n c, v = .slice A n c ∧ Calls Try.prog 60 #[v, .func (.func 56) #[] #[]] w fun e w' => e = .returned (.tuple #[]) ∧ IsH w' A n c (bst L) ∧ Below B w w' := by
  have hwd : ∀ h ∈ bst L, Wd h := fun h hh => hL h (mem_bst.1 hh).1
  by_cases h0 : ys = []
  · subst h0
    have hb := nil_sorted hys
    rcases hown.2 with ⟨hv, _⟩ | ⟨g, cap, cur, hv, hg, hh, h3, h4, h5, h6⟩
    · refine ⟨none, 0, 0, hv, ?_⟩
      rw [hv, hb]
      exact (sortNone_calls none 0 _ w).mono fun e w' ⟨he, hw⟩ => ⟨he, by rw [hw]; exact isH_nil w, by rw [hw]; exact Below.refl _ _⟩
    · refine ⟨some ⟨g, 0, none⟩, 0, cap, hv, ?_⟩
      rw [hv, hb]
      exact (sortNone_calls _ cap _ w).mono fun e w' ⟨he, hw⟩ => ⟨he, by rw [hw]; exact ⟨rfl, by omega, by unfold maxLen at h4; omega, fun h => absurd h (by simp [fl]), by simp, fun h => by cases h⟩, by rw [hw]; exact Below.refl _ _⟩
  · have hlen : 0 < ys.length := List.length_pos_iff.2 h0
    rcases hown.2 with ⟨hv, hz⟩ | ⟨g, cap, cur, hv, hg, hh, h3, h4, h5, h6⟩
    · omega
    · refine ⟨some ⟨g, 0, none⟩, ys.length, cap, hv, ?_⟩
      rw [hv]
      have hgl : g < w.heap.size := (Array.getElem?_eq_some_iff.1 hh).1
      have hH : HoldsK rv 3 w g 0 ys.toArray := fun j hj => by
        simp only [Go.Sort.size_flatK, List.size_toArray] at hj
        refine ⟨?_, frozen_of_row _ _ _ _ _ hh⟩
        have := hown.cells (g := g) (by rw [hv]; rfl) j _ (fl_get hj)
        rw [wk.add_at] at this
        simpa using this
      have hc := AnyQ.slices_SortFunc (α := H) sortL 3 (fun w => Try.isAgg27 w) (fun w => Try.sizeOf27 w) rv (fun _ => rfl) (fun x u hu => ones3 u hu) cmpH swo 56 #[] g 0 cap ys.toArray w
        (fun args w' => by kernel_rfl) (cmpLays g _ w) hH hgl (by simp; omega)
      refine Calls.mono hc ?_
      rintro e w' ⟨he, d, m, os, hp, hs, rfl⟩
      have hd := sorted_eq hys hp hs
      have hsz : d.size = ys.toArray.size := hp.1
      refine ⟨he, ⟨by rw [← hd]; simp [hsz], h3, by unfold maxLen at h4; omega, fun _ => ⟨g, 0, rfl, by simp [sortWorldK, Go.Sort.grow, Go.Sort.putRowK, Go.Sort.putRow, Go.Sort.mapBlock, Go.Sort.ahead]; omega, fun j u hu => ?_⟩, hwd, fun h => by cases h⟩, below_sorted hg hB⟩
      rw [← hd] at hu
      obtain ⟨hj, hf⟩ := flat_at hu
      have h7 := Go.Sort.holdsK_grow (enc := rv) (k := 3) (Go.Sort.putRowK rv 3 (Go.Sort.ahead w m) g 0 d) os g 0 d (by simp [Go.Sort.putRowK, Go.Sort.putRow, Go.Sort.mapBlock, Go.Sort.ahead]; omega) (Go.Sort.holdsK_putRowK (enc := rv) (k := 3) (Go.Sort.ahead w m) g 0 ys.toArray d hH hsz) j (by simpa using hj)
      rw [Array.toArray_toList] at hf
      rw [hf] at h7
      exact h7.1
set_option maxRecDepth 100000 in
set_option maxHeartbeats 4000000 in
theorem values_calls (b : Nat) (w : World) : Calls Try.prog 44 #[.map (some b)] w fun e w' => e = .returned (.func (.func 61) #[] #[.pointer (some ⟨w.heap.size, 0, none⟩)]) ∧ w' = w.alloc (.cells #[.map (some b)] 61) := by
  go_enter Try.func44, Try.ntmps44
  go_wp2_with fail
  go_ret
  exact ⟨rfl, rfl⟩
set_option maxRecDepth 100000 in
set_option maxHeartbeats 4000000 in
theorem collect_calls {L : List H} {Bm b nn : Nat} (w : World) (hBm : w.heap[Bm]? = some (.cells #[.map (some b)] 61 (0, 0))) (hmap : MapH w b nn L) (hn : nn ≤ 1000000) :
    Calls Try.prog 59 #[.func (.func 61) #[] #[.pointer (some ⟨Bm, 0, none⟩)]] w fun e w' => ∃ A n c ys, e = .returned (.slice A n c) ∧ VS L ys ∧ w'.ownsRow w.heap.size 27 3 (.slice A n c) ys.length (fl ys) ∧ Below w.heap.size w w' := by
  have HC := Lib.hid (appendSeq_calls w hBm hmap hn)
  clear hBm hmap
  go_enter Try.func59, Try.ntmps59
  go_wp2_with fail
  refine HC.out.mono ?_
  rintro e w' ⟨v, ys, rfl, h1, h2, h3⟩
  obtain ⟨A, n, c, rfl⟩ : ∃ A n c, v = .slice A n c := by
    rcases h2.2 with ⟨h, _⟩ | ⟨g', cap', cur', h, _⟩
    · exact ⟨_, _, _, h⟩
    · exact ⟨_, _, _, h⟩
  have HF := Lib.hid (And.intro h1 (And.intro h2 h3))
  clear h1 h2 h3
  go_wp2_with fail
  go_ret
  exact ⟨A, n, c, ys, rfl, HF.out⟩
theorem vs_len {L ys : List H} (h : VS L ys) : ys.length ≤ L.length := by
  have h1 := pigeon (a := ys.map fun x : H => x.1) (b := (bst L).map fun x : H => x.1) h.1 fun i hi => by
    obtain ⟨x, hx, rfl⟩ := List.mem_map.1 hi
    exact List.mem_map.2 ⟨x, (h.2 x).1 hx, rfl⟩
  rw [List.length_map, List.length_map] at h1
  exact Nat.le_trans h1 (bst_le L)
set_option maxRecDepth 100000 in
set_option maxHeartbeats 4000000 in
theorem sortedFunc_calls {L : List H} {Bm b nn : Nat} (w : World) (hBm : w.heap[Bm]? = some (.cells #[.map (some b)] 61 (0, 0))) (hmap : MapH w b nn L) (hn : nn ≤ 1000000) (hL : ∀ h ∈ L, Wd h) (hLn : L.length ≤ 1000000) :
    Calls Try.prog 43 #[.func (.func 61) #[] #[.pointer (some ⟨Bm, 0, none⟩)], .func (.func 56) #[] #[]] w fun e w' => ∃ A n c, e = .returned (.slice A n c) ∧ IsH w' A n c (bst L) ∧ Below w.heap.size w w' := by
  have HC := Lib.hid (collect_calls w hBm hmap hn)
  clear hBm hmap
  go_enter Try.func43, Try.ntmps43
  go_wp2_with fail
  refine HC.out.mono ?_
  rintro e w1 ⟨A, n, c, ys, rfl, h1, h2, h3⟩
  obtain ⟨A', n', c', hv, hs⟩ := sort_calls w1 h1 h2 h3.size hL (Nat.le_trans (vs_len h1) hLn)
  injection hv with e1 e2 e3
  subst e1 e2 e3
  have HS := Lib.hid hs
  have HB := Lib.hid h3
  clear h1 h2 h3 hs
  go_wp2_with fail
  refine HS.out.mono ?_
  rintro e w2 ⟨rfl, h4, h5⟩
  have HF := Lib.hid (And.intro h4 (HB.out.trans h5))
  clear h4 h5
  go_wp2_with fail
  go_ret
  exact ⟨A, n, c, rfl, HF.out⟩
end Go.Proofs.Ytckipafciomklaa.bk
/- Of, Valid, Worst. -/
namespace Go.Proofs.Ytckipafciomklaa.bk

open Go.ChangeShapes Go.WideShapes Go.ChangeAt Go.RowKit

open Go.Proofs.Ytckipafciomklaa.bq Go.Proofs.Ytckipafciomklaa.vk Go.Proofs.Ytckipafciomklaa.wk

set_option linter.unusedVariables false
theorem infoH1 : (Try.prog.info? 27).map (·.size) = some 3 := by kernel_rfl
theorem run_preH (w' : World) (A : Option Addr) (n c k : Nat) (hk : k ≤ n) (hc : n ≤ c) : (Instr.slice 22 (.slice A n c) none (some (.int .i64 (k : Int))) none).run Try.prog w' = .ok (.slice A k c) w' := by
  have ht : Try.prog.underlying 22 = some (.slice (Try.prog.elem 22)) := by simp [Program.elem, Try.underlying22]
  have he : Try.prog.elem 22 = 27 := by simp [Program.elem, Try.underlying22]
  rw [run_slice_h w' 22 A n c ht .i64 (k : Int) (by omega) (by omega), he, wk.run_sizeOf w' 27 3 infoH1]
  cases A with
  | none =>
    simp [Result.andThen, sliced]
  | some ad =>
    obtain ⟨b, o, s⟩ := ad
    simp [Result.andThen, sliced, Addr.add]
set_option maxRecDepth 100000 in
set_option maxHeartbeats 4000000 in
theorem first_calls {l : List H} {n c : Nat} {A : Option Addr} (k : Int) (w : World) (h : IsH w A n c l) :
    Calls Try.prog 42 #[.slice A n c, .int .i64 k] w fun e w' => ∃ A' n' c', e = .returned (.slice A' n' c') ∧ IsH w' A' n' c' (l.take k.toNat) ∧ w' = w := by
  have hm := h.2.2.1
  have hnc := h.2.1
  have hl := h.1
  obtain ⟨m, hmm⟩ : ∃ m : Nat, m = min n k.toNat := ⟨_, rfl⟩
  have H2 : Hid (IsH w A m c (l.take k.toNat)) := by
    have : l.take k.toNat = l.take m := by
      rw [hmm, ← hl, List.take_eq_take_iff]; omega
    show IsH _ _ _ _ _
    rw [this]
    exact isH_take h (by omega)
  have h2 : min (n : Int) (max k 0) = (m : Int) := by omega
  have hrun := fun w' => run_preH w' A n c m (by omega) hnc
  clear h hl hmm
  go_enter Try.func42, Try.ntmps42
  go_wp2_with fail
  go_ret
  exact ⟨A, m, c, rfl, H2.out, rfl⟩
set_option maxRecDepth 100000 in
set_option maxHeartbeats 4000000 in
theorem of_calls {l : List H} {n c : Nat} {A : Option Addr} (k : Int) (w : World) (h : IsH w A n c l) (hn : n ≤ 1000000) :
    Calls Try.prog 18 #[.slice A n c, .int .i64 k] w fun e w' => ∃ A' n' c', e = .returned (.slice A' n' c') ∧ IsH w' A' n' c' (ofL l k.toNat) ∧ Below w.heap.size w w' := by
  have H := Lib.hid h
  clear h
  go_enter Try.func18, Try.ntmps18
  go_wp2_with fail
  refine (nearer_calls _).mono ?_
  rintro e w1 ⟨rfl, hb1⟩
  have HOX := Lib.hid (OrdX.new w1)
  have HB2 := Lib.hid (hb1.trans ((below_new w1 (.cells #[.func (.func 56) #[] #[]] 55)).mono hb1.size))
  clear hb1
  go_wp2_with fail
  refine wk.region_tailS 10 [.is (.agg #[.func (.func 56) #[] #[]]), .is (.slice A n c), .st (fun u x => ∃ b, x = .map (some b) ∧ MapH u b n l) (fun u u2 x h hb => by obtain ⟨b, h1, h2⟩ := h; exact ⟨b, h1, h2.below hb⟩), .st (fun u x => ∃ b g, x = .func (.func 61) #[] #[.pointer (some ⟨g, 0, none⟩)] ∧ u.heap[g]? = some (.cells #[.map (some b)] 61 (0, 0)) ∧ MapH u b n l) (fun u u2 x h hb => by obtain ⟨b, g, h1, h2, h3⟩ := h; exact ⟨b, g, h1, (hb.block g (Array.getElem?_eq_some_iff.1 h2).1).trans h2, h3.below hb⟩), .is (.pointer (some ⟨w1.heap.size, 0, none⟩)), .is (.func (.func 56) #[] #[]), .st (fun u x => ∃ A n c, x = .slice A n c ∧ IsH u A n c (bst l)) (fun u u2 x h hb => by obtain ⟨A, n, c, h1, h2⟩ := h; exact ⟨A, n, c, h1, h2.below hb⟩), .is (.int .i64 k), .st (fun u x => ∃ A n c, x = .slice A n c ∧ IsH u A n c (ofL l k.toNat)) (fun u u2 x h hb => by obtain ⟨A, n, c, h1, h2⟩ := h; exact ⟨A, n, c, h1, h2.below hb⟩), .st (fun u x => ∃ A n c, x = .slice A n c ∧ IsH u A n c (ofL l k.toNat)) (fun u u2 x h hb => by obtain ⟨A, n, c, h1, h2⟩ := h; exact ⟨A, n, c, h1, h2.below hb⟩)] [some 7, some 8, some 9, some 10, some 11, some 12, some 13, some 14, some 15, some 4] (by kernel_rfl) (by kernel_rfl) (by kernel_rfl) (by kernel_rfl) [] (by kernel_rfl) (by intro p hp; cases hp) (by kernel_rfl) (by kernel_rfl) ?hstep ?hdone
  case hstep =>
    intro i o ho hi hns E w4 hb4 D
    have hi2 : i = 0 ∨ i = 1 ∨ i = 2 ∨ i = 3 ∨ i = 4 ∨ i = 5 ∨ i = 6 ∨ i = 7 ∨ i = 8 ∨ i = 9 := by omega
    clear hi
    rcases hi2 with rfl | rfl | rfl | rfl | rfl | rfl | rfl | rfl | rfl | rfl
    ·
      have ho2 := (Array.getElem?_eq_some_iff.1 ho).2
      simp only [List.getElem_toArray, List.getElem_cons_zero] at ho2
      subst ho2
      clear ho
      have e5 := D.old 5 (by kernel_rfl)
      exact wk.does_load_agg rfl (show E (.tmp 5) = .pointer (some ⟨w1.heap.size, 0, none⟩) by rw [e5]; rfl) (cs := [.func (.func 56) #[] #[]]) ((HOX.out.below ((Below.refl _ _).drew.trans hb4)).cells) Try.underlying55 rfl (by kernel_rfl) rfl
    ·
      have ho2 := (Array.getElem?_eq_some_iff.1 ho).2
      simp only [List.getElem_toArray, List.getElem_cons_succ, List.getElem_cons_zero] at ho2
      subst ho2
      clear ho
      have e0 := D.old 0 (by kernel_rfl)
      exact wk.does_move rfl (by rw [e0]; rfl)
    ·
      have ho2 := (Array.getElem?_eq_some_iff.1 ho).2
      simp only [List.getElem_toArray, List.getElem_cons_succ, List.getElem_cons_zero] at ho2
      subst ho2
      clear ho
      have e7 := D.is { on := 0, ground := .data } (by simp) rfl rfl 7 rfl
      have e8 := D.is { on := 1, ground := .data } (by simp) rfl rfl 8 rfl
      refine wk.does_fn (f := 45) (vs := #[.agg #[.func (.func 56) #[] #[]], .slice A n c]) rfl (D.fn _) (by simp [e7, e8]) (by go_simp) ?_
      refine (least_calls w4 (isH_below (isH_below H.out HB2.out) ((Below.refl _ _).drew.trans hb4)) hn).mono ?_
      rintro e w7 ⟨b, rfl, _, hm7, hb7⟩
      exact ⟨_, rfl, hb7, b, rfl, hm7⟩
    ·
      have ho2 := (Array.getElem?_eq_some_iff.1 ho).2
      simp only [List.getElem_toArray, List.getElem_cons_succ, List.getElem_cons_zero] at ho2
      subst ho2
      clear ho
      have s9 := D.st { on := 2, ground := .data } (by simp) rfl rfl 9 rfl
      obtain ⟨b, hx9, hm9⟩ := s9
      refine wk.does_fn (f := 44) (vs := #[.map (some b)]) rfl (D.fn _) (by simp [hx9]) (by go_simp) ?_
      refine (values_calls b w4).mono ?_
      rintro e w7 ⟨rfl, rfl⟩
      exact ⟨_, rfl, below_new _ _, b, w4.heap.size, rfl, heap_alloc_new w4 _, hm9.below (below_new _ _)⟩
    ·
      have ho2 := (Array.getElem?_eq_some_iff.1 ho).2
      simp only [List.getElem_toArray, List.getElem_cons_succ, List.getElem_cons_zero] at ho2
      subst ho2
      clear ho
      have e5 := D.old 5 (by kernel_rfl)
      exact wk.does_run (by simp only [execOp]; rw [show E (.tmp 5) = .pointer (some ⟨w1.heap.size, 0, none⟩) by rw [e5]; rfl]; go_simp) rfl
    ·
      have ho2 := (Array.getElem?_eq_some_iff.1 ho).2
      simp only [List.getElem_toArray, List.getElem_cons_succ, List.getElem_cons_zero] at ho2
      subst ho2
      clear ho
      have e11 := D.is { on := 4, ground := .data } (by simp) rfl rfl 11 rfl
      exact wk.does_load1 rfl e11 ((HOX.out.below ((Below.refl _ _).drew.trans hb4)).c0) Try.underlying53 rfl rfl
    ·
      have ho2 := (Array.getElem?_eq_some_iff.1 ho).2
      simp only [List.getElem_toArray, List.getElem_cons_succ, List.getElem_cons_zero] at ho2
      subst ho2
      clear ho
      have s10 := D.st { on := 3, ground := .data } (by simp) rfl rfl 10 rfl
      have e12 := D.is { on := 5, ground := .data } (by simp) rfl rfl 12 rfl
      obtain ⟨b, g, hx10, hg10, hm10⟩ := s10
      refine wk.does_fn (f := 43) (vs := #[.func (.func 61) #[] #[.pointer (some ⟨g, 0, none⟩)], .func (.func 56) #[] #[]]) rfl (D.fn _) (by simp [hx10, e12]) (by go_simp) ?_
      refine (sortedFunc_calls w4 hg10 hm10 hn H.out.2.2.2.2.1 (by rw [H.out.1]; exact hn)).mono ?_
      rintro e w7 ⟨A, n, c, rfl, h7, hb7⟩
      exact ⟨_, rfl, hb7, A, n, c, rfl, h7⟩
    ·
      have ho2 := (Array.getElem?_eq_some_iff.1 ho).2
      simp only [List.getElem_toArray, List.getElem_cons_succ, List.getElem_cons_zero] at ho2
      subst ho2
      clear ho
      have e1 := D.old 1 (by kernel_rfl)
      exact wk.does_move rfl (by rw [e1]; rfl)
    ·
      have ho2 := (Array.getElem?_eq_some_iff.1 ho).2
      simp only [List.getElem_toArray, List.getElem_cons_succ, List.getElem_cons_zero] at ho2
      subst ho2
      clear ho
      have s13 := D.st { on := 6, ground := .data } (by simp) rfl rfl 13 rfl
      have e14 := D.is { on := 7, ground := .data } (by simp) rfl rfl 14 rfl
      obtain ⟨A3, n3, c3, hx13, h13⟩ := s13
      refine wk.does_fn (f := 42) (vs := #[.slice A3 n3 c3, .int .i64 k]) rfl (D.fn _) (by simp [hx13, e14]) (by go_simp) ?_
      refine (first_calls k w4 h13).mono ?_
      rintro e w7 ⟨A7, n7, c7, rfl, h7, rfl⟩
      exact ⟨_, rfl, Below.refl _ _, A7, n7, c7, rfl, h7⟩
    ·
      have ho2 := (Array.getElem?_eq_some_iff.1 ho).2
      simp only [List.getElem_toArray, List.getElem_cons_succ, List.getElem_cons_zero] at ho2
      subst ho2
      clear ho
      have s15 := D.st { on := 8, ground := .data } (by simp) rfl rfl 15 rfl
      exact wk.does_assign rfl s15
  case hdone =>
    intro vals w4 hb4 hv
    have h9 := hv 9 (by omega)
    clear hv
    simp only [List.drop_succ_cons, List.drop_zero, wpList, wk.setL, List.setIfInBounds_toArray, List.set_cons_zero, List.set_cons_succ, Nat.zero_add, Nat.reduceAdd]
    generalize vals 0 = x0
    generalize vals 1 = x1
    generalize vals 2 = x2
    generalize vals 3 = x3
    generalize vals 4 = x4
    generalize vals 5 = x5
    generalize vals 6 = x6
    generalize vals 7 = x7
    generalize vals 8 = x8
    generalize vals 9 = x9 at *
    have hbB := (Below.refl _ _).drew.trans hb4
    obtain ⟨A9, n9, c9, rfl, h9⟩ := h9
    have HF := Lib.hid (And.intro h9 (HB2.out.trans (hbB.mono HB2.out.size)))
    clear hb4 hbB h9
    go_wp2_with fail
    go_ret
    exact ⟨A9, n9, c9, rfl, HF.out⟩
end Go.Proofs.Ytckipafciomklaa.bk
/- Appending hits; Clone; DeleteFunc. -/
namespace Go.Proofs.Ytckipafciomklaa.bk

open Go.ChangeShapes Go.WideShapes Go.ChangeAt Go.RowKit

open Go.Proofs.Ytckipafciomklaa.bq Go.Proofs.Ytckipafciomklaa.vk Go.Proofs.Ytckipafciomklaa.wk

set_option linter.unusedVariables false
theorem fl_one (r : H) : ∀ u ∈ fl [r], u.oneCell' = true := by
  intro u hu
  have e : fl [r] = rv r := by simp [fl]
  rw [e] at hu
  exact ones3 u hu
theorem fl_ones (l : List H) : ∀ u ∈ fl l, u.oneCell' = true := by
  intro u hu
  unfold fl at hu
  obtain ⟨r, _, hr⟩ := List.mem_flatMap.1 hu
  exact ones3 u hr
/-- an append of hits that lie in memory -/
theorem wpList_appH {w : World} {ops : Array Oper} {rest : List Oper} {o : Oper} {a : Act} {Q : Exit → Act → World → Prop} (hgd : o.guard = none) (s x : Operand)
    (ho : o.op = .call { callee := .builtin .append, args := #[s, x], argTypes := #[22, 22] })
    (base : Nat) (v : Value) (k : Nat) (xs : List Value) (hs : a.eval s = v) (hown : w.ownsRow base 27 3 v k xs)
    (A : Option Addr) (m c : Nat) (l : List H) (hx : a.eval x = .slice A m c) (hl : IsH w A m c l) (h63 : k + m ≤ 2000000) (hbase : base ≤ w.heap.size)
    (h : ∀ A' n' c' w', w'.ownsRow base 27 3 (.slice A' n' c') (k + m) (xs ++ fl l) → w.grownBy w' v.ownBlock → wpList Try.prog ops Q rest (a.put o.dst (.slice A' n' c')) w') : wpList Try.prog ops Q (o :: rest) a w := by
  obtain ⟨i0, hi, hz0, hz1, hz2⟩ := info_parts infoHt
  have sh : ∀ {w' : World} {n : Nat} {v' : Value} {ys : List Value}, w'.ownsRow base 27 3 v' n ys → ∃ A n c, v' = .slice A n c := fun h => by
    rcases h.2 with ⟨h, _⟩ | ⟨g', cap', cur', h, _⟩
    · exact ⟨_, _, _, h⟩
    · exact ⟨_, _, _, h⟩
  cases A with
  | none =>
    have hc := hl.2.2.2.2.2 rfl
    subst hc
    obtain rfl : m = 0 := by have := hl.2.1; omega
    have hl0 : l = [] := List.length_eq_zero_iff.1 hl.1
    subst hl0
    refine wpList_append_own_none hgd s x 22 ho base 27 i0 3 Try.underlying22 hi v k xs hs hown hx ?_
    obtain ⟨A', n', c', rfl⟩ := sh hown
    exact h A' n' c' w (by simpa [fl] using hown) ⟨rfl, rfl, rfl, Nat.le_refl _, fun _ _ _ => rfl⟩
  | some ad =>
    refine wpList_append_own _ hgd s x 22 ho base 27 i0 (.agg #[.int .i64 0, .int .i64 0, .int .i64 0]) 3 24 Try.underlying22 hi hz0 hz1 hz2 rfl (by decide) v k xs hs hown ad m c (fl l) hx (by rw [fl_length, hl.1]) ?_ (fl_ones l) (by unfold maxLen; omega) (by omega) hbase ?_
    · intro j u hu
      have hlt : 0 < (fl l).length := by have := (List.getElem?_eq_some_iff.1 hu).1; omega
      obtain ⟨b, o, e, hb, hc⟩ := hl.2.2.2.1 hlt
      cases e
      rw [wk.add_at]
      exact hc j u hu
    · intro v' w' h1 h2 _
      obtain ⟨A', n', c', rfl⟩ := sh h1
      exact h A' n' c' w' h1 h2
theorem isH_some {w : World} {A : Option Addr} {n c : Nat} {l : List H} (h : IsH w A n c l) (hn : 0 < n) : ∃ b o, A = some ⟨b, o, none⟩ := by
  obtain ⟨b, o, e, _⟩ := h.2.2.2.1 (by rw [fl_length, h.1]; omega)
  exact ⟨b, o, e⟩
set_option maxRecDepth 100000 in
set_option maxHeartbeats 4000000 in
theorem clone_calls {l : List H} {n c : Nat} {A : Option Addr} (w : World) (h : IsH w A n c l) (hn : n ≤ 1000000) :
    Calls Try.prog 63 #[.slice A n c] w fun e w' => ∃ A' n' c', e = .returned (.slice A' n' c') ∧ w'.ownsRow w.heap.size 27 3 (.slice A' n' c') n (fl l) ∧ Below w.heap.size w w' := by
  have HC := Lib.hid (isH_below h (below_new w (.cells #[] 27)))
  have HO : Hid ((w.alloc (.cells #[] 27)).ownsRow w.heap.size 27 3 (.slice (some ⟨w.heap.size, 0, none⟩) 0 0) 0 []) := World.ownsRow_lit (base := w.heap.size) w #[] 0 (Nat.le_refl _) (by unfold maxLen; omega) rfl
  have hnil := fun w' => Go.Lib.run_eql_slice_nil (P := Try.prog) w' 22 27 A n c 0 0 Try.underlying22
  cases A with
  | none =>
    have hc := h.2.2.2.2.2 rfl
    subst hc
    obtain rfl : n = 0 := by have := h.2.1; omega
    have hl0 : l = [] := List.length_eq_zero_iff.1 h.1
    subst hl0
    clear h
    go_enter Try.func63, Try.ntmps63
    go_wp2_with fail
    go_ret
    exact ⟨none, 0, 0, rfl, World.ownsRow_nil _ _ _ _, Below.refl _ _⟩
  | some ad =>
    clear h
    go_enter Try.func63, Try.ntmps63
    go_wp2_with (at_builtin; refine wpList_appH rfl _ _ rfl w.heap.size _ _ _ rfl HO.out _ n c l rfl HC.out ?c3 ?c5 ?_)
    case c3 => omega
    case c5 => rw [size_new]; omega
    intro A' n' c' w2 hown' hgrow
    have hB : Below w.heap.size w w2 := (below_new w (.cells #[] 27)).grown hgrow (by rw [size_new]; omega) (fun g hg => (HO.out.lt g hg).1)
    have HB := Lib.hid hB
    have HOW := Lib.hid hown'
    clear hB hown' hgrow
    go_wp2_with fail
    go_ret
    exact ⟨A', n', c', rfl, by simpa using HOW.out, HB.out⟩
end Go.Proofs.Ytckipafciomklaa.bk
/- DeleteFunc. -/
namespace Go.Proofs.Ytckipafciomklaa.bk

open Go.ChangeShapes Go.WideShapes Go.ChangeAt Go.RowKit

open Go.Proofs.Ytckipafciomklaa.bq Go.Proofs.Ytckipafciomklaa.vk Go.Proofs.Ytckipafciomklaa.wk

set_option linter.unusedVariables false
def PredB (B : Nat) (g : FuncId) (cap : Array Value) (p : H → Bool) (l : List H) (w : World) : Prop :=
  ∀ w', Below B w w' → ∀ x ∈ l, Calls Try.prog g (#[.agg #[.int .i64 x.1, .int .i64 x.2.1, .int .i64 x.2.2]] ++ cap) w' fun e w2 => e = .returned (.bool (p x)) ∧ Below w'.heap.size w' w2
theorem PredB.h {B : Nat} {g : FuncId} {cap : Array Value} {p : H → Bool} {l : List H} {w : World} (h : PredB B g cap p l w) (hB : B ≤ w.heap.size) : PredH g cap p l w := fun w' hb x hx => h w' (hb.mono hB) x hx
theorem fl_set (l : List H) (i : Nat) (x : H) : (((fl l).set (i * 3) (.int .i64 x.1)).set (i * 3 + 1) (.int .i64 x.2.1)).set (i * 3 + 2) (.int .i64 x.2.2) = fl (l.set i x) := by
  induction l generalizing i with
  | nil => simp [fl]
  | cons a l ih =>
    have e : ∀ (b : H) (t : List H), fl (b :: t) = .int .i64 b.1 :: .int .i64 b.2.1 :: .int .i64 b.2.2 :: fl t := fun _ _ => rfl
    cases i with
    | zero => simp [e]
    | succ i =>
      rw [List.set_cons_succ, e, e, show (i + 1) * 3 = i * 3 + 1 + 1 + 1 by omega, show i * 3 + 1 + 1 + 1 + 1 = i * 3 + 1 + 1 + 1 + 1 by omega]
      rw [← ih i]
      simp only [List.set_cons_succ, show i * 3 + 1 + 1 + 1 + 2 = (i * 3 + 2) + 1 + 1 + 1 by omega, show i * 3 + 1 + 1 + 1 + 1 = (i * 3 + 1) + 1 + 1 + 1 by omega]
theorem run_clearH (w : World) (g o n c : Nat) (hn : 0 < n) (hc : ∀ j, j < n * 3 → (w.cell? ⟨g, o + j, none⟩).isSome = true) (hf : ∀ j, j < n * 3 → w.frozen? ⟨g, o + j, none⟩ = false) :
    ∃ vs : List Value, vs.length = n * 3 ∧ ∀ ty, (Builtin.clear_ #[22] ty #[.slice (some ⟨g, o, none⟩) n c]).run Try.prog w = .ok (.tuple #[]) (w.setCells g o vs) := by
  have hl : (Builtin.zeroCells #[.int .i64 0, .int .i64 0, .int .i64 0] n).toList.length = n * 3 := by simp [Builtin.zeroCells]
  refine ⟨(Builtin.zeroCells #[.int .i64 0, .int .i64 0, .int .i64 0] n).toList, hl, fun ty => ?_⟩
  have hst := run_storeCells_cells (P := Try.prog) g o (Builtin.zeroCells #[.int .i64 0, .int .i64 0, .int .i64 0] n).toList 0 w (by rw [hl]; simpa using hc) (by rw [hl]; simpa using hf) (by
    intro v hv
    simp only [Builtin.zeroCells, Array.toList_map, List.mem_map] at hv
    obtain ⟨i, _, rfl⟩ := hv
    have h3 : i % 3 = 0 ∨ i % 3 = 1 ∨ i % 3 = 2 := by omega
    rcases h3 with h | h | h <;> simp [h, Value.oneCell'])
  simp only [Nat.add_zero] at hst
  obtain ⟨m, rfl⟩ : ∃ m, n = m + 1 := ⟨n - 1, by omega⟩
  have hz := fun w' => Try.zeroValue27 w'
  simp [Builtin.clear_, run_underlying Try.underlying22, hz, Value.cells, hst]
theorem setCells_heap (g : Nat) : ∀ (vs : List Value) (o : Nat) (w : World) (k : Nat), k ≠ g → (w.setCells g o vs).heap[k]? = w.heap[k]?
  | [], _, _, _, _ => rfl
  | v :: r, o, w, k, h => by
    rw [World.setCells, setCells_heap g r (o + 1) _ k h]
    exact Below.heap_setCell _ _ _ _ h
theorem setCells_size (g : Nat) : ∀ (vs : List Value) (o : Nat) (w : World), (w.setCells g o vs).heap.size = w.heap.size
  | [], _, _ => rfl
  | v :: r, o, w => by rw [World.setCells, setCells_size g r (o + 1)]; simp [World.setCell]
theorem setCells_rest (g : Nat) : ∀ (vs : List Value) (o : Nat) (w : World), (w.setCells g o vs).os = w.os ∧ (w.setCells g o vs).tape = w.tape ∧ (w.setCells g o vs).output = w.output
  | [], _, _ => ⟨rfl, rfl, rfl⟩
  | v :: r, o, w => by
    obtain ⟨h1, h2, h3⟩ := setCells_rest g r (o + 1) (w.setCell ⟨g, o, none⟩ v)
    rw [World.setCells]
    exact ⟨h1, h2, h3⟩
theorem below_setCells {B g : Nat} {w0 w : World} (h : Below B w0 w) (hg : B ≤ g) (o : Nat) (vs : List Value) : Below B w0 (w.setCells g o vs) := by
  obtain ⟨h1, h2, h3⟩ := setCells_rest g vs o w
  exact h.trans ⟨h1, h2, h3, by rw [setCells_size]; exact Nat.le_refl _, fun k hk => setCells_heap g vs o w k (by omega)⟩
def keepP (p : H → Bool) (l : List H) : List H := l.filter fun x => !p x
theorem keepP_snoc (p : H → Bool) (l : List H) (x : H) : keepP p (l ++ [x]) = if p x then keepP p l else keepP p l ++ [x] := by
  unfold keepP
  rw [List.filter_append]
  cases h : p x <;> simp [h]
theorem run_tailH (w' : World) (g n c k : Nat) (hk : k ≤ n) (hkc : k < c) (hc : n ≤ c) : (Instr.slice 22 (.slice (some ⟨g, 0, none⟩) n c) (some (.int .i64 (k : Int))) none none).run Try.prog w' = .ok (.slice (some ⟨g, k * 3, none⟩) (n - k) (c - k)) w' := by
  have ht : Try.prog.underlying 22 = some (.slice (Try.prog.elem 22)) := by simp [Program.elem, Try.underlying22]
  have he : Try.prog.elem 22 = 27 := by simp [Program.elem, Try.underlying22]
  rw [run_slice_l w' 22 (some ⟨g, 0, none⟩) n c ht .i64 (k : Int) (by omega) (by omega), he, wk.run_sizeOf w' 27 3 infoH1]
  simp [Result.andThen, sliced, wk.add_at]
  omega
theorem own_frozen {w : World} {B n c : Nat} {g : Nat} {xs : List Value} (h : w.ownsRow B 27 3 (.slice (some ⟨g, 0, none⟩) n c) n xs) (t : Nat) : w.frozen? ⟨g, t, none⟩ = false := by
  rcases h.2 with ⟨hv, _⟩ | ⟨g', cap', cur', hv, _, hh, _⟩
  · cases hv
  · cases hv; exact frozen_of_row _ _ _ _ _ hh
set_option maxRecDepth 100000 in
set_option maxHeartbeats 4000000 in
theorem delete_calls {l : List H} {n c : Nat} {A : Option Addr} {B : Nat} {g : FuncId} {cap : Array Value} {p : H → Bool} (w : World) (h : w.ownsRow B 27 3 (.slice A n c) n (fl l)) (hB : B ≤ w.heap.size) (hw : ∀ r ∈ l, Wd r) (hn : n ≤ 1000000)
    (hf : ∀ vs w', (callFunc g vs).run Try.prog w' = .ok (.enter g vs) w') (hp : PredB B g cap p l w) :
    Calls Try.prog 62 #[.slice A n c, .func (.func g) #[] cap] w fun e w' => ∃ A' n' c', e = .returned (.slice A' n' c') ∧ IsH w' A' n' c' (keepP p l) ∧ Below B w w' := by
  obtain ⟨A0, c0, hv0, hI⟩ := isH_of_own h hw
  injection hv0 with e1 e2 e3
  subst e1 e3
  have HI := Lib.hid hI
  have HX := Lib.hid (index_calls w hI hf (hp.h hB))
  have HP := Lib.hid hp
  have hln := hI.1
  have hnc := hI.2.1
  have hm := hI.2.2.1
  have HOWN := Lib.hid h
  clear hI hp h
  go_enter Try.func62, Try.ntmps62
  go_wp2_with fail
  refine HX.out.mono ?_
  rintro e w1 ⟨z, rfl, hz, hb1⟩
  rcases hz with ⟨rfl, hall⟩ | ⟨k0, rfl, hk0, hpre, x0, hx0, hpx⟩
  · have hkeep : keepP p l = l := List.filter_eq_self.2 fun x hx => by simpa using List.all_eq_true.1 hall x hx
    have HF : Hid (IsH w1 A n c (keepP p l) ∧ Below B w w1) := ⟨by rw [hkeep]; exact HI.out.below hb1, hb1.mono hB⟩
    clear hall hkeep hb1
    go_wp2_with fail
    go_ret
    exact ⟨A, n, c, rfl, HF.out⟩
  · obtain ⟨g0, o0, rfl⟩ := isH_some HI.out (by omega)
    have hne : ((k0 : Int) == -1) = false := beq_eq_false_iff_ne.2 (by omega)
    have HO1 := Lib.hid (keptB HOWN.out hb1)
    obtain rfl : o0 = 0 := by
      rcases HOWN.out.2 with ⟨hv, _⟩ | ⟨g', cap', cur', hv, _⟩
      · cases hv
      · cases hv; rfl
    have HBG : Hid (B ≤ g0) := (HOWN.out.lt g0 rfl).1
    have HB1 := Lib.hid (hb1.mono hB)
    have HPRE : Hid (keepP p (l.take k0) = l.take k0) := List.filter_eq_self.2 fun x hx => by simpa using List.all_eq_true.1 hpre x hx
    have HX0 := Lib.hid hx0
    have HPX := Lib.hid hpx
    have hkn : k0 < n := by omega
    clear hb1 hpre hx0 hpx
    go_wp2_with fail
    go_loopg [5, 6, 7] n (fun gg s5 s6 _ wr => ∃ (i j : Nat) (L : List H), s5 = .int .i64 (i : Int) ∧ s6 = .int .i64 (j : Int) ∧ (n - j ≤ gg ∧ j ≤ n) ∧ i < j ∧ wr.ownsRow B 27 3 (.slice (some ⟨g0, 0, none⟩) n c) n (fl L) ∧ Below B w wr ∧ L.length = n ∧ L.take i = keepP p (l.take j) ∧ L.drop j = l.drop j)
    case atStart =>
      refine ⟨k0, k0 + 1, l, rfl, by go_num, ⟨by omega, by omega⟩, by omega, HO1.out, HB1.out, hln, ?_, rfl⟩
      rw [List.take_add_one, HX0.out, Option.toList_some, keepP_snoc, HPX.out, if_pos rfl, HPRE.out]
    case round =>
      obtain ⟨i, j, L, rfl, rfl, hjn, hij, hown, hbel, hL, hT, hD⟩ := hrel
      have HOW := Lib.hid hown
      have HBEL := Lib.hid hbel
      have HT := Lib.hid hT
      have HD := Lib.hid hD
      have HJ := Lib.hid hjn
      have HL := Lib.hid hL
      have hjn' : j ≤ n := hjn.2
      by_cases hlt : j < n
      · have hxj : l[j]? = some (l[j]'(by omega)) := List.getElem?_eq_getElem _
        have hxw := hw _ (List.getElem_mem (show j < l.length by omega))
        have hxl := List.getElem_mem (show j < l.length by omega)
        generalize l[j]'(by omega) = x at hxj hxw hxl
        have hLj : L[j]? = some x := by
          have h1 : (L.drop j)[0]? = (l.drop j)[0]? := by rw [hD]
          rw [List.getElem?_drop, List.getElem?_drop] at h1
          simpa [hxj] using h1
        have hf3 := fl_at hLj
        have hcs : ∀ t u, (fl L)[t]? = some u → wr.cell? ⟨g0, t, none⟩ = some u := fun t u hu => by
          have := hown.cells rfl t u hu
          rw [wk.add_at, Nat.zero_add] at this
          exact this
        have hj0 := hcs _ _ hf3.1
        have hj1 := hcs _ _ hf3.2.1
        have hj2 := hcs _ _ hf3.2.2
        have hlt0 : (j : Int) < (n : Int) := by omega
        have HBX := Lib.hid (below_new wr (.cells #[.int .i64 x.1, .int .i64 x.2.1, .int .i64 x.2.2] 27))
        have HRX := Lib.hid (RowH.new wr x)
        have hr0 := HRX.out.c0
        have hr1 := HRX.out.c1
        have hr2 := HRX.out.c2
        have HBW : Hid (B ≤ wr.heap.size) := Nat.le_trans hB hbel.size
        have HBEL2 : Hid (Below B w (wr.alloc (.cells #[.int .i64 x.1, .int .i64 x.2.1, .int .i64 x.2.2] 27))) := hbel.trans (HBX.out.mono HBW.out)
        have HC := Lib.hid (HP.out (wr.alloc (.cells #[.int .i64 x.1, .int .i64 x.2.1, .int .i64 x.2.2] 27)) HBEL2.out x hxl)
        have HXJ := Lib.hid hxj
        have HKS : Hid (keepP p (l.take (j + 1)) = if p x then keepP p (l.take j) else keepP p (l.take j) ++ [x]) := by
          show _ = _
          rw [List.take_add_one, hxj]; exact keepP_snoc _ _ _
        have HD1 : Hid (L.drop (j + 1) = l.drop (j + 1)) := by
          show _ = _
          have := congrArg (List.drop 1) hD
          simpa using this
        clear hown hbel hL hT hD hxj hxw hxl hLj hf3 hcs hjn
        cases hpx : p x
        · rw [hpx] at HC
          have HKF : Hid (keepP p (l.take (j + 1)) = keepP p (l.take j) ++ [x]) := by have := HKS.out; rw [hpx] at this; exact this
          clear hpx
          go_wp2_with fail
          refine HC.out.mono ?_
          rintro e w5 ⟨rfl, hb5⟩
          have HRX5 := HRX.out.below hb5
          have hq0 := HRX5.c0
          have hq1 := HRX5.c1
          have hq2 := HRX5.c2
          have HO5 := Lib.hid (keptB (keptB HOW.out HBX.out) hb5)
          have hin : (i : Int) < (n : Int) := by omega
          have hiL : i < L.length := by rw [HL.out]; omega
          have hf3 := fl_at (List.getElem?_eq_getElem hiL)
          have hcs : ∀ t u, (fl L)[t]? = some u → w5.cell? ⟨g0, t, none⟩ = some u := fun t u hu => by
            have := HO5.out.cells rfl t u hu
            rw [wk.add_at, Nat.zero_add] at this
            exact this
          have hi0 := hcs _ _ hf3.1
          have hi1 := hcs _ _ hf3.2.1
          have hi2 := hcs _ _ hf3.2.2
          have hz0 : ∀ t, w5.frozen? ⟨g0, t, none⟩ = false := fun t => own_frozen HO5.out t
          generalize L[i] = old at hi0 hi1 hi2
          have HBEL5 := Lib.hid (HBEL2.out.trans (hb5.mono (Nat.le_trans HBW.out HBX.out.size)))
          clear HRX5 hf3 hcs hb5
          go_wp2_with fail
          go_roundg (n - (j + 1))
          case measure => have := HJ.out; omega
          case rel => 
            refine ⟨i + 1, j + 1, L.set i x, by go_num, by go_num, by have := HJ.out; omega, by omega, ?_, ?_, by rw [List.length_set]; exact HL.out, ?_, ?_⟩
            · rw [← fl_set]
              exact (((HO5.out.stored (i * 3) _).1.stored (i * 3 + 1) _).1.stored (i * 3 + 2) _).1
            · exact ((HBEL5.out.setCell (p := ⟨g0, i * 3, none⟩) HBG.out _).setCell (p := ⟨g0, i * 3 + 1, none⟩) HBG.out _).setCell (p := ⟨g0, i * 3 + 2, none⟩) HBG.out _
            · rw [List.take_add_one, List.getElem?_set_self (by have := HL.out; omega), Option.toList_some, List.take_set, List.set_eq_of_length_le (by rw [List.length_take]; omega), HT.out, HKF.out]
            · rw [List.drop_set_of_lt (by omega)]; exact HD1.out
        · rw [hpx] at HC
          have HKT : Hid (keepP p (l.take (j + 1)) = keepP p (l.take j)) := by have := HKS.out; rw [hpx] at this; exact this
          clear hpx
          go_wp2_with fail
          refine HC.out.mono ?_
          rintro e w5 ⟨rfl, hb5⟩
          have HO5 := Lib.hid (keptB (keptB HOW.out HBX.out) hb5)
          have HBEL5 := Lib.hid (HBEL2.out.trans (hb5.mono (Nat.le_trans HBW.out HBX.out.size)))
          clear hb5
          go_wp2_with fail
          go_roundg (n - (j + 1))
          case measure => have := HJ.out; omega
          case rel => exact ⟨i, j + 1, L, rfl, by go_num, by have := HJ.out; omega, by omega, HO5.out, HBEL5.out, HL.out, by rw [HKT.out]; exact HT.out, HD1.out⟩
      · obtain rfl : j = n := by omega
        have hkT : L.take i = keepP p l := by rw [hT, List.take_of_length_le (by omega)]
        have hcs : ∀ t u, (fl L)[t]? = some u → wr.cell? ⟨g0, t, none⟩ = some u := fun t u hu => by
          have := hown.cells rfl t u hu
          rw [wk.add_at, Nat.zero_add] at this
          exact this
        have hgl : g0 < wr.heap.size := (hown.lt g0 rfl).2
        obtain ⟨vs, hvs, hcl⟩ := run_clearH wr g0 (i * 3) (j - i) (c - i) (by omega) (fun t ht => by
          have ht2 : i * 3 + t < (fl L).length := by rw [fl_length, hL]; omega
          rw [hcs _ _ (List.getElem?_eq_getElem ht2)]; rfl) (fun t _ => own_frozen hown _)
        have htl := fun w' => run_tailH w' g0 j c i (by omega) (by omega) hnc
        have hpre := fun w' => run_preH w' (some ⟨g0, 0, none⟩) j c i (by omega) hnc
        have HF : Hid (IsH (wr.setCells g0 (i * 3) vs) (some ⟨g0, 0, none⟩) i c (keepP p l) ∧ Below B w (wr.setCells g0 (i * 3) vs)) := by
          refine ⟨⟨by rw [← hkT, List.length_take]; omega, by omega, hm, fun _ => ⟨g0, 0, rfl, by rw [setCells_size]; exact hgl, fun t u hu => ?_⟩, fun r hr => hw r (List.mem_filter.1 hr).1, fun h => by cases h⟩, below_setCells hbel HBG.out _ _⟩
          rw [← hkT, ← fl_take] at hu
          have ht : t < i * 3 := by
            have := (List.getElem?_eq_some_iff.1 hu).1
            rw [List.length_take] at this; omega
          rw [List.getElem?_take_of_lt ht] at hu
          rw [Nat.zero_add, World.cell?_setCells_out g0 vs (i * 3) wr ⟨g0, t, none⟩ (fun _ _ => .inl ht)]
          exact hcs t u hu
        clear hown hbel hL hT hD hkT hcs hgl hvs hjn
        go_wp2_with fail
        go_ret
        exact ⟨_, i, c, rfl, HF.out⟩
end Go.Proofs.Ytckipafciomklaa.bk
/- unbeaten. -/
namespace Go.Proofs.Ytckipafciomklaa.bk

open Go.ChangeShapes Go.WideShapes Go.ChangeAt Go.RowKit

open Go.Proofs.Ytckipafciomklaa.bq Go.Proofs.Ytckipafciomklaa.vk Go.Proofs.Ytckipafciomklaa.wk

set_option linter.unusedVariables false
set_option maxRecDepth 100000 in
set_option maxHeartbeats 4000000 in
theorem c65_calls {x y : H} {gh go : Nat} (w : World) (hy : RowH w gh y) (ho : OrdX w go) : Calls Try.prog 65 #[.agg #[.int .i64 x.1, .int .i64 x.2.1, .int .i64 x.2.2], .pointer (some ⟨gh, 0, none⟩), .pointer (some ⟨go, 0, none⟩)] w fun e w' => e = .returned (.bool (x.1 == y.1 && lt x y)) ∧ Below w.heap.size w w' := by
  have HB := Lib.hid (below_new w (.cells #[.int .i64 x.1, .int .i64 x.2.1, .int .i64 x.2.2] 27))
  have HRX := Lib.hid (RowH.new w x)
  have HRY := Lib.hid (hy.below HB.out)
  have HO := Lib.hid (ho.below HB.out)
  have hx0 := HRX.out.c0
  have hx1 := HRX.out.c1
  have hx2 := HRX.out.c2
  have hy0 := HRY.out.c0
  have hy1 := HRY.out.c1
  have hy2 := HRY.out.c2
  have ho0 := HO.out.c0
  have HC := Lib.hid (fun w' => cmpH_calls x y w')
  clear hy ho
  by_cases he : x.1 = y.1
  · have hbe : (x.1 == y.1) = true := by simp [he]
    have HBE := Lib.hid hbe
    clear he
    go_enter Try.func65, Try.ntmps65
    go_wp2_with fail
    refine (HC.out _).mono ?_
    rintro e w' ⟨rfl, hg⟩
    have HF := Lib.hid (Below.andThen HB.out hg.below)
    clear hg
    go_wp2_with fail
    go_ret
    exact ⟨by rw [HBE.out]; rfl, HF.out⟩
  · have hbe : (x.1 == y.1) = false := by simp [he]
    have HBE := Lib.hid hbe
    clear he
    go_enter Try.func65, Try.ntmps65
    go_wp2_with fail
    go_ret
    exact ⟨by rw [HBE.out]; rfl, HB.out⟩
theorem enters65 (vs : Array Value) (w : World) : (callFunc 65 vs).run Try.prog w = .ok (.enter 65 vs) w := by kernel_rfl
theorem enters64 (vs : Array Value) (w : World) : (callFunc 64 vs).run Try.prog w = .ok (.enter 64 vs) w := by kernel_rfl
set_option maxRecDepth 100000 in
set_option maxHeartbeats 4000000 in
theorem c64_calls {x : H} {l : List H} {A : Option Addr} {n c gb go : Nat} (w : World) (hb : One1 w gb (.slice A n c)) (ho : OrdX w go) (hl : IsH w A n c l) : Calls Try.prog 64 #[.agg #[.int .i64 x.1, .int .i64 x.2.1, .int .i64 x.2.2], .pointer (some ⟨gb, 0, none⟩), .pointer (some ⟨go, 0, none⟩)] w fun e w' => e = .returned (.bool (bt l x)) ∧ Below w.heap.size w w' := by
  have HB := Lib.hid (below_new w (.cells #[.int .i64 x.1, .int .i64 x.2.1, .int .i64 x.2.2] 27))
  have HRX := Lib.hid (RowH.new w x)
  have HO := Lib.hid (ho.below HB.out)
  have HBB := Lib.hid (hb.below HB.out)
  have hb0 := HBB.out.c0
  have HC := Lib.hid (contains_calls (g := 65) (cap := #[.pointer (some ⟨w.heap.size, 0, none⟩), .pointer (some ⟨go, 0, none⟩)]) (p := fun o => o.1 == x.1 && lt o x) (w.alloc (.cells #[.int .i64 x.1, .int .i64 x.2.1, .int .i64 x.2.2] 27)) (hl.below HB.out) enters65 (fun w' hb' o ho' => by
    have := c65_calls (x := o) w' (HRX.out.below hb') (HO.out.below hb')
    simpa using this))
  clear hb ho hl
  go_enter Try.func64, Try.ntmps64
  go_wp2_with fail
  refine HC.out.mono ?_
  rintro e w' ⟨rfl, hb'⟩
  have HF := Lib.hid (Below.andThen HB.out hb')
  clear hb'
  go_wp2_with fail
  go_ret
  exact ⟨rfl, HF.out⟩
set_option maxRecDepth 100000 in
set_option maxHeartbeats 4000000 in
theorem unbeaten_calls {a b : List H} {A A' : Option Addr} {n c n' c' : Nat} (w : World) (h : IsH w A n c a) (h' : IsH w A' n' c' b) (hn : n ≤ 1000000) : Calls Try.prog 48 #[.agg #[.func (.func 56) #[] #[]], .slice A n c, .slice A' n' c'] w fun e w' => ∃ A2 n2 c2, e = .returned (.slice A2 n2 c2) ∧ IsH w' A2 n2 c2 (unbt a b) ∧ Below w.heap.size w w' := by
  have hb1 := below_new w (.cells #[.func (.func 56) #[] #[]] 55)
  have hb2 := below_new (w.alloc (.cells #[.func (.func 56) #[] #[]] 55)) (.cells #[.slice A' n' c'] 22)
  have HO := Lib.hid ((OrdX.new w).below hb2)
  have HX := Lib.hid (One1.new (w.alloc (.cells #[.func (.func 56) #[] #[]] 55)) (.slice A' n' c'))
  rw [size_new] at HX
  have HB := Lib.hid (Below.andThen hb1 hb2)
  have H := Lib.hid (h.below HB.out |> fun x => x)
  have H' := Lib.hid (isH_below (isH_below h' hb1) hb2)
  have HH := Lib.hid (isH_below (isH_below h hb1) hb2)
  have HWD := Lib.hid h.2.2.2.2.1
  clear h h' hb1 hb2 H
  go_enter Try.func48, Try.ntmps48
  go_wp2_with fail
  generalize hw2 : (w.alloc (.cells #[.func (.func 56) #[] #[]] 55)).alloc (.cells #[.slice A' n' c'] 22) = w2 at *
  clear hw2
  refine (clone_calls w2 HH.out hn).mono ?_
  rintro e w3 ⟨A3, n3, c3, rfl, hown, hb3⟩
  have hn3 : n3 = n := by
    rcases hown.2 with ⟨hv, hz⟩ | ⟨g, cap, cur, hv, _⟩
    · cases hv; exact hz.symm
    · cases hv; rfl
  subst hn3
  have HD := Lib.hid (delete_calls (g := 64) (cap := #[.pointer (some ⟨w.heap.size + 1, 0, none⟩), .pointer (some ⟨w.heap.size, 0, none⟩)]) (p := bt b) w3 hown hb3.size HWD.out hn enters64 (fun w' hb' x _ => by
    have hb4 : Below w2.heap.size w2 w' := hb3.trans hb'
    have := c64_calls (x := x) w' (HX.out.below hb4) (HO.out.below hb4) (H'.out.below hb4)
    simpa using this))
  have HB3 := Lib.hid (HB.out.trans (hb3.mono HB.out.size))
  have HB3s := Lib.hid hb3
  clear hown hb3
  go_wp2_with fail
  refine HD.out.mono ?_
  rintro e w5 ⟨A5, n5, c5, rfl, h5, hb5⟩
  have HF := Lib.hid (And.intro h5 (HB3.out.trans (hb5.mono HB.out.size)))
  clear h5 hb5
  go_wp2_with fail
  go_ret
  exact ⟨A5, n5, c5, rfl, HF.out⟩
end Go.Proofs.Ytckipafciomklaa.bk
/- As Val8, for a region that writes slots which its operations read: a slot is as it was while none that writes it is done. No program here. -/
namespace Go.Proofs.Ytckipafciomklaa.wk

open Go.RowKit

set_option linter.unusedVariables false

section

variable {P : Program} {ops : Array Oper} {Q : Exit → Act → World → Prop} {md : Region.Mode}
theorem linv_step2W {a0 : Act} {k : Nat} (R : (Nat → Bool) → Nat → World → Value → Prop) (hap : apart ops a0.tmps.size = true) (hg : noGuard ops k = true) {L : Nat → Bool} {a : Act} {w : World} {i : Nat} {o : Oper} (hik : i < k) (hI : LInv ops R a0 L a w) (ho : ops[i]? = some o) (hdep : ∀ e ∈ o.after, Region.binds .any e = true → L e.on = true) (hno : ∀ j, k ≤ j → L j = false)
    {S : World → Prop} (hstep : ∀ E, DueG ops (R L) a0 o E w → (∀ s, (∀ j, L j = true → dstOf ops j ≠ some s) → E (.tmp s) = a0.eval (.tmp s)) → DoesT P Q o E w fun w' v => R (fun j => if j = i then true else L j) i w' v ∧ (∀ j u, L j = true → (∀ d, dstOf ops j = some d → E (.tmp d) = u) → R L j w u → R (fun j => if j = i then true else L j) j w' u) ∧ S w') :
    wpOp P ops Q i (fun a' w' => LInv ops R a0 (fun j => if j = i then true else L j) a' w' ∧ S w') a w := by
  have hio : i < ops.size := (Array.getElem?_eq_some_iff.1 ho).1
  have hdv : ∀ e ∈ o.after, Region.binds .any e = true → ∃ v, R L e.on w v ∧ ∀ d, dstOf ops e.on = some d → a.tmps[d]? = some v := fun e he hb => hI.vals e.on (hdep e he hb)
  have hgn : o.guard = none := by
    have h1 := List.all_eq_true.1 hg i (List.mem_range.2 hik)
    simp only [ho, Option.isNone_iff_eq_none] at h1
    exact h1
  refine wpOp_step ho fun K' hK => ?_
  rw [if_pos (by simp [Region.wanted, hgn])]
  refine hstep a.eval ⟨fun _ => rfl, fun _ => rfl, fun k hk => ?_, fun e he hb => ?_⟩ (fun s hs2 => ?_) a K' rfl fun v w' hRT => ?_
  · show a.tmps.getD k undef = a0.tmps.getD k undef
    rw [Array.getD_eq_getD_getElem?, Array.getD_eq_getD_getElem?, hI.rest k fun j hj h => ?_]
    have := List.all_eq_true.1 hk j (List.mem_range.2 (dst_lt h))
    rw [h] at this
    simp at this
  · obtain ⟨v, hv, hd⟩ := hdv e he hb
    exact ⟨v, hv, fun d hdd => getD_of (hd d hdd)⟩
  · show a.tmps.getD s undef = a0.tmps.getD s undef
    rw [Array.getD_eq_getD_getElem?, Array.getD_eq_getD_getElem?, hI.rest s fun j hj h => hs2 j hj h]
  · obtain ⟨hv, hT, hS⟩ := hRT
    have hdo : dstOf ops i = o.dst := by unfold dstOf; rw [ho]; rfl
    refine hK _ _ ⟨⟨?_, ?_, fun j hj => ?_, fun k hk => ?_⟩, hS⟩
    · cases hd : o.dst <;> exact hI.defers
    · cases hd : o.dst <;> simp only [Act.put, Array.size_setIfInBounds] <;> exact hI.size
    · by_cases hji : j = i
      · subst hji
        refine ⟨v, hv, fun d hd => ?_⟩
        rw [hdo] at hd
        have hlt := apart_lt hap hio (by rw [hdo]; exact hd)
        rw [hd]
        show (a.tmps.setIfInBounds d _)[d]? = some _
        rw [Array.getElem?_setIfInBounds, if_pos rfl, if_pos (by rw [hI.size]; exact hlt)]
      · rw [if_neg hji] at hj
        obtain ⟨u, hu, hud⟩ := hI.vals j hj
        refine ⟨u, hT j u hj (fun d hd => getD_of (hud d hd)) hu, fun d hd => ?_⟩
        cases hod : o.dst with
        | none => exact hud d hd
        | some d' =>
          have hne : d' ≠ d := fun e => hji (apart_ne hap (dst_lt hd) hio hd (by rw [hdo, hod, e]))
          show (a.tmps.setIfInBounds d' _)[d]? = _
          rw [Array.getElem?_setIfInBounds, if_neg hne]
          exact hud d hd
    · have hk' : ∀ j, L j = true → dstOf ops j ≠ some k := fun j hj => hk j (by by_cases h : j = i <;> simp [h, hj])
      have hki : o.dst ≠ some k := by rw [← hdo]; exact hk i (by simp)
      cases hod : o.dst with
      | none => exact hI.rest k hk'
      | some d' =>
        have hne : d' ≠ k := fun e => hki (by rw [hod, e])
        show (a.tmps.setIfInBounds d' _)[k]? = _
        rw [Array.getElem?_setIfInBounds, if_neg hne]
        exact hI.rest k hk'
/-- .. where what is said of the values rests on what has been done -/
theorem region_lev2W {id : Nat} {a0 : Act} {w0 : World} (k : Nat) (R : (Nat → Bool) → Nat → World → Value → Prop) (ds : List (Option Tmp)) (S : (Nat → Bool) → World → Prop) (h0 : S (fun _ => false) w0.drew) (hm : P.follows .mixedOrders = true) (hord : orderedB .any ops = true) (hap : apart ops a0.tmps.size = true) (hg : noGuard ops k = true) (hds : (List.range k).map (dstOf ops) = ds) (htl : tailed ops k = true)
    (hstep : ∀ i o, ops[i]? = some o → i < k → ∀ E L w, S L w → L i = false → (∀ e ∈ o.after, Region.binds .any e = true → L e.on = true) → DueG ops (R L) a0 o E w → (∀ s, (∀ j, L j = true → dstOf ops j ≠ some s) → E (.tmp s) = a0.eval (.tmp s)) → DoesT P Q o E w (fun w' v => R (fun j => if j = i then true else L j) i w' v ∧ (∀ j u, L j = true → (∀ d, dstOf ops j = some d → E (.tmp d) = u) → R L j w u → R (fun j => if j = i then true else L j) j w' u) ∧ S (fun j => if j = i then true else L j) w'))
    (hdone : ∀ (vals : Nat → Value) L w, (∀ j, j < k → L j = true) → S L w → (∀ i, i < k → R L i w (vals i)) → wpList P ops Q (ops.toList.drop k) { a0 with tmps := setL ds vals 0 a0.tmps } w) : (Code.region id ops true).wp P Q a0 w0 := by
  unfold tailed at htl
  simp only [Bool.and_eq_true, decide_eq_true_eq] at htl
  obtain ⟨⟨hkn, hcov⟩, hch⟩ := htl
  have hchain : ∀ i, k ≤ i → i + 1 < ops.size → waitsFor ops (i + 1) i = true := fun i h1 h2 => by
    have := List.all_eq_true.1 hch i (List.mem_range.2 (by omega))
    simp only [Bool.or_eq_true, decide_eq_true_eq] at this
    rcases this with (h | h) | h
    · omega
    · omega
    · exact h
  have hcover : ∀ j, j < k → k < ops.size → ∃ i, j < i ∧ i ≤ k ∧ waitsFor ops i j = true := fun j h1 h2 => by
    have := List.all_eq_true.1 hcov j (List.mem_range.2 h1)
    simp only [Bool.or_eq_true, beq_iff_eq] at this
    rcases this with h | h
    · omega
    · obtain ⟨i, hi, h⟩ := List.any_eq_true.1 h
      simp only [Bool.and_eq_true, decide_eq_true_eq] at h
      exact ⟨i, h.1, by have := List.mem_range.1 hi; omega, h.2⟩
  have hfin : ∀ L a w, LInv ops R a0 L a w → S L w → (∀ j, j < k → L j = true) → (∀ j, k ≤ j → L j = false) → wpList P ops Q (ops.toList.drop k) a w := fun L a w hI hw hall hno => by
    have hv : ∀ i, ∃ v, i < k → R L i w v ∧ ∀ d, dstOf ops i = some d → a.tmps[d]? = some v := fun i => by
      by_cases hi : i < k
      · obtain ⟨v, h⟩ := hI.vals i (hall i hi); exact ⟨v, fun _ => h⟩
      · exact ⟨undef, fun h => absurd h hi⟩
    obtain ⟨vals, hvals⟩ := Classical.axiomOfChoice hv
    have ha : a = { a0 with tmps := setAll ops vals k a0.tmps } := by
      obtain ⟨tm, df⟩ := a
      have h1 : df = a0.defers := hI.defers
      have h2 : tm = setAll ops vals k a0.tmps := by
        refine Array.ext_getElem? fun s => ?_
        have hset := setAll_get vals hap s k a0.tmps hkn rfl
        by_cases hk : ∃ i, i < k ∧ dstOf ops i = some s
        · obtain ⟨i, hik, hi⟩ := hk
          rw [hset.2 i hik hi]
          exact (hvals i hik).2 s hi
        · rw [hset.1 fun i hi h => hk ⟨i, hi, h⟩]
          refine hI.rest s fun i hi h => ?_
          rcases Nat.lt_or_ge i k with hl | hl
          · exact hk ⟨i, hl, h⟩
          · rw [hno i hl] at hi; cases hi
      rw [h1, h2]
    rw [ha, setAll_eq, hds]
    exact hdone vals L w hall hw fun i hi => (hvals i hi).1
  refine region_invB (fun a0' B L a w => (LInv ops R a0 L a w ∧ S L w ∧ (∀ i, k ≤ i → L i = false) ∧ Closed ops L) ∨ ∃ m, k ≤ m ∧ m ≤ ops.size ∧ (∀ i, L i = decide (i < m)) ∧ wpList P ops Q (ops.toList.drop m) a w) hm hord
    (Or.inl ⟨⟨rfl, rfl, fun i h => (Bool.noConfusion h), fun k _ => rfl⟩, h0, fun _ _ => rfl, fun i o _ h => (Bool.noConfusion h)⟩) ?_ ?_
  · intro L a w hI i o ho hLi hdep
    have hio : i < ops.size := (Array.getElem?_eq_some_iff.1 ho).1
    rcases hI with ⟨hI, hSw, hno, hcl⟩ | ⟨m, hm1, hm2, hL, hwp⟩
    · by_cases hik : i < k
      · refine wpOp_mono (fun a' w' h => Or.inl ?_) (linv_step2W R hap hg hik hI ho hdep hno (S := S (fun j => if j = i then true else L j)) fun E hE hO => hstep i o ho hik E L w hSw hLi hdep hE hO)
        refine ⟨h.1, h.2, fun j hj => ?_, fun j o' ho' hj e he hb => ?_⟩
        · have hji : j ≠ i := by omega
          simp only [hji, if_false]
          exact hno j hj
        · by_cases hji : j = i
          · subst hji
            rw [ho] at ho'; cases ho'
            by_cases h2 : e.on = j
            · simp [h2]
            · simp only [h2, if_false]; exact hdep e he hb
          · simp only [hji, if_false] at hj
            by_cases h2 : e.on = i
            · simp [h2]
            · simp only [h2, if_false]; exact hcl j o' ho' hj e he hb
      · have hik' : i = k := by
          rcases Nat.lt_or_ge k i with h | h
          · have := waits_done (L := L) (hchain (i - 1) (by omega) (by omega)) (by rw [show i - 1 + 1 = i by omega]; exact ho) hdep
            rw [hno (i - 1) (by omega)] at this; cases this
          · omega
        subst hik'
        have hall : ∀ d j, i - j ≤ d → j < i → L j = true := by
          intro d
          induction d with
          | zero => intro j h1 h2; omega
          | succ d ih =>
            intro j h1 h2
            obtain ⟨q, hq1, hq2, hq3⟩ := hcover j h2 hio
            by_cases hqi : q = i
            · subst hqi; exact waits_done hq3 ho hdep
            · have hq : L q = true := ih q (by omega) (by omega)
              have hqo : ops[q]? = some ops[q] := Array.getElem?_eq_getElem (by omega)
              exact waits_done hq3 hqo (hcl q _ hqo hq)
        refine wpOp_mono (fun a' w' h => Or.inr ⟨i + 1, by omega, by omega, fun j => ?_, h⟩) (wpList_to_op ho (hfin L a w hI hSw (fun j hj => hall _ j (Nat.le_refl _) hj) hno))
        by_cases hji : j = i
        · subst hji; simp
        · simp only [hji, if_false]
          rcases Nat.lt_or_ge j i with h1 | h1
          · rw [hall _ j (Nat.le_refl _) h1]; simp; omega
          · rw [hno j h1]; simp; omega
    · have him : i = m := by
        have h1 : ¬ i < m := fun h => by rw [hL i] at hLi; simp [h] at hLi
        rcases Nat.lt_or_ge m i with h | h
        · have := waits_done (L := L) (hchain (i - 1) (by omega) (by omega)) (by rw [show i - 1 + 1 = i by omega]; exact ho) hdep
          rw [hL (i - 1)] at this
          simp at this; omega
        · omega
      subst him
      refine wpOp_mono (fun a' w' h => Or.inr ⟨i + 1, by omega, by omega, fun j => ?_, h⟩) (wpList_to_op ho hwp)
      by_cases hji : j = i
      · subst hji; simp
      · simp only [hji, if_false]
        rw [hL j]
        rcases Nat.lt_or_ge j i with h1 | h1
        · simp [h1]; omega
        · simp; omega
  · intro L a w hall hI
    rcases hI with ⟨hI, hSw, hno, hcl⟩ | ⟨m, hm1, hm2, hL, hwp⟩
    · have hk : k = ops.size := by
        rcases Nat.lt_or_ge k ops.size with h | h
        · have := hall k h; rw [hno k (Nat.le_refl _)] at this; cases this
        · omega
      have := hfin L a w hI hSw (fun j hj => hall j (by omega)) hno
      rw [hk, ← Array.length_toList, List.drop_length] at this
      exact this
    · have hk : m = ops.size := by
        rcases Nat.lt_or_ge m ops.size with h | h
        · have := hall m h; rw [hL m] at this; simp at this
        · omega
      rw [hk, ← Array.length_toList, List.drop_length] at hwp
      exact hwp
end

end Go.Proofs.Ytckipafciomklaa.wk
