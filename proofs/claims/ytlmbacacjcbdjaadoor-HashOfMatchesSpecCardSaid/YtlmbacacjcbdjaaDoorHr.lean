
import Derived.Test.YtlmbacacjcbdjaaDoorHq

import Derived.Test.YtlmbacacjcbdjaaDoorKit6

namespace Go.Proofs.YtlmbacacjcbdjaaDoor.hi

open Go.ChangeShapes Go.WideShapes Go.ChangeAt Go.RowKit

set_option linter.unusedVariables false

theorem sha_eq (l : List UInt8) : hs.out (hs.fin (hs.feed (hs.H0, []) l) l.length) = hs.sha l := rfl

set_option maxRecDepth 100000 in
set_option maxHeartbeats 2000000 in
theorem hsum_calls (A : Option Addr) (n c : Nat) (l : List UInt8) (w : World) (hn : l.length = n) (hnc : n ≤ c) (hc : c ≤ 9223372036854775807) (hsm : n ≤ 1152921504606846976) (hl : wp.RB w A l) (hT : TabK w) :
    Calls Tryd.prog 62 #[.slice A n c] w fun e w' => e = .returned (.agg (wp.bc (hs.sha l)).toArray) ∧ Below w.heap.size w w' := by
  have hconv : ∀ w', Below w.heap.size w w' → (convert 77 9 (.slice A n c)).run Tryd.prog w' = .ok (.string ⟨l.toArray⟩) w' := fun w' hb =>
    wk.conv_str w' _ 5 _ Tryd.underlying77 Tryd.underlying5 Tryd.underlying9 A n c l hn (wk.RB.below hl hb)
  have HC := Lib.hid hconv
  have HT := Lib.hid hT
  have hsz : (⟨l.toArray⟩ : ByteArray).size = n := by show l.toArray.size = n; simpa using hn
  have hA : ∀ w', TabK w' → Calls Tryd.prog 64 #[strV (hs.H0, []) 0, .string ⟨l.toArray⟩] w' fun e w1 => e = .returned (strV (hs.feed (hs.H0, []) l) (n : Int)) ∧ Below w'.heap.size w' w1 := fun w' hT => by
    have := add_calls (hs.H0, []) 0 ⟨l.toArray⟩ w' str_begin (by omega) hT
    simpa [hsz] using this
  have hS : ∀ w', TabK w' → Calls Tryd.prog 65 #[strV (hs.feed (hs.H0, []) l) (n : Int)] w' fun e w1 => e = .returned (.agg (wp.bc (hs.sha l)).toArray) ∧ Below w'.heap.size w' w1 := fun w' hT => by
    have hs : Str (hs.feed (hs.H0, []) l) n := by
      have := str_begin.feed l
      rw [hn] at this
      simpa using this
    have := sum_calls _ n w' hs (by omega) hT
    rw [← sha_eq, hn]
    exact this
  have HA := Lib.hid hA
  have HS := Lib.hid hS
  have hb0 : Below w.heap.size w (w.alloc (.cells z32 95)) := (Below.refl _ _).alloc (Nat.le_refl _) _
  have hr0 : (w.alloc (.cells z32 95)).heap[w.heap.size]? = some (.cells z32 95 (0, 0)) := heap_alloc_new _ _
  unfold z32 at hb0 hr0
  have HB0 := Lib.hid hb0
  have HR0 := Lib.hid hr0
  clear hconv hl hn hsz hA hS hT hb0 hr0
  generalize hcs : wp.bc (hs.sha l) = cs at *
  have hlen : cs.length = 32 := by rw [← hcs, wp.bc_length]; rfl
  have hone : ∀ v ∈ cs, v.oneCell' = true := by rw [← hcs]; exact wk.ones_bc _
  have HCS := Lib.hid hcs
  have hinfo := size_toA size32 hlen
  have HLEN := Lib.hid hlen
  clear hcs
  go_enter Tryd.func62, Tryd.ntmps62
  go_upto_region 1 with fail
  have hb0 := HB0.out
  have hr0 := HR0.out
  generalize w.alloc (.cells #[.int .u8 0, .int .u8 0, .int .u8 0, .int .u8 0, .int .u8 0, .int .u8 0, .int .u8 0, .int .u8 0, .int .u8 0, .int .u8 0, .int .u8 0, .int .u8 0, .int .u8 0, .int .u8 0, .int .u8 0, .int .u8 0, .int .u8 0, .int .u8 0, .int .u8 0, .int .u8 0, .int .u8 0, .int .u8 0, .int .u8 0, .int .u8 0, .int .u8 0, .int .u8 0, .int .u8 0, .int .u8 0, .int .u8 0, .int .u8 0, .int .u8 0, .int .u8 0] 95) = w0 at *
  have hS : ∀ w', Below w0.heap.size w0 w' → (convert 77 9 (.slice A n c)).run Tryd.prog w' = .ok (.string ⟨l.toArray⟩) w' ∧ w'.there w.heap.size 0 32 := fun w' hb =>
    ⟨HC.out w' (hb0.trans (hb.mono hb0.size)), wk.there_below (wk.there_row hr0 rfl) (wk.row_lt hr0) hb⟩
  have c0 := hS w0.drew (Below.refl _ _).drew
  have HSS := Lib.hid hS
  have HTK : Hid (∀ w', Below w0.heap.size w0 w' → TabK w') := fun w' hb => HT.out.below HT.out.1 (hb0.trans (hb.mono hb0.size))
  have HSC : Hid (∀ w', Below w0.heap.size w0 w' → (convert 77 9 (.slice A n c)).run Tryd.prog (w'.setCells w.heap.size 0 cs) = .ok (.string ⟨l.toArray⟩) (w'.setCells w.heap.size 0 cs) ∧ (w'.setCells w.heap.size 0 cs).there w.heap.size 0 32) := fun w' hb =>
    ⟨HC.out _ (wk.below_setCells (Nat.le_refl _) _ _ _ (hb0.trans (hb.mono hb0.size))), World.there_setCells (hS w' hb).2 _ _ _⟩
  clear hS hb0 hr0
  go_region_held3 (fun w' => (convert 77 9 (.slice A n c)).run Tryd.prog w' = .ok (.string ⟨l.toArray⟩) w' ∧ w'.there w.heap.size 0 32) (first | exact c1 | exact HSC.out _ B3 | exact c0) (first | (go_at_call 63; refine (begin_calls _).mono ?_; rintro e w1 ⟨rfl, hb1⟩; have B1 : Below w0.heap.size w0 w1 := (Below.refl _ _).drew.trans hb1; have c1 := HSS.out w1 B1) | (go_at_call 64; refine (HA.out _ (HTK.out _ B1)).mono ?_; rintro e w2 ⟨rfl, hb2⟩; have B2 : Below w0.heap.size w0 w2 := B1.trans (hb2.mono B1.size); have c1 := HSS.out w2 B2) | (go_at_call 65; refine (HS.out _ (HTK.out _ B2)).mono ?_; rintro e w3 ⟨rfl, hb3⟩; have B3 : Below w0.heap.size w0 w3 := B2.trans (hb3.mono B2.size); have c1 := HSS.out w3 B3))
  all_goals
    have hth := c1.2
    have hb0 := HB0.out
    clear c1 c0 hinfo hone
    rw [← HLEN.out] at hth
    go_wp2_with fail
    refine bodyPost_ret (v := .agg cs.toArray) (wk.results_cell_at (fn := Tryd.f62) rfl _ _ ⟨w.heap.size, 0, none⟩ cs _ rfl (wk.setCells_at hth) Tryd.underlying95 rfl (by rw [hlen]; exact size32)) rfl ⟨?_, ?_⟩
    · rfl
    · exact wk.below_setCells (Nat.le_refl _) _ _ _ (hb0.trans (B3.mono hb0.size))
end Go.Proofs.YtlmbacacjcbdjaaDoor.hi
