/- TableSizes' walk. -/
import Derived.Test.YtgmebjnhbkgbfaaBj
import Derived.Deep.RegionHeld3
namespace Go.Proofs.Ytgmebjnhbkgbfaa
open Go.ChangeShapes Go.WideShapes Go.ChangeAt Go.RowKit
set_option linter.unusedVariables false
set_option linter.unusedSimpArgs false

/-- the spec's box, and what has grown since -/
structure SpCtx (w w' : World) (k p q : Int) : Prop where
  box : w'.heap[w.heap.size]? = some (specO k p q)
  bel : Below w.heap.size w w'
theorem SpCtx.init (w : World) (k p q : Int) : SpCtx w (w.alloc (specO k p q)) k p q := ⟨heap_alloc_new _ _, (Below.refl _ _).alloc (Nat.le_refl _) _⟩
theorem SpCtx.next {w w' w'' : World} {k p q : Int} (h : SpCtx w w' k p q) (hb : Below w'.heap.size w' w'') : SpCtx w w'' k p q :=
  ⟨(hb.block _ (blk_lt h.box)).trans h.box, h.bel.trans (hb.mono (Nat.le_of_lt (blk_lt h.box)))⟩
theorem SpCtx.drewN {w w' : World} {k p q : Int} (h : SpCtx w w' k p q) (n : Nat) : SpCtx w (w'.drewN n) k p q := ⟨h.box, below_drewN h.bel n⟩
theorem SpCtx.drew {w w' : World} {k p q : Int} (h : SpCtx w w' k p q) : SpCtx w w'.drew k p q := ⟨h.box, h.bel.drew⟩
theorem SpCtx.cells {w w' : World} {k p q : Int} (h : SpCtx w w' k p q) : w'.cell? ⟨w.heap.size, 0, none⟩ = some (.int .i64 k) ∧ w'.cell? ⟨w.heap.size, 1, none⟩ = some (.int .i64 p) ∧ w'.cell? ⟨w.heap.size, 2, none⟩ = some (.int .i64 q) :=
  ⟨cell_of_blkT h.box rfl, cell_of_blkT h.box rfl, cell_of_blkT h.box rfl⟩
set_option maxRecDepth 100000 in
set_option maxHeartbeats 2000000 in
theorem table_sizes (n k p q : Int) (w : World) : Calls Try.prog 3 #[.int .i64 n, specV k p q] w fun e w' => e = .returned (.bool true) ∧ Below w.heap.size w w' := by
  obtain ⟨s, hs⟩ : ∃ s, tbN n k p q = s := ⟨_, rfl⟩
  obtain ⟨er, her⟩ : ∃ er, tbErr n k p q = er := ⟨_, rfl⟩
  obtain ⟨kk, hkk⟩ : ∃ kk, tbKn k p = kk := ⟨_, rfl⟩
  have HS := Lib.hid (fun w => size_any n k p q w)
  have HR := Lib.hid (fun w => rsize_any n k p q w)
  have HK := Lib.hid (fun w => kinds_any k p q w)
  have HRK := Lib.hid (fun w => rkinds_any k p q w)
  rw [hs, her] at HS HR
  rw [hkk] at HK HRK
  have HC0 := Lib.hid (SpCtx.init w k p q)
  clear hs her hkk
  unfold specV specO at *
  go_enter Try.func3, Try.ntmps3
  go_wp2_with (first
    | (go_at_call 7; refine (HS.out _).mono ?_; rintro e w1 ⟨rfl, hb⟩; (have HC1 := Lib.hid (HC0.out.next hb)); (obtain ⟨b0, b1, b2⟩ := HC1.out.cells); clear hb)
    | (go_at_call 8; refine (HR.out _).mono ?_; rintro e w2 ⟨rfl, hb⟩; (have HC2 := Lib.hid (HC1.out.next hb)); clear b0 b1 b2; (obtain ⟨b0, b1, b2⟩ := HC2.out.cells); clear hb))
  go_region_held3 (fun w' => w'.cell? ⟨w.heap.size, 0, none⟩ = some (.int .i64 k) ∧ w'.cell? ⟨w.heap.size, 1, none⟩ = some (.int .i64 p) ∧ w'.cell? ⟨w.heap.size, 2, none⟩ = some (.int .i64 q))
    (first | exact ⟨b0, b1, b2⟩ | go_keep)
    (first
      | (go_at_call 9; refine (HK.out _).mono ?_; rintro e w3 ⟨rfl, hb⟩; (have HC3 := Lib.hid (HC2.out.drew.next hb)); clear b0 b1 b2; (obtain ⟨b0, b1, b2⟩ := HC3.out.cells); clear hb)
      | (go_at_call 10; refine (HRK.out _).mono ?_; rintro e w4 ⟨rfl, hb⟩; (have HC4 := Lib.hid (HC3.out.next hb)); clear b0 b1 b2; (obtain ⟨b0, b1, b2⟩ := HC4.out.cells); clear hb)
      | (go_at_call 11; refine (pair_any _).mono ?_; rintro e w5 ⟨rfl, hb⟩; (have HC5 := Lib.hid (HC4.out.next hb)); clear b0 b1 b2; (obtain ⟨b0, b1, b2⟩ := HC5.out.cells); clear hb)
      | fail)
  go_wp2
  go_ret
  exact ⟨rfl, HC5.out.bel⟩
end Go.Proofs.Ytgmebjnhbkgbfaa
