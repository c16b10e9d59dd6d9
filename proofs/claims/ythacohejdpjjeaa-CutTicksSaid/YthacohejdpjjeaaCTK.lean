/- cut's laws: walk of the example. -/
import Derived.Test.YthacohejdpjjeaaCTJ
namespace Go.Proofs.Ythacohejdpjjeaa
open Go.RowKit Go.Lib Go.Sort
set_option linter.unusedVariables false
set_option linter.unusedSimpArgs false

def cl0 : List Value := [.int .i64 0, .int .i64 0, .int .i64 0, .int .u64 0, .int .u64 0, .int .u64 0, .int .i64 1, .int .i64 0, .int .i64 0, .int .u64 0, .int .u64 0, .int .u64 0]
def ev0 : List Value := [.int .i64 1, .int .i64 1, .int .i64 1, .int .i64 1, .int .i64 0, .int .u64 0, .slice none 0 0, .slice none 0 0, .int .i64 0, .int .i64 2, .int .i64 2, .int .i64 1, .int .i64 0, .int .u64 0, .slice none 0 0, .slice none 0 0]
def pk0 : List Value := [.int .i64 1, .int .i64 0, .int .i64 0]
/-- the example's calls, events, picks lie there -/
structure Ex0 (w : World) (c e : Nat) : Prop where
  c : RowBlk 39 w c cl0
  e : RowBlk 44 w e ev0
theorem Ex0.below {w w' : World} {c e : Nat} (h : Ex0 w c e) (hb : Below w.heap.size w w') : Ex0 w' c e := ⟨h.c.same (hb.block c h.c.lt), h.e.same (hb.block e h.e.lt)⟩
set_option maxHeartbeats 4000000 in
set_option maxRecDepth 100000 in
theorem adds_any (w : World) : Calls Try.prog 7 #[] w fun e w' => e = .returned (.bool true) ∧ Below w.heap.size w w' := by
  obtain ⟨cb, hcb⟩ : ∃ cb, w.heap.size = cb := ⟨_, rfl⟩
  have HT : Hid (∀ (W : World) (g : Nat), Ex0 W cb (cb + 1) → RowBlk 3 W g pk0 → Calls Try.prog 8 #[.int .i64 2, .slice (some ⟨cb, 0, none⟩) 2 2, .slice (some ⟨cb + 1, 0, none⟩) 2 2, .slice (some ⟨g, 0, none⟩) 3 3] W (TicksP 2 cs0 le0 ps0 W)) := Lib.hid (fun W g hx hp =>
    ticks_any 2 (some ⟨cb, 0, none⟩) cb 0 2 cs0 (some ⟨cb + 1, 0, none⟩) (cb + 1) 0 2 le0 (some ⟨g, 0, none⟩) g 0 3 ps0 W (calls0 hx.c) (fun _ => rfl) (fun _ => hx.c.lt) (evs0 hx.e) (by decide) (fun _ => rfl) (fun _ => hp.lt) (picks0 hp) (by decide))
  have HA : Hid (∀ (W : World) (g : Nat), Ex0 W cb (cb + 1) → RowBlk 3 W g pk0 → Calls Try.prog 12 #[.int .i64 2, .slice (some ⟨cb, 0, none⟩) 2 2, .slice (some ⟨cb + 1, 0, none⟩) 2 2, .slice (some ⟨g, 0, none⟩) 3 3, .int .i64 1] W (AtP 2 cs0 le0 ps0 1 W)) := Lib.hid (fun W g hx hp =>
    at_any 2 (some ⟨cb, 0, none⟩) cb 0 2 cs0 (some ⟨cb + 1, 0, none⟩) (cb + 1) 0 2 le0 (some ⟨g, 0, none⟩) g 0 3 ps0 1 W (calls0 hx.c) (fun _ => rfl) (fun _ => hx.c.lt) (evs0 hx.e) (by decide) (fun _ => rfl) (fun _ => hp.lt) (picks0 hp) (by decide)
      (fun p hp => by
        simp [le0] at hp
        rcases hp with rfl | rfl <;> exact ⟨by decide, by decide⟩) (by unfold I63; omega))
  obtain ⟨W2, hW2⟩ : ∃ W2, (w.alloc (.cells cl0.toArray 39)).alloc (.cells ev0.toArray 44) = W2 := ⟨_, rfl⟩
  have hx2 : Ex0 W2 cb (cb + 1) := by
    rw [← hW2, ← hcb]
    refine ⟨(RowBlk.new _ _ _).alloc _, ?_⟩
    have := RowBlk.new (w.alloc (.cells cl0.toArray 39)) ev0 44
    rw [World.size_alloc] at this
    exact this
  have hb2 : Below w.heap.size w W2 := by rw [← hW2]; exact ((Below.refl _ _).alloc (Nat.le_refl _) _).alloc (by simp) _
  have HX2 := Lib.hid hx2
  have HB2 := Lib.hid hb2
  have HW2 : Hid ((w.alloc (.cells #[.int .i64 0, .int .i64 0, .int .i64 0, .int .u64 0, .int .u64 0, .int .u64 0, .int .i64 1, .int .i64 0, .int .i64 0, .int .u64 0, .int .u64 0, .int .u64 0] 39)).alloc (.cells #[.int .i64 1, .int .i64 1, .int .i64 1, .int .i64 1, .int .i64 0, .int .u64 0, .slice none 0 0, .slice none 0 0, .int .i64 0, .int .i64 2, .int .i64 2, .int .i64 1, .int .i64 0, .int .u64 0, .slice none 0 0, .slice none 0 0] 44) = W2) := Lib.hid hW2
  have HCB := Lib.hid hcb
  clear hx2 hb2 hW2 hcb
  go_enter Try.func7, Try.ntmps7
  go_upto_region 3 with fail
  rw [HW2.out, HCB.out]
  have hb3 : Below W2.heap.size W2 (W2.alloc (.cells pk0.toArray 3)) := (Below.refl _ _).alloc (Nat.le_refl _) _
  have hT3 := HT.out (W2.alloc (.cells pk0.toArray 3)) W2.heap.size (HX2.out.below hb3) (RowBlk.new _ _ _)
  have hT3' : Hid (Calls Try.prog 8 #[.int .i64 2, .slice (some ⟨cb, 0, none⟩) 2 2, .slice (some ⟨cb + 1, 0, none⟩) 2 2, .slice (some ⟨W2.heap.size, 0, none⟩) 3 3] (W2.alloc (.cells #[.int .i64 1, .int .i64 0, .int .i64 0] 3)) (TicksP 2 cs0 le0 ps0 (W2.alloc (.cells pk0.toArray 3)))) := Lib.hid hT3
  have HX3 := Lib.hid (HX2.out.below hb3)
  have HB3 := Lib.hid (HB2.out.trans (hb3.mono HB2.out.size))
  clear hT3 hb3
  go_wp2_with fail
  refine hT3'.out.mono ?_
  rintro e w4 ⟨_, h4, hb4⟩
  obtain ⟨v4, rfl, ho4⟩ := h4 wrong0
  rw [ticks0, rows0] at ho4
  have HX4 := Lib.hid (HX3.out.below hb4)
  have HB4 := Lib.hid (HB3.out.trans (hb4.mono HB3.out.size))
  obtain ⟨a4, g4, c4, rfl, o1, o2, o3, o4⟩ := owns_open ho4
  obtain rfl := o1 (by decide)
  have hg4 := o3 (by decide)
  have HO4 := Lib.hid o4
  clear h4 ho4 hb4 o1 o2 o3 o4 hT3'
  go_upto_region 4 with fail
  have hb5 : Below w4.heap.size w4 (w4.alloc (.cells pk0.toArray 3)) := (Below.refl _ _).alloc (Nat.le_refl _) _
  have hA5 := HA.out (w4.alloc (.cells pk0.toArray 3)) w4.heap.size (HX4.out.below hb5) (RowBlk.new _ _ _)
  have hA5' : Hid (Calls Try.prog 12 #[.int .i64 2, .slice (some ⟨cb, 0, none⟩) 2 2, .slice (some ⟨cb + 1, 0, none⟩) 2 2, .slice (some ⟨w4.heap.size, 0, none⟩) 3 3, .int .i64 1] (w4.alloc (.cells #[.int .i64 1, .int .i64 0, .int .i64 0] 3)) (AtP 2 cs0 le0 ps0 1 (w4.alloc (.cells pk0.toArray 3)))) := Lib.hid hA5
  have HB5 := Lib.hid hb5
  clear hA5 hb5
  go_wp2_with fail
  refine hA5'.out.mono ?_
  rintro e w6 ⟨_, h6, hb6⟩
  obtain ⟨a6, g6, o6, c6, ls, rfl, hE6, _, hls⟩ := h6 wrong0
  rw [ticks0, at0] at hls
  have hB46 : Below w4.heap.size w4 w6 := HB5.out.trans (hb6.mono HB5.out.size)
  have HB6 := Lib.hid (HB4.out.trans (hB46.mono HB4.out.size))
  obtain ⟨s6, rfl⟩ : ∃ s6, ls = [(⟨1, 1, 1, 1, 0, 0, [], []⟩, s6)] := by
    match ls, hls with
    | [(x, s)], h =>
      simp [exs] at h
      exact ⟨s, by rw [h]⟩
    | [], h => simp [exs] at h
    | a :: b :: r, h => simp [exs] at h
  obtain rfl := hE6.ea (by simp)
  obtain ⟨q0, q1, q2, q3, q4, q5, q6, q7⟩ := hE6.cells (i := 0) rfl
  rw [Nat.zero_mul, Nat.add_zero] at q0 q1 q2 q3 q4 q5 q6 q7
  have k0 : w6.cell? ⟨g4, 0, none⟩ = some (.int .i64 1) := (hB46.cell (p := ⟨g4, 0, none⟩) hg4).trans (HO4.out 0 _ rfl)
  have k1 : w6.cell? ⟨g4, 1, none⟩ = some (.int .i64 1) := (hB46.cell (p := ⟨g4, 1, none⟩) hg4).trans (HO4.out 1 _ rfl)
  have k2 : w6.cell? ⟨g4, 2, none⟩ = some (.bool true) := (hB46.cell (p := ⟨g4, 2, none⟩) hg4).trans (HO4.out 2 _ rfl)
  have k3 : w6.cell? ⟨g4, 3, none⟩ = some (.bool true) := (hB46.cell (p := ⟨g4, 3, none⟩) hg4).trans (HO4.out 3 _ rfl)
  have k5 : w6.cell? ⟨g4, 5, none⟩ = some (.int .i64 0) := (hB46.cell (p := ⟨g4, 5, none⟩) hg4).trans (HO4.out 5 _ rfl)
  have htq := fun w => tk_eq 1 1 true true w
  clear h6 hb6 hE6 hls hB46 hA5' q1 q2 q4 q5 q6 q7
  go_wp2_with fail
  go_ret
  exact ⟨rfl, HB6.out⟩
end Go.Proofs.Ythacohejdpjjeaa
