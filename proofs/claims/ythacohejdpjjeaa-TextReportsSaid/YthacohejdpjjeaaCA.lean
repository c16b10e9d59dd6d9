/- Walk of the law's example: a line that is read, one that is not, and a call's line. -/
import Derived.Test.YthacohejdpjjeaaMU
namespace Go.Proofs.Ythacohejdpjjeaa
open Go.RowKit Go.Lib Go.Sort

def E0 : EvX := ⟨3, 1, 4, 2, 0, 5, [], [8, 2]⟩
def L1 : List Nat := [51, 32, 49, 32, 52, 32, 50, 32, 48, 32, 53, 32, 91, 93, 32, 91, 56, 32, 50, 93]
def L2 : List Nat := [51, 32, 49, 32, 52, 32, 50, 32, 48, 32, 48, 53]
theorem E0_ok : E0.Ok where
  ca := by unfold E0 I63; simp
  iv := by unfold E0 I63; simp
  rs := by unfold E0 I63; simp
  st := by unfold E0 I63; simp
  er := by unfold E0 I63; simp
  vl := by decide
  lw := by intro x hx; cases hx
  kw := by
    intro z hz
    unfold I63
    simp [E0] at hz
    rcases hz with rfl | rfl <;> decide
theorem E0_line : evLine E0 = L1 := by kernel_rfl
theorem L1_ok : okP L1 = true := by kernel_rfl
theorem L1_ev : evP L1 = E0 := by kernel_rfl
theorem L2_no : okP L2 = false := by kernel_rfl
theorem L2_at : L2.length - (endP L2).1.length = 11 := by kernel_rfl
theorem str_1 : strB L1 = ⟨#[51, 32, 49, 32, 52, 32, 50, 32, 48, 32, 53, 32, 91, 93, 32, 91, 56, 32, 50, 93]⟩ := by kernel_rfl
theorem str_2 : strB L2 = ⟨#[51, 32, 49, 32, 52, 32, 50, 32, 48, 32, 48, 53]⟩ := by kernel_rfl
theorem str_3 : strB (caLine ⟨1, 0, 0, 7, 0, 0⟩) = ⟨#[49, 32, 48, 32, 48, 32, 55, 32, 48, 32, 48]⟩ := by kernel_rfl
theorem L1_b : BytL L1 := ⟨by decide, by decide⟩
theorem L2_b : BytL L2 := ⟨by decide, by decide⟩

set_option maxHeartbeats 2000000 in
set_option maxRecDepth 100000 in
theorem three_any (w : World) : Calls Try.prog 15 #[] w fun e w' => e = .returned (.bool true) ∧ Below w.heap.size w w' := by
  have RD1 : Hid (∀ W, Calls Try.prog 28 #[.string ⟨#[51, 32, 49, 32, 52, 32, 50, 32, 48, 32, 53, 32, 91, 93, 32, 91, 56, 32, 50, 93]⟩] W fun e w' => ∃ la lb lo lc ka kb ko kc, e = .returned (.tuple #[.agg #[.int .i64 3, .int .i64 1, .int .i64 4, .int .i64 2, .int .i64 0, .int .u64 5, .slice la 0 lc, .slice ka 2 kc], .int .i64 0, .bool true]) ∧ EvR w' E0 ⟨la, lb, lo, lc, ka, kb, ko, kc⟩ ∧ Below W.heap.size W w') := Lib.hid (fun W => by
    have := read_any L1 W L1_b (by decide)
    rw [str_1] at this
    refine this.mono ?_
    rintro e w' ⟨hb, ⟨_, s, rfl, hs⟩ | ⟨h, _⟩⟩
    · rw [L1_ev] at hs ⊢
      obtain ⟨la, lb, lo, lc, ka, kb, ko, kc⟩ := s
      exact ⟨la, lb, lo, lc, ka, kb, ko, kc, rfl, hs, hb⟩
    · rw [L1_ok] at h; cases h)
  have RD2 : Hid (∀ W, Calls Try.prog 28 #[.string ⟨#[51, 32, 49, 32, 52, 32, 50, 32, 48, 32, 48, 53]⟩] W fun e w' => e = .returned (.tuple #[.agg #[.int .i64 0, .int .i64 0, .int .i64 0, .int .i64 0, .int .i64 0, .int .u64 0, .slice none 0 0, .slice none 0 0], .int .i64 11, .bool false]) ∧ Below W.heap.size W w') := Lib.hid (fun W => by
    have := read_any L2 W L2_b (by decide)
    rw [str_2] at this
    refine this.mono ?_
    rintro e w' ⟨hb, ⟨h, _⟩ | ⟨_, rfl⟩⟩
    · rw [L2_no] at h; cases h
    · rw [L2_at]
      exact ⟨rfl, hb⟩)
  have EVT : Hid (∀ W, EvR W E0 ⟨none, 0, 0, 0, some ⟨w.heap.size, 0, none⟩, w.heap.size, 0, 2⟩ → Calls Try.prog 29 #[.agg #[.int .i64 3, .int .i64 1, .int .i64 4, .int .i64 2, .int .i64 0, .int .u64 5, .slice none 0 0, .slice (some ⟨w.heap.size, 0, none⟩) 2 2]] W fun e w' => e = .returned (.string ⟨#[51, 32, 49, 32, 52, 32, 50, 32, 48, 32, 53, 32, 91, 93, 32, 91, 56, 32, 50, 93]⟩) ∧ Below W.heap.size W w') := Lib.hid (fun W h => by
    have := event_any E0 ⟨none, 0, 0, 0, some ⟨w.heap.size, 0, none⟩, w.heap.size, 0, 2⟩ W E0_ok (h.at (Nat.le_refl _)) (by decide)
    rw [E0_line] at this
    unfold StrP at this
    rw [str_1] at this
    exact this)
  have CMP : Hid (∀ la lb lo lc ka kb ko kc W, EvR W E0 ⟨la, lb, lo, lc, ka, kb, ko, kc⟩ → EvR W E0 ⟨none, 0, 0, 0, some ⟨w.heap.size, 0, none⟩, w.heap.size, 0, 2⟩ → Calls Try.prog 14 #[.agg #[.int .i64 3, .int .i64 1, .int .i64 4, .int .i64 2, .int .i64 0, .int .u64 5, .slice la 0 lc, .slice ka 2 kc], .agg #[.int .i64 3, .int .i64 1, .int .i64 4, .int .i64 2, .int .i64 0, .int .u64 5, .slice none 0 0, .slice (some ⟨w.heap.size, 0, none⟩) 2 2]] W fun e w' => e = .returned (.bool true) ∧ Below W.heap.size W w') := Lib.hid (fun la lb lo lc ka kb ko kc W h1 h2 => by
    have := cmpE_any E0 E0 ⟨la, lb, lo, lc, ka, kb, ko, kc⟩ ⟨none, 0, 0, 0, some ⟨w.heap.size, 0, none⟩, w.heap.size, 0, 2⟩ W h1 h2 (by decide)
    rw [decide_eq_true rfl] at this
    exact this)
  have CAL : Hid (∀ W, Calls Try.prog 30 #[.agg #[.int .i64 1, .int .i64 0, .int .i64 0, .int .u64 7, .int .u64 0, .int .u64 0]] W fun e w' => e = .returned (.string ⟨#[49, 32, 48, 32, 48, 32, 55, 32, 48, 32, 48]⟩) ∧ Below W.heap.size W w') := Lib.hid (fun W => by
    have := call_any ⟨1, 0, 0, 7, 0, 0⟩ W ⟨by unfold I63; simp, by unfold I63; simp, by unfold I63; simp, by decide, by decide, by decide⟩
    unfold StrP at this
    rw [str_3] at this
    exact this)
  obtain ⟨w1, hw1⟩ : ∃ w1, (w.alloc (.cells #[.int .i64 8, .int .i64 2] 3)).alloc (.cells #[.int .i64 3, .int .i64 1, .int .i64 4, .int .i64 2, .int .i64 0, .int .u64 5, .slice none 0 0, .slice (some ⟨w.heap.size, 0, none⟩) 2 2] 44) = w1 := ⟨_, rfl⟩
  have s1 : (w.alloc (.cells #[.int .i64 8, .int .i64 2] 3)).heap.size = w.heap.size + 1 := by simp
  have hk : w1.heap[w.heap.size]? = some (.cells #[.int .i64 8, .int .i64 2] 3 (0, 0)) := by
    rw [← hw1]
    exact (Below.heap_alloc _ _ w.heap.size (by omega)).trans (heap_alloc_new _ _)
  have he : w1.heap[w.heap.size + 1]? = some (.cells #[.int .i64 3, .int .i64 1, .int .i64 4, .int .i64 2, .int .i64 0, .int .u64 5, .slice none 0 0, .slice (some ⟨w.heap.size, 0, none⟩) 2 2] 44 (0, 0)) := by
    rw [← hw1, ← s1]
    exact heap_alloc_new _ _
  have hb1 : Below w.heap.size w w1 := by rw [← hw1]; exact ((Below.refl _ _).alloc (Nat.le_refl _) _).alloc (by omega) _
  have hz : w1.heap.size = w.heap.size + 2 := by rw [← hw1]; simp
  have hr0 : EvR w1 E0 ⟨none, 0, 0, 0, some ⟨w.heap.size, 0, none⟩, w.heap.size, 0, 2⟩ := by
    have z1 : ¬ 0 < E0.lw.length := by decide
    refine ⟨fun h => absurd h z1, fun h => absurd h z1, Nat.zero_le _, fun i x hx => (by cases hx), fun _ => rfl, fun _ => (by rw [hz]; show w.heap.size < w.heap.size + 2; omega), Nat.le_refl _, fun i x hx => ?_⟩
    match i, hx with
    | 0, hx =>
      obtain rfl : (8 : Int) = x := by simpa [E0] using hx
      exact cell_of_heap hk rfl
    | 1, hx =>
      obtain rfl : (2 : Int) = x := by simpa [E0] using hx
      exact cell_of_heap hk rfl
    | i + 2, hx => simp [E0] at hx
  have HE := Lib.hid he
  have HB := Lib.hid hb1
  have HR := Lib.hid hr0
  have HZ := Lib.hid hz
  clear he hb1 hr0 hz hk s1
  go_enter Try.func15, Try.ntmps15
  go_wp2_with fail
  try rw [hw1]
  clear hw1
  refine (RD1.out w1).mono ?_
  rintro e w2 ⟨la, lb, lo, lc, ka, kb, ko, kc, rfl, hx2, hb2⟩
  have hz2 := hb2.size
  have he2 := (hb2.block (w.heap.size + 1) (by have := HZ.out; omega)).trans HE.out
  have hB2 := HB.out.trans (hb2.mono HB.out.size)
  have hR2 := HR.out.below hb2
  obtain ⟨w3, hw3⟩ : ∃ w3, w2.alloc (.cells #[.int .i64 3, .int .i64 1, .int .i64 4, .int .i64 2, .int .i64 0, .int .u64 5, .slice la 0 lc, .slice ka 2 kc] 44) = w3 := ⟨_, rfl⟩
  have hb3 : Below w2.heap.size w2 w3 := by rw [← hw3]; exact (Below.refl _ _).alloc (Nat.le_refl _) _
  have hx3 : w3.heap[w2.heap.size]? = some (.cells #[.int .i64 3, .int .i64 1, .int .i64 4, .int .i64 2, .int .i64 0, .int .u64 5, .slice la 0 lc, .slice ka 2 kc] 44 (0, 0)) := by rw [← hw3]; exact heap_alloc_new _ _
  have hlt : w.heap.size + 1 < w2.heap.size := lt_of_heap he2
  have he3 := (hb3.block (w.heap.size + 1) hlt).trans he2
  have HE3 := Lib.hid he3
  have HX3 := Lib.hid hx3
  have HB3 := Lib.hid (hB2.trans (hb3.mono hB2.size))
  have HR3 := Lib.hid (hR2.below hb3)
  have HXR3 := Lib.hid (hx2.below hb3)
  have HLT := Lib.hid hlt
  clear hb2 hz2 he2 hB2 hR2 hb3 hx3 hlt he3 hx2
  go_wp2_with fail
  try rw [hw3]
  clear hw3
  refine (RD2.out w3).mono ?_
  rintro e w4 ⟨rfl, hb4⟩
  obtain ⟨w5, hw5⟩ : ∃ w5, w4.alloc (.cells #[.int .i64 0, .int .i64 0, .int .i64 0, .int .i64 0, .int .i64 0, .int .u64 0, .slice none 0 0, .slice none 0 0] 44) = w5 := ⟨_, rfl⟩
  have hb5 : Below w3.heap.size w3 w5 := hb4.trans (by rw [← hw5]; exact (Below.refl _ _).alloc hb4.size _)
  have HE5 := Lib.hid ((hb5.block _ (lt_of_heap HE3.out)).trans HE3.out)
  have HX5 := Lib.hid ((hb5.block _ (lt_of_heap HX3.out)).trans HX3.out)
  have HB5 := Lib.hid (HB3.out.trans (hb5.mono HB3.out.size))
  have HR5 := Lib.hid (HR3.out.below hb5)
  have HXR5 := Lib.hid (HXR3.out.below hb5)
  have HW5 := Lib.hid hw5
  clear hb4 hb5 hw5
  have a0 : (w4.alloc (.cells #[.int .i64 0, .int .i64 0, .int .i64 0, .int .i64 0, .int .i64 0, .int .u64 0, .slice none 0 0, .slice none 0 0] 44)).cell? ⟨w.heap.size + 1, 0, none⟩ = some (.int .i64 3) := by rw [HW5.out]; exact cell_of_heap HE5.out rfl
  have a1 : (w4.alloc (.cells #[.int .i64 0, .int .i64 0, .int .i64 0, .int .i64 0, .int .i64 0, .int .u64 0, .slice none 0 0, .slice none 0 0] 44)).cell? ⟨w.heap.size + 1, 1, none⟩ = some (.int .i64 1) := by rw [HW5.out]; exact cell_of_heap HE5.out rfl
  have a2 : (w4.alloc (.cells #[.int .i64 0, .int .i64 0, .int .i64 0, .int .i64 0, .int .i64 0, .int .u64 0, .slice none 0 0, .slice none 0 0] 44)).cell? ⟨w.heap.size + 1, 2, none⟩ = some (.int .i64 4) := by rw [HW5.out]; exact cell_of_heap HE5.out rfl
  have a3 : (w4.alloc (.cells #[.int .i64 0, .int .i64 0, .int .i64 0, .int .i64 0, .int .i64 0, .int .u64 0, .slice none 0 0, .slice none 0 0] 44)).cell? ⟨w.heap.size + 1, 3, none⟩ = some (.int .i64 2) := by rw [HW5.out]; exact cell_of_heap HE5.out rfl
  have a4 : (w4.alloc (.cells #[.int .i64 0, .int .i64 0, .int .i64 0, .int .i64 0, .int .i64 0, .int .u64 0, .slice none 0 0, .slice none 0 0] 44)).cell? ⟨w.heap.size + 1, 4, none⟩ = some (.int .i64 0) := by rw [HW5.out]; exact cell_of_heap HE5.out rfl
  have a5 : (w4.alloc (.cells #[.int .i64 0, .int .i64 0, .int .i64 0, .int .i64 0, .int .i64 0, .int .u64 0, .slice none 0 0, .slice none 0 0] 44)).cell? ⟨w.heap.size + 1, 5, none⟩ = some (.int .u64 5) := by rw [HW5.out]; exact cell_of_heap HE5.out rfl
  have a6 : (w4.alloc (.cells #[.int .i64 0, .int .i64 0, .int .i64 0, .int .i64 0, .int .i64 0, .int .u64 0, .slice none 0 0, .slice none 0 0] 44)).cell? ⟨w.heap.size + 1, 6, none⟩ = some (.slice none 0 0) := by rw [HW5.out]; exact cell_of_heap HE5.out rfl
  have a7 : (w4.alloc (.cells #[.int .i64 0, .int .i64 0, .int .i64 0, .int .i64 0, .int .i64 0, .int .u64 0, .slice none 0 0, .slice none 0 0] 44)).cell? ⟨w.heap.size + 1, 7, none⟩ = some (.slice (some ⟨w.heap.size, 0, none⟩) 2 2) := by rw [HW5.out]; exact cell_of_heap HE5.out rfl
  go_wp2_with (first
    | (go_at_call 29; (try rw [HW5.out]); (with_reducible refine (EVT.out _ HR5.out).mono ?_); rintro e w6 ⟨rfl, hb6⟩; (have HE6 := Lib.hid ((hb6.block _ (lt_of_heap HE5.out)).trans HE5.out)); (have HX6 := Lib.hid ((hb6.block _ (lt_of_heap HX5.out)).trans HX5.out)); (have HB6 := Lib.hid (HB5.out.trans (hb6.mono HB5.out.size))); (have HR6 := Lib.hid (HR5.out.below hb6)); (have HXR6 := Lib.hid (HXR5.out.below hb6)); clear hb6; (have b0 := cell_of_heap HE6.out (k := 0) rfl); (have x0 := cell_of_heap HX6.out (k := 0) rfl); (have b1 := cell_of_heap HE6.out (k := 1) rfl); (have x1 := cell_of_heap HX6.out (k := 1) rfl); (have b2 := cell_of_heap HE6.out (k := 2) rfl); (have x2 := cell_of_heap HX6.out (k := 2) rfl); (have b3 := cell_of_heap HE6.out (k := 3) rfl); (have x3 := cell_of_heap HX6.out (k := 3) rfl); (have b4 := cell_of_heap HE6.out (k := 4) rfl); (have x4 := cell_of_heap HX6.out (k := 4) rfl); (have b5 := cell_of_heap HE6.out (k := 5) rfl); (have x5 := cell_of_heap HX6.out (k := 5) rfl); (have b6 := cell_of_heap HE6.out (k := 6) rfl); (have x6 := cell_of_heap HX6.out (k := 6) rfl); (have b7 := cell_of_heap HE6.out (k := 7) rfl); (have x7 := cell_of_heap HX6.out (k := 7) rfl))
    | (go_at_call 14; (with_reducible refine (CMP.out la lb lo lc ka kb ko kc _ HXR6.out HR6.out).mono ?_); rintro e w7 ⟨rfl, hb7⟩; (have HB7 := Lib.hid (HB6.out.trans (hb7.mono HB6.out.size))); clear hb7)
    | (go_at_call 30; (with_reducible refine (CAL.out _).mono ?_); rintro e w8 ⟨rfl, hb8⟩; (have HB8 := Lib.hid (HB7.out.trans (hb8.mono HB7.out.size))); clear hb8))
  go_ret
  exact ⟨rfl, HB8.out⟩
end Go.Proofs.Ythacohejdpjjeaa
