/- Walk of the law TextTells: a line of an event and a line of a call, both ways of telling. -/
import Derived.Test.YtgmgpbplgiicoaaCA
import Derived.Test.YtgmgpbplgiicoaaMN
import Derived.Test.YtgmgpbplgiicoaaHQ
import Derived.Deep.Cut
namespace Go.Proofs.Ytgmgpbplgiicoaa
open Go.RowKit Go.Lib Go.Sort

set_option maxHeartbeats 2000000 in
set_option maxRecDepth 100000 in
theorem tells_any (x : EvX) (s : EvS) (c : CaX) (w : World) (hx : x.Ok) (hc : c.Ok) (hs : EvR w x s) :
    Calls Try.prog 3 #[evV x s, caV c] w fun e w' => e = .returned (.bool true) ∧ Below w.heap.size w w' := by
  have HT := Lib.hid three_any
  have hb0 : Below w.heap.size w ((w.alloc (evO x s)).alloc (.cells #[.int .i64 c.th, .int .i64 c.ob, .int .i64 c.kd, .int .u64 (c.a : Int), .int .u64 (c.b : Int), .int .u64 (c.c : Int)] 31)) := ((Below.refl _ _).alloc (Nat.le_refl _) _).alloc (by simp) _
  have s1 : (w.alloc (evO x s)).heap.size = w.heap.size + 1 := by simp
  obtain ⟨w1, hw1⟩ : ∃ w1, (w.alloc (evO x s)).alloc (.cells #[.int .i64 c.th, .int .i64 c.ob, .int .i64 c.kd, .int .u64 (c.a : Int), .int .u64 (c.b : Int), .int .u64 (c.c : Int)] 31) = w1 := ⟨_, rfl⟩
  have he : w1.heap[w.heap.size]? = some (.cells #[.int .i64 x.ca, .int .i64 x.iv, .int .i64 x.rs, .int .i64 x.st, .int .i64 x.er, .int .u64 (x.vl : Int), .slice s.la x.lw.length s.lc, .slice s.ka x.kw.length s.kc] 29 (0, 0)) := by
    rw [← hw1]
    exact (Below.heap_alloc _ _ w.heap.size (by omega)).trans (heap_alloc_new _ _)
  have hk : w1.heap[w.heap.size + 1]? = some (.cells #[.int .i64 c.th, .int .i64 c.ob, .int .i64 c.kd, .int .u64 (c.a : Int), .int .u64 (c.b : Int), .int .u64 (c.c : Int)] 31 (0, 0)) := by
    rw [← hw1, ← s1]
    exact heap_alloc_new _ _
  rw [hw1] at hb0
  have hz : w1.heap.size = w.heap.size + 2 := by rw [← hw1]; simp
  have e6 := cell_of_heap he (k := 6) rfl
  have e7 := cell_of_heap he (k := 7) rfl
  have C1 : Hid (x.lw.length ≤ 1000 → x.kw.length ≤ 1000 → ∀ p : BW w1.heap.size w1, Calls Try.prog 8 #[evV x s] p.v fun e w' => e = .returned (.string (strB (evLine x))) ∧ Below p.v.heap.size p.v w') := Lib.hid (fun g1 g2 p => by
    have h := event_any x s p.v hx (((hs.below hb0).below p.h).at (Nat.le_refl _)) (by omega)
    unfold StrP at h
    exact h)
  have C2 : Hid (x.lw.length ≤ 1000 → x.kw.length ≤ 1000 → ∀ p : BW w1.heap.size w1, Calls Try.prog 9 #[evV x s] p.v fun e w' => e = .returned (.string (strB (evLine x))) ∧ Below p.v.heap.size p.v w') := Lib.hid (fun g1 g2 p => by
    have h := revent_any x s p.v hx ((hs.below hb0).below p.h) ⟨by omega, by omega⟩
    unfold StrP at h
    exact h)
  have C3 : Hid (∀ p : BW w1.heap.size w1, Calls Try.prog 10 #[caV c] p.v fun e w' => e = .returned (.string (strB (caLine c))) ∧ Below p.v.heap.size p.v w') := Lib.hid (fun p => by
    have h := call_any c p.v hc
    unfold StrP at h
    exact h)
  have C4 : Hid (∀ p : BW w1.heap.size w1, Calls Try.prog 11 #[caV c] p.v fun e w' => e = .returned (.string (strB (caLine c))) ∧ Below p.v.heap.size p.v w') := Lib.hid (fun p => by
    have h := rcall_any c p.v hc
    unfold StrP at h
    exact h)
  have HE := Lib.hid he
  have HB0 := Lib.hid hb0
  have HK := Lib.hid hk
  have HZ := Lib.hid hz
  obtain ⟨ca, iv, rs, st, er, vl, lw, kw⟩ := x
  obtain ⟨la, lb, lo, lc, ka, kb, ko, kc⟩ := s
  obtain ⟨th, ob, kd, a, b, cc⟩ := c
  dsimp only [evO, evV, caV] at hw1 C1 C2 C3 C4 HE HK e6 e7 ⊢
  clear he hk hz hb0 hs hx hc s1
  generalize strB (evLine ⟨ca, iv, rs, st, er, vl, lw, kw⟩) = P at C1 C2
  generalize strB (caLine ⟨th, ob, kd, a, b, cc⟩) = R at C3 C4
  go_enter Try.func3, Try.ntmps3
  by_cases g1 : lw.length ≤ 1000
  · have d1 : ¬ (1000 : Int) < (lw.length : Int) := by omega
    have d1' : ¬ 1000 < lw.length := by omega
    by_cases g2 : kw.length ≤ 1000
    · have d2 : ¬ (1000 : Int) < (kw.length : Int) := by omega
      have d2' : ¬ 1000 < kw.length := by omega
      have D1 := Lib.hid (C1.out g1 g2)
      have D2 := Lib.hid (C2.out g1 g2)
      clear C1 C2 g1 g2
      go_upto_region 3 with fail
      try rw [hw1]
      clear hw1
      have l0 : ∀ p : BW w1.heap.size w1, p.v.cell? ⟨w.heap.size, 0, none⟩ = some (.int .i64 ca) := fun p => p.cell (by rw [HZ.out]; show w.heap.size < w.heap.size + 2; omega) (cell_of_heap HE.out rfl)
      have l1 : ∀ p : BW w1.heap.size w1, p.v.cell? ⟨w.heap.size, 1, none⟩ = some (.int .i64 iv) := fun p => p.cell (by rw [HZ.out]; show w.heap.size < w.heap.size + 2; omega) (cell_of_heap HE.out rfl)
      have l2 : ∀ p : BW w1.heap.size w1, p.v.cell? ⟨w.heap.size, 2, none⟩ = some (.int .i64 rs) := fun p => p.cell (by rw [HZ.out]; show w.heap.size < w.heap.size + 2; omega) (cell_of_heap HE.out rfl)
      have l3 : ∀ p : BW w1.heap.size w1, p.v.cell? ⟨w.heap.size, 3, none⟩ = some (.int .i64 st) := fun p => p.cell (by rw [HZ.out]; show w.heap.size < w.heap.size + 2; omega) (cell_of_heap HE.out rfl)
      have l4 : ∀ p : BW w1.heap.size w1, p.v.cell? ⟨w.heap.size, 4, none⟩ = some (.int .i64 er) := fun p => p.cell (by rw [HZ.out]; show w.heap.size < w.heap.size + 2; omega) (cell_of_heap HE.out rfl)
      have l5 : ∀ p : BW w1.heap.size w1, p.v.cell? ⟨w.heap.size, 5, none⟩ = some (.int .u64 (vl : Int)) := fun p => p.cell (by rw [HZ.out]; show w.heap.size < w.heap.size + 2; omega) (cell_of_heap HE.out rfl)
      have l6 : ∀ p : BW w1.heap.size w1, p.v.cell? ⟨w.heap.size, 6, none⟩ = some (.slice la lw.length lc) := fun p => p.cell (by rw [HZ.out]; show w.heap.size < w.heap.size + 2; omega) (cell_of_heap HE.out rfl)
      have l7 : ∀ p : BW w1.heap.size w1, p.v.cell? ⟨w.heap.size, 7, none⟩ = some (.slice ka kw.length kc) := fun p => p.cell (by rw [HZ.out]; show w.heap.size < w.heap.size + 2; omega) (cell_of_heap HE.out rfl)
      have k0 : ∀ p : BW w1.heap.size w1, p.v.cell? ⟨w.heap.size + 1, 0, none⟩ = some (.int .i64 th) := fun p => p.cell (by rw [HZ.out]; show w.heap.size + 1 < w.heap.size + 2; omega) (cell_of_heap HK.out rfl)
      have k1 : ∀ p : BW w1.heap.size w1, p.v.cell? ⟨w.heap.size + 1, 1, none⟩ = some (.int .i64 ob) := fun p => p.cell (by rw [HZ.out]; show w.heap.size + 1 < w.heap.size + 2; omega) (cell_of_heap HK.out rfl)
      have k2 : ∀ p : BW w1.heap.size w1, p.v.cell? ⟨w.heap.size + 1, 2, none⟩ = some (.int .i64 kd) := fun p => p.cell (by rw [HZ.out]; show w.heap.size + 1 < w.heap.size + 2; omega) (cell_of_heap HK.out rfl)
      have k3 : ∀ p : BW w1.heap.size w1, p.v.cell? ⟨w.heap.size + 1, 3, none⟩ = some (.int .u64 (a : Int)) := fun p => p.cell (by rw [HZ.out]; show w.heap.size + 1 < w.heap.size + 2; omega) (cell_of_heap HK.out rfl)
      have k4 : ∀ p : BW w1.heap.size w1, p.v.cell? ⟨w.heap.size + 1, 4, none⟩ = some (.int .u64 (b : Int)) := fun p => p.cell (by rw [HZ.out]; show w.heap.size + 1 < w.heap.size + 2; omega) (cell_of_heap HK.out rfl)
      have k5 : ∀ p : BW w1.heap.size w1, p.v.cell? ⟨w.heap.size + 1, 5, none⟩ = some (.int .u64 (cc : Int)) := fun p => p.cell (by rw [HZ.out]; show w.heap.size + 1 < w.heap.size + 2; omega) (cell_of_heap HK.out rfl)
      refine wp_region_low (B := w1.heap.size) (w := w1) (by kernel_rfl) (by kernel_rfl) ?_
      repeat (go_big_quiet_step (first
        | (go_at_call 8; with_reducible exact low_call (D1.out _) (Nat.le_refl _))
        | (go_at_call 9; with_reducible exact low_call (D2.out _) (Nat.le_refl _))
        | (go_at_call 10; with_reducible exact low_call (C3.out _) (Nat.le_refl _))
        | (go_at_call 11; with_reducible exact low_call (C4.out _) (Nat.le_refl _))
        | (go_at_call 7; with_reducible exact low_call (HT.out _) (Nat.le_refl _))))
      refine wpQuiet_nil ?_
      intro w2 hw'
      obtain ⟨pq, eq1⟩ := hw'
      have hb2 := pq.h
      rw [← eq1] at hb2
      clear eq1 pq
      have HB2 := Lib.hid (HB0.out.trans (hb2.mono HB0.out.size))
      clear hb2
      go_wp2_with fail
      go_ret
      exact ⟨rfl, HB2.out⟩
    · have d2 : (1000 : Int) < (kw.length : Int) := by omega
      have d2' : 1000 < kw.length := by omega
      clear C1 C2 C3 C4 g1 g2
      go_upto_region 2 with fail
      try rw [hw1]
      clear hw1
      go_wp2_with fail
      refine (HT.out _).mono ?_
      rintro e w2 ⟨rfl, hb⟩
      have HB2 := Lib.hid (HB0.out.trans (hb.mono HB0.out.size))
      clear hb
      go_wp2_with fail
      go_ret
      exact ⟨rfl, HB2.out⟩
  · have d1 : (1000 : Int) < (lw.length : Int) := by omega
    have d1' : 1000 < lw.length := by omega
    clear C1 C2 C3 C4 g1
    go_upto_region 2 with fail
    try rw [hw1]
    clear hw1
    go_wp2_with fail
    refine (HT.out _).mono ?_
    rintro e w2 ⟨rfl, hb⟩
    have HB2 := Lib.hid (HB0.out.trans (hb.mono HB0.out.size))
    clear hb
    go_wp2_with fail
    go_ret
    exact ⟨rfl, HB2.out⟩
end Go.Proofs.Ytgmgpbplgiicoaa
