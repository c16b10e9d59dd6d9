/- Walk of check. -/
import Derived.Test.YticaheiomidanaaIH
namespace Go.Proofs.Yticaheiomidanaa
open Go.RowKit
set_option maxHeartbeats 2000000 in
set_option maxRecDepth 100000 in
theorem check_any (x : ScI) (s : Spots) (w : World) (h : ScAt w x s) :
    Calls Try.prog 24 #[scV x s] w fun e w' => e = .returned (.int .i64 (wrong x)) ∧ Below w.heap.size w w' := by
  have hb0 : Below w.heap.size w (w.alloc (.cells #[.int .i64 x.n, .slice s.sa x.specs.length s.sc, .slice s.ca x.calls.length s.cc, .slice s.pa x.picks.length s.pc] 26)) := (Below.refl _ _).alloc (Nat.le_refl _) _
  have HN0 := Lib.hid (heap_new w (.cells #[.int .i64 x.n, .slice s.sa x.specs.length s.sc, .slice s.ca x.calls.length s.cc, .slice s.pa x.picks.length s.pc] 26))
  have HH := Lib.hid h
  have HB0 := Lib.hid hb0
  have hls := h.ls
  have hlc := h.lc
  have hlp := h.lp
  clear h hb0
  have HR : Hid (∀ wr, Below w.heap.size w wr → 1 ≤ x.n → x.n ≤ 16 → Calls Try.prog 34 #[scV x s] wr fun e w' => e = .returned (.bool (room x)) ∧ Below wr.heap.size wr w') := Lib.hid (fun wr hb h1 h2 => hasRoom_any x s wr (HH.out.stays hb) h1 h2)
  obtain ⟨n, specs, calls, picks⟩ := x
  obtain ⟨sa, sb, so, sc, ca, cb, co, cc, pa, pb, po, pc⟩ := s
  dsimp only at *
  clear HH
  by_cases h1 : n < 1
  · have E : Hid (wrong ⟨n, specs, calls, picks⟩ = 1) := Lib.hid (by unfold wrong; dsimp only; rw [if_pos (Or.inl h1)])
    go_enter Try.func24, Try.ntmps24
    go_wp2_with fail
    go_ret
    rw [E.out]
    exact ⟨rfl, HB0.out⟩
  by_cases h2 : 16 < n
  · have E : Hid (wrong ⟨n, specs, calls, picks⟩ = 1) := Lib.hid (by unfold wrong; dsimp only; rw [if_pos (Or.inr h2)])
    go_enter Try.func24, Try.ntmps24
    go_wp2_with fail
    go_ret
    rw [E.out]
    exact ⟨rfl, HB0.out⟩
  have hn : ¬ (n < 1 ∨ 16 < n) := by omega
  have HN := Lib.hid hn
  clear hn
  by_cases h3 : 8 < specs.length
  · have d3 : (8 : Int) < specs.length := by omega
    have E : Hid (wrong ⟨n, specs, calls, picks⟩ = 3) := Lib.hid (by unfold wrong; dsimp only; rw [if_neg HN.out, if_pos (Or.inl h3)])
    go_enter Try.func24, Try.ntmps24
    go_wp2_with fail
    go_ret
    rw [E.out]
    exact ⟨rfl, HB0.out⟩
  have d3 : ¬ (8 : Int) < specs.length := by omega
  by_cases h4 : 1000 < calls.length
  · have d4 : (1000 : Int) < calls.length := by omega
    have E : Hid (wrong ⟨n, specs, calls, picks⟩ = 3) := Lib.hid (by unfold wrong; dsimp only; rw [if_neg HN.out, if_pos (Or.inr (Or.inl h4))])
    go_enter Try.func24, Try.ntmps24
    go_wp2_with fail
    go_ret
    rw [E.out]
    exact ⟨rfl, HB0.out⟩
  have d4 : ¬ (1000 : Int) < calls.length := by omega
  by_cases h5 : 65536 < picks.length
  · have d5 : (65536 : Int) < picks.length := by omega
    have E : Hid (wrong ⟨n, specs, calls, picks⟩ = 3) := Lib.hid (by unfold wrong; dsimp only; rw [if_neg HN.out, if_pos (Or.inr (Or.inr h5))])
    go_enter Try.func24, Try.ntmps24
    go_wp2_with fail
    go_ret
    rw [E.out]
    exact ⟨rfl, HB0.out⟩
  have d5 : ¬ (65536 : Int) < picks.length := by omega
  have hm : ¬ (8 < specs.length ∨ 1000 < calls.length ∨ 65536 < picks.length) := by omega
  have HM := Lib.hid hm
  clear hm
  have HC := Lib.hid (HR.out _ HB0.out (by omega) (by omega))
  cases hr : room ⟨n, specs, calls, picks⟩
  · have E : Hid (wrong ⟨n, specs, calls, picks⟩ = 10) := Lib.hid (by unfold wrong; dsimp only; rw [if_neg HN.out, if_neg HM.out, if_pos hr])
    rw [hr] at HC
    clear hr
    go_enter Try.func24, Try.ntmps24
    go_wp2_with fail
    refine HC.out.mono ?_
    rintro e w1 ⟨rfl, hb⟩
    have HB1 := Lib.hid (HB0.out.trans (hb.mono HB0.out.size))
    clear hb
    go_wp2_with fail
    go_ret
    rw [E.out]
    exact ⟨rfl, HB1.out⟩
  · have E : Hid (wrong ⟨n, specs, calls, picks⟩ = 0) := Lib.hid (by unfold wrong; dsimp only; rw [if_neg HN.out, if_neg HM.out, if_neg (by rw [hr]; decide)])
    rw [hr] at HC
    clear hr
    go_enter Try.func24, Try.ntmps24
    go_wp2_with fail
    refine HC.out.mono ?_
    rintro e w1 ⟨rfl, hb⟩
    have HB1 := Lib.hid (HB0.out.trans (hb.mono HB0.out.size))
    clear hb
    go_wp2_with fail
    go_ret
    rw [E.out]
    exact ⟨rfl, HB1.out⟩
end Go.Proofs.Yticaheiomidanaa
