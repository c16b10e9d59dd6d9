/- history: the laws' example, two events; comparison of like rows; HistoryRight, walked. -/
import Derived.Test.YtigcmcmapbomoaaHG
import Derived.Test.YtigcmcmapbomoaaHJ
import Derived.Test.YtigcmcmapbomoaaHL
namespace Go.Proofs.Ytigcmcmapbomoaa
open Go.RowKit
set_option linter.unusedVariables false
set_option linter.unusedSimpArgs false

def E0 : EvL := ⟨0, 1, 4, 2, 0, 0, none, 0, 0, none, 0, 0⟩
def E1 : EvL := ⟨1, 2, 0, 1, 0, 0, none, 0, 0, none, 0, 0⟩
def twoL : List EvL := [E0, E1]
def twoT : List Int := [0, 1]
theorem two_evs {w : World} {b : Nat} (h : w.heap[b]? = some (.cells (E0.vs ++ E1.vs).toArray 37 (0, 0))) : EvsAt w b 0 twoL := by
  have hc : ∀ j v, (E0.vs ++ E1.vs)[j]? = some v → w.cell? ⟨b, j, none⟩ = some v := fun j v hv => by unfold World.cell?; rw [h]; simpa using hv
  intro i x hx
  match i, hx with
  | 0, hx =>
    obtain rfl : E0 = x := by simpa [twoL] using hx
    refine ⟨fun j hj => ?_, by unfold EvL.ok E0; simp⟩
    have e : (E0.vs ++ E1.vs)[j]? = E0.vs[j]? := List.getElem?_append_left hj
    obtain ⟨v, hv⟩ : ∃ v, E0.vs[j]? = some v := ⟨_, List.getElem?_eq_getElem hj⟩
    rw [hv, show 0 + 0 * 8 + j = j by omega]
    exact hc j v (e.trans hv)
  | 1, hx =>
    obtain rfl : E1 = x := by simpa [twoL] using hx
    refine ⟨fun j hj => ?_, by unfold EvL.ok E1; simp⟩
    have e : (E0.vs ++ E1.vs)[8 + j]? = E1.vs[j]? := by
      rw [List.getElem?_append_right (by show 8 ≤ 8 + j; omega), show 8 + j - E0.vs.length = j from Nat.add_sub_cancel_left 8 j]
    obtain ⟨v, hv⟩ : ∃ v, E1.vs[j]? = some v := ⟨_, List.getElem?_eq_getElem hj⟩
    rw [hv, show 0 + 1 * 8 + j = 8 + j by omega]
    exact hc _ v (e.trans hv)
  | i + 2, hx => simp [twoL] at hx

theorem pend_two : pend twoL = [1] := by decide
theorem of_two : ofL twoT 0 twoL = [0] := by decide
theorem ahead_two : aheadAt twoL 0 1 = false := by decide
theorem right_two : rgt 2 twoT twoL 4 = true := by rw [right_eq]; decide
theorem wrong_two : rgt 2 twoT twoL 3 = false := by rw [right_eq]; decide
theorem width_two : wdt twoL = 2 := by rw [width_eq]; decide

/-- what lies there in the example -/
structure TwoAt (B0 B1 : Nat) (w : World) : Prop where
  evs : EvsAt w B0 0 twoL
  ths : ThsAt w B1 0 twoT
  l0 : B0 < w.heap.size
  l1 : B1 < w.heap.size
theorem TwoAt.below {B0 B1 : Nat} {w w' : World} (h : TwoAt B0 B1 w) (hb : Below w.heap.size w w') : TwoAt B0 B1 w' :=
  ⟨h.evs.stays hb (fun _ => h.l0), h.ths.stays hb (fun _ => h.l1), Nat.lt_of_lt_of_le h.l0 hb.size, Nat.lt_of_lt_of_le h.l1 hb.size⟩
theorem one_row {w : World} {B : Nat} {v : Value} {x : Nat} (h : w.ownsRow B 3 1 v 1 (ivs [x])) : ∃ g cap, v = .slice (some ⟨g, 0, none⟩) 1 cap ∧ B ≤ g ∧ w.cell? ⟨g, 0, none⟩ = some (.int .i64 (x : Int)) := by
  obtain ⟨ao, g, cap, rfl, ha, hg, _, hc⟩ := owns_open h
  rw [ha (by omega)]
  exact ⟨g, cap, rfl, hg (by omega), hc 0 _ rfl⟩

set_option maxRecDepth 100000 in
set_option maxHeartbeats 2000000 in
theorem two_ok (w : World) : Calls Try.prog 5 #[] w fun e w' => e = .returned (.bool true) ∧ Below w.heap.size w w' := by
  obtain ⟨w1, hw1⟩ : ∃ w1, w1 = w.alloc (.cells (E0.vs ++ E1.vs).toArray 37) := ⟨_, rfl⟩
  obtain ⟨w2, hw2⟩ : ∃ w2, w2 = w1.alloc (.cells #[.int .i64 0, .int .i64 0, .int .i64 0, .int .u64 0, .int .u64 0, .int .u64 0, .int .i64 1, .int .i64 0, .int .i64 0, .int .u64 0, .int .u64 0, .int .u64 0] 39) := ⟨_, rfl⟩
  have hs1 : w1.heap.size = w.heap.size + 1 := by rw [hw1, World.size_alloc]
  have hs2 : w2.heap.size = w.heap.size + 1 + 1 := by rw [hw2, World.size_alloc, hs1]
  have hb1 : Below w.heap.size w w1 := by rw [hw1]; exact (Below.refl _ _).alloc (Nat.le_refl _) _
  have hb12 : Below w1.heap.size w1 w2 := by rw [hw2]; exact (Below.refl _ _).alloc (Nat.le_refl _) _
  have ht : TwoAt w.heap.size (w.heap.size + 1) w2 := by
    refine ⟨(two_evs (by rw [hw1]; exact heap_alloc_new' _ _)).stays hb12 (fun _ => by omega), fun i t hi => ?_, by omega, by omega⟩
    have hblk : w2.heap[w.heap.size + 1]? = some (.cells #[.int .i64 0, .int .i64 0, .int .i64 0, .int .u64 0, .int .u64 0, .int .u64 0, .int .i64 1, .int .i64 0, .int .i64 0, .int .u64 0, .int .u64 0, .int .u64 0] 39 (0, 0)) := by rw [← hs1, hw2]; exact heap_alloc_new' _ _
    match i, hi with
    | 0, hi =>
      obtain rfl : 0 = t := by simpa [twoT] using hi
      exact ⟨by unfold World.cell?; rw [hblk]; rfl, by omega⟩
    | 1, hi =>
      obtain rfl : 1 = t := by simpa [twoT] using hi
      exact ⟨by unfold World.cell?; rw [hblk]; rfl, by omega⟩
    | i + 2, hi => simp [twoT] at hi
  have hbz : Below w.heap.size w w2 := hb1.trans (hb12.mono (by omega))
  have HT := Lib.hid ht
  have K : ∀ W', Below w2.heap.size w2 W' → TwoAt w.heap.size (w.heap.size + 1) W' := fun W' h => HT.out.below h
  have R4 : Hid (∀ W', Below w2.heap.size w2 W' → Calls Try.prog 6 #[.int .i64 2, .slice (some ⟨w.heap.size + 1, 0, none⟩) 2 2, .slice (some ⟨w.heap.size, 0, none⟩) 2 2, .int .i64 4] W' fun e w' => e = .returned (.bool true) ∧ Below W'.heap.size W' w') :=
    Lib.hid (fun W' h => by have := right_ok 2 (some ⟨w.heap.size + 1, 0, none⟩) (w.heap.size + 1) 0 2 twoT (some ⟨w.heap.size, 0, none⟩) w.heap.size 0 2 twoL 4 W' (by omega) (by simp [twoT, maxLen]) (fun _ => rfl) (fun _ => (K W' h).l1) (K W' h).ths (by simp [twoL]) (fun _ => rfl) (fun _ => (K W' h).l0) (K W' h).evs
                            rw [right_two] at this; exact this)
  have R3 : Hid (∀ W', Below w2.heap.size w2 W' → Calls Try.prog 6 #[.int .i64 2, .slice (some ⟨w.heap.size + 1, 0, none⟩) 2 2, .slice (some ⟨w.heap.size, 0, none⟩) 2 2, .int .i64 3] W' fun e w' => e = .returned (.bool false) ∧ Below W'.heap.size W' w') :=
    Lib.hid (fun W' h => by have := right_ok 2 (some ⟨w.heap.size + 1, 0, none⟩) (w.heap.size + 1) 0 2 twoT (some ⟨w.heap.size, 0, none⟩) w.heap.size 0 2 twoL 3 W' (by omega) (by simp [twoT, maxLen]) (fun _ => rfl) (fun _ => (K W' h).l1) (K W' h).ths (by simp [twoL]) (fun _ => rfl) (fun _ => (K W' h).l0) (K W' h).evs
                            rw [wrong_two] at this; exact this)
  have RA : Hid (∀ W', Below w2.heap.size w2 W' → Calls Try.prog 10 #[.slice (some ⟨w.heap.size, 0, none⟩) 2 2, .int .i64 0, .int .i64 1] W' fun e w' => e = .returned (.bool false) ∧ Below W'.heap.size W' w') :=
    Lib.hid (fun W' h => by have := ahead_ok (some ⟨w.heap.size, 0, none⟩) w.heap.size 0 2 twoL 0 1 W' (by simp [twoL]) (fun _ => rfl) (fun _ => (K W' h).l0) (K W' h).evs
                            rw [ahead_two] at this; exact this)
  have RW : Hid (∀ W', Below w2.heap.size w2 W' → Calls Try.prog 14 #[.slice (some ⟨w.heap.size, 0, none⟩) 2 2] W' fun e w' => e = .returned (.int .i64 2) ∧ Below W'.heap.size W' w') :=
    Lib.hid (fun W' h => by have := width_ok (some ⟨w.heap.size, 0, none⟩) w.heap.size 0 2 twoL W' (by simp [twoL]) (fun _ => rfl) (fun _ => (K W' h).l0) (K W' h).evs
                            rw [width_two] at this; exact this)
  have RP : Hid (∀ W', Below w2.heap.size w2 W' → Calls Try.prog 12 #[.slice (some ⟨w.heap.size, 0, none⟩) 2 2] W' fun e w' => ∃ g cap, e = .returned (.slice (some ⟨g, 0, none⟩) 1 cap) ∧ w'.cell? ⟨g, 0, none⟩ = some (.int .i64 1) ∧ Below W'.heap.size W' w') :=
    Lib.hid (fun W' h => by
      have := pending_ok (some ⟨w.heap.size, 0, none⟩) w.heap.size 0 2 twoL W' (by simp [twoL]) (fun _ => rfl) (fun _ => (K W' h).l0) (K W' h).evs
      rw [pend_two] at this
      refine Calls.mono this ?_
      rintro e w' ⟨v, rfl, hv, hb⟩
      obtain ⟨g, cap, rfl, _, hc⟩ := one_row hv
      exact ⟨g, cap, rfl, hc, hb⟩)
  have RO : Hid (∀ W', Below w2.heap.size w2 W' → Calls Try.prog 13 #[.slice (some ⟨w.heap.size + 1, 0, none⟩) 2 2, .slice (some ⟨w.heap.size, 0, none⟩) 2 2, .int .i64 0] W' fun e w' => ∃ g cap, e = .returned (.slice (some ⟨g, 0, none⟩) 1 cap) ∧ Below W'.heap.size W' w') :=
    Lib.hid (fun W' h => by
      have := of_ok (some ⟨w.heap.size + 1, 0, none⟩) (w.heap.size + 1) 0 2 twoT (some ⟨w.heap.size, 0, none⟩) w.heap.size 0 2 twoL 0 W' (by simp [twoT, maxLen]) (fun _ => rfl) (fun _ => (K W' h).l1) (K W' h).ths (by simp [twoL]) (fun _ => rfl) (fun _ => (K W' h).l0) (K W' h).evs
      rw [of_two] at this
      refine Calls.mono this ?_
      rintro e w' ⟨v, rfl, hv, hb⟩
      obtain ⟨g, cap, rfl, _, hc⟩ := one_row hv
      exact ⟨g, cap, rfl, hb⟩)
  have HBZ := Lib.hid hbz
  have HS := Lib.hid hs2
  have HWW : Hid ((w.alloc (.cells #[.int .i64 0, .int .i64 1, .int .i64 4, .int .i64 2, .int .i64 0, .int .u64 0, .slice none 0 0, .slice none 0 0, .int .i64 1, .int .i64 2, .int .i64 0, .int .i64 1, .int .i64 0, .int .u64 0, .slice none 0 0, .slice none 0 0] 37)).alloc (.cells #[.int .i64 0, .int .i64 0, .int .i64 0, .int .u64 0, .int .u64 0, .int .u64 0, .int .i64 1, .int .i64 0, .int .i64 0, .int .u64 0, .int .u64 0, .int .u64 0] 39) = w2) := Lib.hid (by rw [hw2, hw1]; rfl)
  have HS1 := Lib.hid hs1
  clear K ht hbz hs1 hs2 hb1 hb12 HT hw1 hw2
  go_enter Try.func5, Try.ntmps5
  go_wp2_with (first
    | (go_at_call 12; (rw [HWW.out]); (with_reducible refine Calls.mono (RP.out _ (Below.refl _ _)) ?_); rintro e w3 ⟨g3, c3, rfl, hc3, hb3⟩; (have HC3 := Lib.hid hc3); clear hc3)
    | (go_at_call 6; (with_reducible refine Calls.mono (R4.out _ hb3) ?_); rintro e w4 ⟨rfl, hb4⟩; (have hb24 := hb3.trans (hb4.mono hb3.size)))
    | (go_at_call 6; (with_reducible refine Calls.mono (R3.out _ hb24) ?_); rintro e w5 ⟨rfl, hb5⟩; (have hb25 := hb24.trans (hb5.mono hb24.size)))
    | (go_at_call 10; (with_reducible refine Calls.mono (RA.out _ hb25) ?_); rintro e w6 ⟨rfl, hb6⟩; (have hb26 := hb25.trans (hb6.mono hb25.size)))
    | (go_at_call 14; (with_reducible refine Calls.mono (RW.out _ hb26) ?_); rintro e w7 ⟨rfl, hb7⟩; (have hb27 := hb26.trans (hb7.mono hb26.size)); (have hc7 := (((hb4.trans (hb5.mono hb4.size)).trans (hb6.mono (Nat.le_trans hb4.size hb5.size))).trans (hb7.mono (Nat.le_trans (Nat.le_trans hb4.size hb5.size) hb6.size))).cell (World.block_lt_of_cell? _ _ HC3.out) |>.trans HC3.out))
    | (go_at_call 13; (with_reducible refine Calls.mono (RO.out _ hb27) ?_); rintro e w8 ⟨g8, c8, rfl, hb8⟩; (have hb28 := hb27.trans (hb8.mono hb27.size))))
  go_ret
  exact ⟨rfl, HBZ.out.trans (hb28.mono (by have := HS.out; omega))⟩

set_option maxRecDepth 100000 in
set_option maxHeartbeats 2000000 in
theorem history_right (n k : Int) (aT : Option Addr) (bT oT cT : Nat) (ts : List Int) (ao : Option Addr) (b o c : Nat) (l : List EvL) (w : World) (hk : -9223372036854775808 ≤ k ∧ k ≤ 9223372036854775807)
    (htl : ts.length ≤ maxLen) (hta : 0 < ts.length → aT = some ⟨bT, oT, none⟩) (htb : 0 < ts.length → bT < w.heap.size) (htc : ThsAt w bT oT ts)
    (hml : l.length ≤ maxLen) (ha : 0 < l.length → ao = some ⟨b, o, none⟩) (hb : 0 < l.length → b < w.heap.size) (hc : EvsAt w b o l) :
    Calls Try.prog 3 #[.agg #[.int .i64 n, .int .i64 k], .slice aT ts.length cT, .slice ao l.length c] w fun e w' => e = .returned (.bool true) ∧ Below w.heap.size w w' := by
  have hmx : l.length ≤ 9223372036854775807 := Nat.le_trans hml (by unfold maxLen; omega)
  have RT : Hid (∀ W', Calls Try.prog 5 #[] W' fun e w' => e = .returned (.bool true) ∧ Below W'.heap.size W' w') := Lib.hid two_ok
  by_cases hl : l.length ≤ 100
  · have d1 : decide ((100 : Int) < (l.length : Int)) = false := decide_eq_false (by omega)
    have d1n : decide (100 < l.length) = false := decide_eq_false (by omega)
    have K : ∀ W', Below w.heap.size w W' → ThsAt W' bT oT ts ∧ (0 < ts.length → bT < W'.heap.size) ∧ EvsAt W' b o l ∧ (0 < l.length → b < W'.heap.size) := fun W' h => ⟨htc.stays h htb, fun h0 => Nat.lt_of_lt_of_le (htb h0) h.size, hc.stays h hb, fun h0 => Nat.lt_of_lt_of_le (hb h0) h.size⟩
    have RP : Hid (∀ W', Below w.heap.size w W' → Calls Try.prog 6 #[.int .i64 n, .slice aT ts.length cT, .slice ao l.length c, .int .i64 k] W' fun e w' => e = .returned (.bool (rrgt n ts l k)) ∧ Below W'.heap.size W' w') :=
      Lib.hid (fun W' h => by have := right_ok n aT bT oT cT ts ao b o c l k W' hk htl hta (K W' h).2.1 (K W' h).1 hl ha (K W' h).2.2.2 (K W' h).2.2.1
                              rw [right_eq] at this; exact this)
    have RR : Hid (∀ W', Below w.heap.size w W' → Calls Try.prog 7 #[.int .i64 n, .slice aT ts.length cT, .slice ao l.length c, .int .i64 k] W' fun e w' => e = .returned (.bool (rrgt n ts l k)) ∧ Below W'.heap.size W' w') :=
      Lib.hid (fun W' h => rright_ok n aT bT oT cT ts ao b o c l k W' hk htl hta (K W' h).2.1 (K W' h).1 hl ha (K W' h).2.2.2 (K W' h).2.2.1)
    clear K hta htb htc ha hb hc
    generalize rrgt n ts l k = R at *
    obtain ⟨w0, hw0⟩ : ∃ w0, w0 = w.alloc (.cells #[.int .i64 n, .int .i64 k] 22) := ⟨_, rfl⟩
    have hb0 : Below w.heap.size w w0 := by rw [hw0]; exact (Below.refl _ _).alloc (Nat.le_refl _) _
    have hs0 : w0.heap.size = w.heap.size + 1 := by rw [hw0, World.size_alloc]
    have c0 : w0.cell? ⟨w.heap.size, 0, none⟩ = some (.int .i64 n) := by rw [hw0]; exact World.cell?_alloc_at _ _ _ _ rfl
    have c1 : w0.cell? ⟨w.heap.size, 1, none⟩ = some (.int .i64 k) := by rw [hw0]; exact World.cell?_alloc_at _ _ _ _ rfl
    have HW := Lib.hid hw0
    have HB0 := Lib.hid hb0
    have HS0 := Lib.hid hs0
    clear hw0 hb0 hs0
    have p0 : ∀ p : BW w0.heap.size w0, p.v.cell? ⟨w.heap.size, 0, none⟩ = some (.int .i64 n) := fun p => p.cell (by have := HS0.out; show w.heap.size < _; omega) c0
    have p1 : ∀ p : BW w0.heap.size w0, p.v.cell? ⟨w.heap.size, 1, none⟩ = some (.int .i64 k) := fun p => p.cell (by have := HS0.out; show w.heap.size < _; omega) c1
    have RPp : Hid (∀ p : BW w0.heap.size w0, Calls Try.prog 6 #[.int .i64 n, .slice aT ts.length cT, .slice ao l.length c, .int .i64 k] p.v fun e w' => e = .returned (.bool R) ∧ Below p.v.heap.size p.v w') := Lib.hid (fun p => RP.out _ (HB0.out.trans (p.h.mono HB0.out.size)))
    have RRp : Hid (∀ p : BW w0.heap.size w0, Calls Try.prog 7 #[.int .i64 n, .slice aT ts.length cT, .slice ao l.length c, .int .i64 k] p.v fun e w' => e = .returned (.bool R) ∧ Below p.v.heap.size p.v w') := Lib.hid (fun p => RR.out _ (HB0.out.trans (p.h.mono HB0.out.size)))
    clear RP RR c0 c1
    have hRR : (R == R) = true := by simp
    have hRR2 : decide (R = R) = true := by simp
    go_enter Try.func3, Try.ntmps3
    go_wp2
    rw [← HW.out]
    refine wp_region_low (B := w0.heap.size) (w := w0) (by kernel_rfl) (by kernel_rfl) ?_
    repeat (go_big_quiet_step (first | (go_at_call 6; exact low_call (RPp.out _) (Nat.le_refl _)) | (go_at_call 7; exact low_call (RRp.out _) (Nat.le_refl _)) | (go_at_call 5; exact low_call (RT.out _) (Nat.le_refl _))))
    refine wpQuiet_nil ?_
    intro W1 hw'
    obtain ⟨pq, eq1⟩ := hw'
    have hb1 := pq.h
    rw [← eq1] at hb1
    clear eq1 pq
    go_wp2
    go_ret
    exact ⟨rfl, HB0.out.trans (hb1.mono HB0.out.size)⟩
  · have d1 : decide ((100 : Int) < (l.length : Int)) = true := decide_eq_true (by omega)
    have d1n : decide (100 < l.length) = true := decide_eq_true (by omega)
    clear hc htc
    go_enter Try.func3, Try.ntmps3
    go_wp2_with (go_at_call 5; refine (RT.out _).mono ?_; rintro e w1 ⟨rfl, hb1⟩)
    go_ret
    exact ⟨rfl, ((Below.refl _ _).alloc (Nat.le_refl _) _).trans (hb1.mono (by simp))⟩
end Go.Proofs.Ytigcmcmapbomoaa
