/- history: the small functions. -/
import Derived.Test.YtkkkpobdjhmgfaaGreatDoorHO
import Derived.Test.YtkkkpobdjhmgfaaGreatDoorHQ
import Derived.WalkLawsBesides
import Derived.WalkSmall
import Derived.Laws.EntriesVeiled
namespace Go.Proofs.YtkkkpobdjhmgfaaGreatDoor
set_option maxRecDepth 100000
open Go.RowKit
set_option linter.unusedVariables false
set_option linter.unusedSimpArgs false

/-- an event as a value -/
def EvL.v (x : EvL) : Value := .agg #[.int .i64 x.ca, .int .i64 x.iv, .int .i64 x.rs, .int .i64 x.st, .int .i64 x.er, .int .u64 (x.vl : Int), .slice x.la x.nl x.cl, .slice x.ka x.nk x.ck]
/-- the threads of calls that lie in a row -/
def ThsAt (w : World) (b o : Nat) (l : List Int) : Prop := ∀ (i : Nat) (t : Int), l[i]? = some t → w.cell? ⟨b, o + i * 6, none⟩ = some (.int .i64 t) ∧ (-9223372036854775808 ≤ t ∧ t ≤ 9223372036854775807)
theorem ThsAt.stays {w wr : World} {b o B : Nat} {l : List Int} (h : ThsAt w b o l) (hb : Below B w wr) (hB : 0 < l.length → b < B) : ThsAt wr b o l := by
  intro i x hx
  have hl : 0 < l.length := by have := (List.getElem?_eq_some_iff.1 hx).1; omega
  obtain ⟨h1, h2⟩ := h i x hx
  exact ⟨(hb.cell (p := ⟨b, _, none⟩) (hB hl)).trans h1, h2⟩

def done (x : EvL) : Bool := decide (x.rs ≠ 0)
/-- the thread of an event's call -/
def thr (ts : List Int) (x : EvL) : Option Int := if 0 ≤ x.ca ∧ x.ca < ts.length then ts[x.ca.toNat]? else none
def timely (x : EvL) (ticks : Int) : Bool := decide (1 ≤ x.iv ∧ x.iv ≤ ticks ∧ 1 ≤ x.st) && (decide (x.rs = 0) || decide (x.iv ≤ x.rs ∧ x.rs ≤ ticks ∧ x.st ≤ x.rs - x.iv + 1))

set_option maxHeartbeats 400000 in
theorem done_ok (x : EvL) (w : World) : Calls Tryz.prog 43 #[x.v] w fun e w' => e = .returned (.bool (done x)) ∧ Below w.heap.size w w' := by
  unfold EvL.v done
  obtain ⟨ca, iv, rs, st, er, vl, la, nl, cl, ka, nk, ck⟩ := x
  dsimp only
  go_enter Tryz.func43, Tryz.ntmps43
  go_wp2
  go_ret
  exact ⟨ret_bool (by rw [Bool.eq_iff_iff]; simp), (Below.refl _ _).alloc (Nat.le_refl _) _⟩

set_option maxHeartbeats 400000 in
theorem thr_ok (x : EvL) (ao : Option Addr) (b o c : Nat) (ts : List Int) (w : World) (hl : ts.length ≤ maxLen) (ha : 0 < ts.length → ao = some ⟨b, o, none⟩) (hb : 0 < ts.length → b < w.heap.size) (hc : ThsAt w b o ts) (hx : x.ok) :
    Calls Tryz.prog 22 #[.slice ao ts.length c, x.v] w fun e w' => e = .returned (.tuple #[.int .i64 ((thr ts x).getD 0), .bool (thr ts x).isSome]) ∧ Below w.heap.size w w' := by
  have hm : maxLen = 140737488355327 ∨ True := .inr trivial
  obtain ⟨⟨hx1, hx2⟩, _⟩ := hx
  obtain ⟨y, hy⟩ : ∃ y, y = thr ts x := ⟨_, rfl⟩
  rw [← hy]
  unfold thr at hy
  have HY := Lib.hid hy
  have HC := Lib.hid hc
  have HA := Lib.hid ha
  have HB := Lib.hid hb
  clear hy hc ha hb hm
  unfold EvL.v
  obtain ⟨ca, iv, rs, st, er, vl, la, nl, cl, ka, nk, ck⟩ := x
  dsimp only at *
  by_cases h1 : ca < 0
  · have h2 : decide (ca < 0) = true := by simpa using h1
    have hn := HY.out
    rw [if_neg (by omega)] at hn
    subst hn
    go_enter Tryz.func22, Tryz.ntmps22
    go_wp2
    go_ret2
    exact ⟨rfl, (Below.refl _ _).alloc (Nat.le_refl _) _⟩
  · by_cases h3 : ca < (ts.length : Int)
    · obtain ⟨t, ht⟩ : ∃ t, ts[ca.toNat]? = some t := ⟨ts[ca.toNat]'(by omega), List.getElem?_eq_getElem _⟩
      have hn := HY.out
      rw [if_pos (by omega), ht] at hn
      subst hn
      obtain rfl := HA.out (by omega)
      have hbb := HB.out (by omega)
      have hcc := (HC.out _ _ ht).1
      obtain ⟨k, rfl⟩ : ∃ k : Nat, ca = k := ⟨ca.toNat, by omega⟩
      rw [Int.toNat_natCast] at hcc
      have hd1 : decide ((k : Int) < 0) = false := decide_eq_false (by omega)
      have hd2 : decide ((ts.length : Int) ≤ k) = false := decide_eq_false (by omega)
      have hk : k < ts.length := by omega
      clear ht h1 h3 HY
      go_enter Tryz.func22, Tryz.ntmps22
      go_wp2
      go_ret2
      exact ⟨rfl, (Below.refl _ _).alloc (Nat.le_refl _) _⟩
    · have hn := HY.out
      rw [if_neg (by omega)] at hn
      subst hn
      have hd1 : decide (ca < 0) = false := decide_eq_false (by omega)
      have hd2 : decide ((ts.length : Int) ≤ ca) = true := decide_eq_true (by omega)
      go_enter Tryz.func22, Tryz.ntmps22
      go_wp2
      go_ret2
      exact ⟨rfl, (Below.refl _ _).alloc (Nat.le_refl _) _⟩

theorem timely_iff (x : EvL) (k : Int) : timely x k = true ↔ (1 ≤ x.iv ∧ x.iv ≤ k ∧ 1 ≤ x.st) ∧ (x.rs = 0 ∨ (x.iv ≤ x.rs ∧ x.rs ≤ k ∧ x.st ≤ x.rs - x.iv + 1)) := by
  unfold timely; simp
set_option maxHeartbeats 1000000 in
theorem timely_ok (x : EvL) (k : Int) (w : World) (hx : x.ok) (hk : -9223372036854775808 ≤ k ∧ k ≤ 9223372036854775807) :
    Calls Tryz.prog 23 #[x.v, .int .i64 k] w fun e w' => e = .returned (.bool (timely x k)) ∧ Below w.heap.size w w' := by
  obtain ⟨_, ⟨v1, v2⟩, ⟨r1, r2⟩, ⟨s1, s2⟩, _⟩ := hx
  obtain ⟨y, hy⟩ : ∃ y, y = timely x k := ⟨_, rfl⟩
  rw [← hy]
  have HY : Hid (y = true ↔ (1 ≤ x.iv ∧ x.iv ≤ k ∧ 1 ≤ x.st) ∧ (x.rs = 0 ∨ (x.iv ≤ x.rs ∧ x.rs ≤ k ∧ x.st ≤ x.rs - x.iv + 1))) := Lib.hid (by rw [hy]; exact timely_iff x k)
  clear hy
  have HD : Hid (∀ w, Calls Tryz.prog 43 #[x.v] w fun e w' => e = .returned (.bool (done x)) ∧ Below w.heap.size w w') := Lib.hid (done_ok x)
  unfold EvL.v done at *
  obtain ⟨ca, iv, rs, st, er, vl, la, nl, cl, ka, nk, ck⟩ := x
  dsimp only at *
  by_cases h1 : iv < 1
  · have : y = false := by cases y with | false => rfl | true => have := HY.out.1 rfl; omega
    subst this
    have hd1 : decide (iv < 1) = true := decide_eq_true h1
    clear HY
    go_enter Tryz.func23, Tryz.ntmps23
    go_wp2
    go_ret
    exact ⟨rfl, (Below.refl _ _).alloc (Nat.le_refl _) _⟩
  have hd1 : decide (iv < 1) = false := decide_eq_false h1
  by_cases h2 : k < iv
  · have : y = false := by cases y with | false => rfl | true => have := HY.out.1 rfl; omega
    subst this
    have hd2 : decide (k < iv) = true := decide_eq_true h2
    clear HY
    go_enter Tryz.func23, Tryz.ntmps23
    go_wp2
    go_ret
    exact ⟨rfl, (Below.refl _ _).alloc (Nat.le_refl _) _⟩
  have hd2 : decide (k < iv) = false := decide_eq_false h2
  by_cases h3 : st < 1
  · have : y = false := by cases y with | false => rfl | true => have := HY.out.1 rfl; omega
    subst this
    have hd3 : decide (st < 1) = true := decide_eq_true h3
    clear HY
    go_enter Tryz.func23, Tryz.ntmps23
    go_wp2
    go_ret
    exact ⟨rfl, (Below.refl _ _).alloc (Nat.le_refl _) _⟩
  have hd3 : decide (st < 1) = false := decide_eq_false h3
  by_cases h4 : rs = 0
  · have : y = true := HY.out.2 ⟨⟨by omega, by omega, by omega⟩, .inl h4⟩
    subst this
    subst h4
    have hd5 : decide ((0 : Int) ≠ 0) = false := rfl
    rw [hd5] at HD
    clear HY hd5
    go_enter Tryz.func23, Tryz.ntmps23
    go_wp2_with (go_at_call 43; refine (HD.out _).mono ?_; rintro e w1 ⟨rfl, hb1⟩)
    go_ret
    exact ⟨rfl, ((Below.refl _ _).alloc (Nat.le_refl _) _).trans (hb1.mono (by simp))⟩
  have hd5 : decide (rs ≠ 0) = true := decide_eq_true h4
  rw [hd5] at HD
  have hb : y = decide ((iv ≤ rs ∧ rs ≤ k) ∧ st ≤ rs - iv + 1) := by
    rw [Bool.eq_iff_iff, HY.out, decide_eq_true_eq]; omega
  have HB := Lib.hid hb
  clear HY hb
  have arm : ∀ b : Bool, b = y → ∀ w', Below w.heap.size w w' → (Ending.returned (.bool b) = .returned (.bool y) ∧ Below w.heap.size w w') := fun b hb w' hw => ⟨by rw [hb], hw⟩
  by_cases h6 : iv ≤ rs
  · by_cases h7 : rs ≤ k
    · have hsub : IntKind.i64.wrap (rs - iv) = rs - iv := IntWalk.i64_in _ (by omega)
      have hadd : IntKind.i64.wrap (rs - iv + 1) = rs - iv + 1 := IntWalk.i64_in _ (by omega)
      have hd6 : decide (iv ≤ rs) = true := decide_eq_true h6
      have hd7 : decide (rs ≤ k) = true := decide_eq_true h7
      by_cases h8 : st ≤ rs - iv + 1
      · have hd8 : decide (st ≤ rs - iv + 1) = true := decide_eq_true h8
        have HY : Hid (true = y) := Lib.hid (by rw [HB.out, decide_eq_true (⟨⟨h6, h7⟩, h8⟩ : (iv ≤ rs ∧ rs ≤ k) ∧ st ≤ rs - iv + 1)])
        clear HB arm
        rw [← HY.out]
        go_enter Tryz.func23, Tryz.ntmps23
        go_wp2_with (go_at_call 43; refine (HD.out _).mono ?_; rintro e w1 ⟨rfl, hb1⟩; (have l1 : w1.cell? ⟨w.heap.size, 1, none⟩ = some (.int .i64 iv) := (hb1.cell (by simp)).trans (World.cell?_alloc_at _ _ _ _ rfl)); (have l2 : w1.cell? ⟨w.heap.size, 2, none⟩ = some (.int .i64 rs) := (hb1.cell (by simp)).trans (World.cell?_alloc_at _ _ _ _ rfl)); (have l3 : w1.cell? ⟨w.heap.size, 3, none⟩ = some (.int .i64 st) := (hb1.cell (by simp)).trans (World.cell?_alloc_at _ _ _ _ rfl)))
        go_ret
        exact ⟨rfl, ((Below.refl _ _).alloc (Nat.le_refl _) _).trans (hb1.mono (by simp))⟩
      · have hd8 : decide (st ≤ rs - iv + 1) = false := decide_eq_false h8
        have HY : Hid (false = y) := Lib.hid (by rw [HB.out, decide_eq_false (fun h => h8 h.2)])
        clear HB arm
        rw [← HY.out]
        go_enter Tryz.func23, Tryz.ntmps23
        go_wp2_with (go_at_call 43; refine (HD.out _).mono ?_; rintro e w1 ⟨rfl, hb1⟩; (have l1 : w1.cell? ⟨w.heap.size, 1, none⟩ = some (.int .i64 iv) := (hb1.cell (by simp)).trans (World.cell?_alloc_at _ _ _ _ rfl)); (have l2 : w1.cell? ⟨w.heap.size, 2, none⟩ = some (.int .i64 rs) := (hb1.cell (by simp)).trans (World.cell?_alloc_at _ _ _ _ rfl)); (have l3 : w1.cell? ⟨w.heap.size, 3, none⟩ = some (.int .i64 st) := (hb1.cell (by simp)).trans (World.cell?_alloc_at _ _ _ _ rfl)))
        go_ret
        exact ⟨rfl, ((Below.refl _ _).alloc (Nat.le_refl _) _).trans (hb1.mono (by simp))⟩
    · have hd6 : decide (iv ≤ rs) = true := decide_eq_true h6
      have hd7 : decide (rs ≤ k) = false := decide_eq_false h7
      have HY : Hid (false = y) := Lib.hid (by rw [HB.out, decide_eq_false (fun h => h7 h.1.2)])
      clear HB arm
      rw [← HY.out]
      go_enter Tryz.func23, Tryz.ntmps23
      go_wp2_with (go_at_call 43; refine (HD.out _).mono ?_; rintro e w1 ⟨rfl, hb1⟩; (have l1 : w1.cell? ⟨w.heap.size, 1, none⟩ = some (.int .i64 iv) := (hb1.cell (by simp)).trans (World.cell?_alloc_at _ _ _ _ rfl)); (have l2 : w1.cell? ⟨w.heap.size, 2, none⟩ = some (.int .i64 rs) := (hb1.cell (by simp)).trans (World.cell?_alloc_at _ _ _ _ rfl)); (have l3 : w1.cell? ⟨w.heap.size, 3, none⟩ = some (.int .i64 st) := (hb1.cell (by simp)).trans (World.cell?_alloc_at _ _ _ _ rfl)))
      go_ret
      exact ⟨rfl, ((Below.refl _ _).alloc (Nat.le_refl _) _).trans (hb1.mono (by simp))⟩
  · have hd6 : decide (iv ≤ rs) = false := decide_eq_false h6
    have HY : Hid (false = y) := Lib.hid (by rw [HB.out, decide_eq_false (fun h => h6 h.1.1)])
    clear HB arm
    rw [← HY.out]
    go_enter Tryz.func23, Tryz.ntmps23
    go_wp2_with (go_at_call 43; refine (HD.out _).mono ?_; rintro e w1 ⟨rfl, hb1⟩; (have l1 : w1.cell? ⟨w.heap.size, 1, none⟩ = some (.int .i64 iv) := (hb1.cell (by simp)).trans (World.cell?_alloc_at _ _ _ _ rfl)); (have l2 : w1.cell? ⟨w.heap.size, 2, none⟩ = some (.int .i64 rs) := (hb1.cell (by simp)).trans (World.cell?_alloc_at _ _ _ _ rfl)); (have l3 : w1.cell? ⟨w.heap.size, 3, none⟩ = some (.int .i64 st) := (hb1.cell (by simp)).trans (World.cell?_alloc_at _ _ _ _ rfl)))
    go_ret
    exact ⟨rfl, ((Below.refl _ _).alloc (Nat.le_refl _) _).trans (hb1.mono (by simp))⟩
end Go.Proofs.YtkkkpobdjhmgfaaGreatDoor
