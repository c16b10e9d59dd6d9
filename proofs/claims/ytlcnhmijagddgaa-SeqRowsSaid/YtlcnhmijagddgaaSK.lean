/- The reference's set, row and Apply. -/
import Derived.Test.YtlcnhmijagddgaaSJ
namespace Go.Proofs.Ytlcnhmijagddgaa
open Go.ChangeShapes Go.WideShapes Go.ChangeAt Go.RowKit
set_option linter.unusedVariables false
set_option linter.unusedSimpArgs false

/-- a slice whose words are l, in a block from B on -/
def ArgB (w : World) (B : Nat) (v : Value) (l : List Nat) : Prop :=
  ∃ (ao : Option Addr) (b o cap : Nat), v = .slice ao l.length cap ∧ (0 < l.length → ao = some ⟨b, o, none⟩ ∧ B ≤ b) ∧ (ao = none → cap = 0) ∧ ∀ (i x : Nat), l[i]? = some x → w.cell? ⟨b, o + i, none⟩ = some (wU x)
theorem ArgB.arg {w : World} {B : Nat} {v : Value} {l : List Nat} (h : ArgB w B v l) : ArgW w v l := by
  obtain ⟨ao, b, o, cap, rfl, h1, h2, h3⟩ := h; exact ⟨ao, b, o, cap, rfl, fun h => (h1 h).1, h2, h3⟩
theorem ArgB.mono {w : World} {B B' : Nat} {v : Value} {l : List Nat} (h : ArgB w B v l) (hB : B' ≤ B) : ArgB w B' v l := by
  obtain ⟨ao, b, o, cap, rfl, h1, h2, h3⟩ := h; exact ⟨ao, b, o, cap, rfl, fun h => ⟨(h1 h).1, Nat.le_trans hB (h1 h).2⟩, h2, h3⟩
theorem ArgB.below {w w' : World} {B : Nat} {v : Value} {l : List Nat} (h : ArgB w B v l) (hb : Below w.heap.size w w') : ArgB w' B v l := by
  obtain ⟨ao, b, o, cap, rfl, h1, h2, h3⟩ := h
  refine ⟨ao, b, o, cap, rfl, h1, h2, fun i x hx => ?_⟩
  have := h3 i x hx
  exact (hb.cell (World.block_lt_of_cell? w _ this)).trans this
theorem ArgB.drew {w : World} {B : Nat} {v : Value} {l : List Nat} (h : ArgB w B v l) : ArgB w.drew B v l := h
theorem ArgB.other {w : World} {B b : Nat} {v : Value} {l : List Nat} (h : ArgB w B v l) (hb : b < B) (k : Nat) (u : Value) : ArgB (w.setCell ⟨b, k, none⟩ u) B v l := by
  obtain ⟨ao, b', o, cap, rfl, h1, h2, h3⟩ := h
  refine ⟨ao, b', o, cap, rfl, h1, h2, fun i x hx => ?_⟩
  have hB := (h1 (by have := (List.getElem?_eq_some_iff.1 hx).1; omega)).2
  have := h3 i x hx
  rw [← this]
  unfold World.cell?
  rw [Below.heap_setCell w ⟨b, k, none⟩ u b' (by show b' ≠ b; omega)]
theorem ArgB.put3 {w : World} {B b : Nat} {v : Value} {l : List Nat} (h : ArgB w B v l) (hb : b < B) (x y z : Value) : ArgB (((w.setCell ⟨b, 0, none⟩ x).setCell ⟨b, 1, none⟩ y).setCell ⟨b, 2, none⟩ z) B v l :=
  ((h.other hb 0 x).other hb 1 y).other hb 2 z
theorem ArgB.nil (w : World) (B : Nat) : ArgB w B (.slice none 0 0) [] := ⟨none, 0, 0, 0, rfl, fun h => absurd h (by simp), fun _ => rfl, fun i x h => by simp at h⟩
theorem OwnW.argB {w : World} {B : Nat} {v : Value} {l : List Nat} (h : OwnW w B v l) : ArgB w B v l := by
  have h' := h
  obtain ⟨_, ⟨rfl, h0⟩ | ⟨g, cap, cur, rfl, hg, hb, h1, h2, h3, h4⟩⟩ := h
  · rw [List.length_eq_zero_iff.1 h0]; exact ArgB.nil w B
  · refine ⟨_, g, 0, cap, rfl, fun _ => ⟨rfl, hg⟩, (fun h => by cases h), fun i x hx => ?_⟩
    have hi := (List.getElem?_eq_some_iff.1 hx).1
    rw [Nat.zero_add, World.ownsRow.cellAt h' i (by omega), List.getElem?_map, hx]; rfl
/-- what the reference leaves -/
def DnP (B : Nat) (W : World) (r : List Nat × Nat × Nat) (e : Ending) (w' : World) : Prop :=
  ∃ v', e = .returned (.agg #[v', .int .i64 (r.2.2 : Int), .int .u64 (r.2.1 : Int)]) ∧ ArgB w' B v' r.1 ∧ Below B W w'
theorem arg_one {w : World} {B b y : Nat} (hB : B ≤ b) (h : w.cell? ⟨b, 0, none⟩ = some (wU y)) : ArgB w B (.slice (some ⟨b, 0, none⟩) 1 1) [y] := by
  refine ⟨_, b, 0, 1, rfl, fun _ => ⟨rfl, hB⟩, (fun h => by cases h), fun i x hx => ?_⟩
  match i, hx with
  | 0, hx => simp at hx; subst hx; exact h
  | i + 1, hx => simp at hx


set_option maxHeartbeats 400000 in
theorem refSet_any (k : Nat) (v : Value) (x a B : Nat) (w : World) (h : ArgB w B v [x]) (hB : B ≤ w.heap.size) (hx : x < 18446744073709551616) (ha : a < 18446744073709551616) (hk : k ≤ 2) :
    Calls Try.prog 23 #[v, .int .i64 (k : Int), .int .u64 (a : Int)] w (DnP B w (sqDo 4 k [x] a)) := by
  have HA := Lib.hid h
  obtain ⟨ao, b, o, cap, rfl, h1, h2, h3⟩ := h
  obtain ⟨rfl, hBb⟩ := h1 (by simp)
  have d0 := h3 0 x rfl
  have hlt := World.block_lt_of_cell? w _ d0
  simp only [Nat.add_zero, List.length_singleton] at *
  unfold wU at d0
  clear h1 h2 h3
  by_cases h8 : 64 ≤ a
  · have HV : Hid (sqDo 4 k [x] a = ([x], 0, 10)) := Lib.hid (by
      match k, hk with
      | 0, _ => exact if_pos h8
      | 1, _ => exact if_pos h8
      | 2, _ => exact if_pos h8)
    rw [HV.out]
    clear hk
    go_enter Try.func23, Try.ntmps23
    go_wp2_with fail
    refine bodyPost_ret (v := .agg #[.slice (some ⟨b, o, none⟩) 1 cap, .int .i64 10, .int .u64 0]) (by simp [results, Try.results23, go_sem]) rfl ⟨_, rfl, HA.out.below ?_, ?_⟩
    all_goals (repeat (first | with_reducible exact Below.refl _ _ | with_reducible refine Below.setCell ?_ (by first | (simp; done) | (simp; omega)) _ | with_reducible refine Below.alloc ?_ (by first | omega | (simp; done) | (simp; omega)) _ | with_reducible refine below_drewN ?_ _))
  · have h9 : a < 64 := by omega
    have hb2 := bit_le a h9
    have hz1 := Nat.two_pow_pos a
    obtain ⟨z, hz⟩ : ∃ z, z = 2 ^ a := ⟨_, rfl⟩
    have hwz : IntKind.u64.wrap (2 ^ a) = (z : Int) := by
      have e : (2 : Int) ^ a = ((2 ^ a : Nat) : Int) := by rw [Int.natCast_pow]; rfl
      rw [e, ← hz]
      rw [← hz] at hb2
      exact IntWalk.u64_in _ (by omega)
    have HV : Hid (sqDo 4 k [x] a = if k = 0 then ([x], x / z % 2, 0) else if k = 1 then (if x / z % 2 = 0 then ([x + z], 1, 0) else ([x], 0, 0)) else (if x / z % 2 = 1 then ([x - z], 1, 0) else ([x], 0, 0))) := Lib.hid (by
      subst hz
      match k, hk with
      | 0, _ => exact if_neg h8
      | 1, _ => exact if_neg h8
      | 2, _ => exact if_neg h8)
    rw [HV.out]
    rw [← hz] at hb2 hz1
    have hq : (x : Int) / (z : Int) = ((x / z : Nat) : Int) := (Int.natCast_ediv x z).symm
    have hle : x / z ≤ x := Nat.div_le_self _ _
    have hdz : z ≤ x ∨ x / z % 2 = 0 := by
      rcases Nat.lt_or_ge x z with h2 | h2
      · right; rw [Nat.div_eq_of_lt h2]
      · exact .inl h2
    have HO : Hid (x / z % 2 = 0 → x + z < 18446744073709551616) := Lib.hid (fun h => by
      subst hz
      rw [← or_bit0 x a h]
      exact Nat.or_lt_two_pow (n := 64) hx (by omega))
    clear hz HV h8
    generalize x / z = y at *
    have hd : y % 2 = 0 ∨ y % 2 = 1 := by omega
    have hk3 : k = 0 ∨ k = 1 ∨ k = 2 := by omega
    clear hk
    rcases hk3 with rfl | rfl | rfl
    · rw [if_pos rfl]
      go_enter Try.func23, Try.ntmps23
      go_wp2_with fail
      refine bodyPost_ret (v := .agg #[.slice (some ⟨b, o, none⟩) 1 cap, .int .i64 0, .int .u64 ((y % 2 : Nat) : Int)]) (by simp [results, Try.results23, go_sem]) rfl ⟨_, rfl, HA.out.below ?_, ?_⟩
      all_goals (repeat (first | with_reducible exact Below.refl _ _ | with_reducible refine Below.setCell ?_ (by first | (simp; done) | (simp; omega)) _ | with_reducible refine Below.alloc ?_ (by first | omega | (simp; done) | (simp; omega)) _ | with_reducible refine below_drewN ?_ _))
    · rw [if_neg (by decide), if_pos rfl]
      by_cases h0 : y % 2 = 0
      · rw [if_pos h0]
        have hs := HO.out h0
        have hi0 : (y : Int) % 2 = 0 := by omega
        clear hd hdz
        go_enter Try.func23, Try.ntmps23
        go_wp2_with fail
        refine bodyPost_ret (v := .agg #[.slice (some ⟨w.heap.size + 1, 0, none⟩) 1 1, .int .i64 0, .int .u64 1]) (by simp [results, Try.results23, go_sem]) rfl ⟨_, rfl, arg_one (by omega) (by simp [wU]), ?_⟩
        all_goals (repeat (first | with_reducible exact Below.refl _ _ | with_reducible refine Below.setCell ?_ (by first | (simp; done) | (simp; omega)) _ | with_reducible refine Below.alloc ?_ (by first | omega | (simp; done) | (simp; omega)) _ | with_reducible refine below_drewN ?_ _))
      · rw [if_neg h0]
        have hi0 : (y : Int) % 2 = 1 := by omega
        clear hd hdz
        go_enter Try.func23, Try.ntmps23
        go_wp2_with fail
        refine bodyPost_ret (v := .agg #[.slice (some ⟨b, o, none⟩) 1 cap, .int .i64 0, .int .u64 0]) (by simp [results, Try.results23, go_sem]) rfl ⟨_, rfl, HA.out.below ?_, ?_⟩
        all_goals (repeat (first | with_reducible exact Below.refl _ _ | with_reducible refine Below.setCell ?_ (by first | (simp; done) | (simp; omega)) _ | with_reducible refine Below.alloc ?_ (by first | omega | (simp; done) | (simp; omega)) _ | with_reducible refine below_drewN ?_ _))
    · rw [if_neg (by decide), if_neg (by decide)]
      by_cases h0 : y % 2 = 1
      · rw [if_pos h0]
        have hs : z ≤ x := by omega
        have hi0 : (y : Int) % 2 = 1 := by omega
        have hsub : ((x - z : Nat) : Int) = (x : Int) - (z : Int) := by omega
        clear hd hdz
        go_enter Try.func23, Try.ntmps23
        go_wp2_with fail
        refine bodyPost_ret (v := .agg #[.slice (some ⟨w.heap.size + 1, 0, none⟩) 1 1, .int .i64 0, .int .u64 1]) (by simp [results, Try.results23, go_sem]) rfl ⟨_, rfl, arg_one (by omega) (by simp [wU, hsub]), ?_⟩
        all_goals (repeat (first | with_reducible exact Below.refl _ _ | with_reducible refine Below.setCell ?_ (by first | (simp; done) | (simp; omega)) _ | with_reducible refine Below.alloc ?_ (by first | omega | (simp; done) | (simp; omega)) _ | with_reducible refine below_drewN ?_ _))
      · rw [if_neg h0]
        have hi0 : (y : Int) % 2 = 0 := by omega
        clear hd hdz
        go_enter Try.func23, Try.ntmps23
        go_wp2_with fail
        refine bodyPost_ret (v := .agg #[.slice (some ⟨b, o, none⟩) 1 cap, .int .i64 0, .int .u64 0]) (by simp [results, Try.results23, go_sem]) rfl ⟨_, rfl, HA.out.below ?_, ?_⟩
        all_goals (repeat (first | with_reducible exact Below.refl _ _ | with_reducible refine Below.setCell ?_ (by first | (simp; done) | (simp; omega)) _ | with_reducible refine Below.alloc ?_ (by first | omega | (simp; done) | (simp; omega)) _ | with_reducible refine below_drewN ?_ _))
end Go.Proofs.Ytlcnhmijagddgaa
