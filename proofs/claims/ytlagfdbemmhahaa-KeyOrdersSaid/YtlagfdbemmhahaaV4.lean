/- Walks of keys: cmp.Or, and the comparison of two indices. -/
import Derived.Test.YtlagfdbemmhahaaV3
import Derived.Test.YtlagfdbemmhahaaK
import Derived.Deep.RegionHeld3
import Derived.Sort.Grow
namespace Go.Proofs.Ytlagfdbemmhahaa
open Go.RowKit Go.Sort

/-- the first number that is not 0 -/
def orL : List Int → Int
  | [] => 0
  | x :: l => if x = 0 then orL l else x
theorem orL_zero (l : List Int) : orL (0 :: l) = orL l := by rw [orL, if_pos rfl]
theorem orL_not {x : Int} (l : List Int) (h : x ≠ 0) : orL (x :: l) = x := by rw [orL, if_neg h]

set_option maxHeartbeats 400000 in
theorem or_any (ao : Option Addr) (b o c : Nat) (l : List Int) (w : World) (hl : l.length ≤ 9223372036854775807) (ha : 0 < l.length → ao = some ⟨b, o, none⟩) (hc : ICells w b o l) :
    Calls Try.prog 24 #[.slice ao l.length c] w fun e w' => e = .returned (.int .i64 (orL l)) ∧ w = w' := by
  have HA := Lib.hid ha
  have HC := Lib.hid hc
  clear ha hc
  go_enter Try.func24, Try.ntmps24
  go_wp2
  go_loop [8] (fun i => ∃ j : Nat, j ≤ l.length ∧ i = .int .i64 j ∧ Hid (orL (l.drop j) = orL l)) (fun i => l.length - (intOf i).toNat)
  case atStart => exact ⟨0, Nat.zero_le _, rfl, Lib.hid rfl⟩
  case round =>
    obtain ⟨j, hj, rfl, hp⟩ := hrel
    by_cases hlt : j < l.length
    · obtain rfl := HA.out (by omega)
      obtain ⟨x, hx⟩ : ∃ x, l[j]? = some x := ⟨l[j], List.getElem?_eq_getElem hlt⟩
      obtain ⟨d1, _⟩ := HC.out j _ hx
      have hd := Lib.hid (drop_cons hx)
      clear hx
      by_cases h0 : x = 0
      · subst h0
        have hN : Hid (orL (l.drop (j + 1)) = orL l) := Lib.hid (by rw [← hp.out, hd.out, orL_zero])
        go_wp2
        go_round
        case rel => exact ⟨j + 1, by omega, by go_num, hN⟩
        case measure => simp [intOf]; omega
      · have hres : Hid (orL l = x) := Lib.hid (by rw [← hp.out, hd.out, orL_not _ h0])
        go_wp2
        go_ret
        rw [hres.out]
        exact ⟨rfl, rfl⟩
    · have hres : Hid (orL l = 0) := Lib.hid (by rw [← hp.out, List.drop_eq_nil_of_le (by omega)]; rfl)
      go_wp2
      go_ret
      rw [hres.out]
      exact ⟨rfl, rfl⟩

/-- the list at i -/
def atK (ls : List (List Int)) (i : Nat) : List Int := ls.getD i []
theorem atK_get {ls : List (List Int)} {i : Nat} (h : i < ls.length) : ls[i]? = some (atK ls i) := by
  unfold atK; rw [List.getD_eq_getElem?_getD, List.getElem?_eq_getElem h]; rfl
/-- how the i-th key stands to the j-th, where alike ones go by their places -/
def cfI (ls : List (List Int)) (i j : Nat) : Int := orL [cmpL (atK ls i) (atK ls j), cmpI i j]

/-- lists lie in a row; what they have lies below B -/
def LCells (w : World) (B b o : Nat) (ls : List (List Int)) : Prop :=
  ∀ (i : Nat) (l : List Int), ls[i]? = some l → ∃ ao b' o' c, w.cell? ⟨b, o + i, none⟩ = some (.slice ao l.length c) ∧ (0 < l.length → ao = some ⟨b', o', none⟩) ∧ (0 < l.length → b' < B) ∧ ICells w b' o' l ∧ l.length ≤ 9223372036854775807
theorem LCells.stays {w wr : World} {B b o : Nat} {ls : List (List Int)} (h : LCells w B b o ls) (hb : Below B w wr) (hB : 0 < ls.length → b < B) : LCells wr B b o ls := by
  intro i l hx
  have hl : 0 < ls.length := by have := (List.getElem?_eq_some_iff.1 hx).1; omega
  obtain ⟨ao, b', o', c, h1, h2, h3, h4, h5⟩ := h i l hx
  exact ⟨ao, b', o', c, (hb.cell (p := ⟨b, _, none⟩) (hB hl)).trans h1, h2, h3, h4.stays hb h3, h5⟩

theorem icells2 (w : World) (x y : Int) (hx : -9223372036854775808 ≤ x ∧ x ≤ 9223372036854775807) (hy : -9223372036854775808 ≤ y ∧ y ≤ 9223372036854775807) : ICells (w.alloc (.cells #[.int .i64 x, .int .i64 y] 3)) w.heap.size 0 [x, y] := by
  intro i z hz
  match i, hz with
  | 0, hz => simp at hz; subst hz; refine ⟨?_, hx⟩; rw [World.cell?_alloc_at _ _ _ _ rfl]; rfl
  | 1, hz => simp at hz; subst hz; refine ⟨?_, hy⟩; rw [World.cell?_alloc_at _ _ _ _ rfl]; rfl

theorem cmpI_bd (x y : Int) : -9223372036854775808 ≤ cmpI x y ∧ cmpI x y ≤ 9223372036854775807 := by
  unfold cmpI; split
  · omega
  · split <;> omega
theorem cmpL_bd (a b : List Int) : -9223372036854775808 ≤ cmpL a b ∧ cmpL a b ≤ 9223372036854775807 := by
  rcases cmpL_three a b with h | h | h <;> rw [h] <;> omega

set_option maxHeartbeats 1000000 in
theorem idx_any (bx B b o cap : Nat) (ls : List (List Int)) (i j : Nat) (W : World) (hi : i < ls.length) (hj : j < ls.length)
    (hbx : W.cell? ⟨bx, 0, none⟩ = some (.slice (some ⟨b, o, none⟩) ls.length cap)) (hL : LCells W B b o ls) :
    Calls Try.prog 23 #[.int .i64 i, .int .i64 j, .pointer (some ⟨bx, 0, none⟩)] W fun e w' => e = .returned (.int .i64 (cfI ls i j)) ∧ ∃ q os', w' = grow (W.drewN q) os' := by
  obtain ⟨ao1, b1, o1, c1, h11, h12, _, h14, h15⟩ := hL i _ (atK_get hi)
  obtain ⟨ao2, b2, o2, c2, h21, h22, _, h24, h25⟩ := hL j _ (atK_get hj)
  have HC := Lib.hid (fun q => compare_any ao1 ao2 b1 o1 c1 b2 o2 c2 (atK ls i) (atK ls j) (W.drewN q) h15 h25 h12 h22 h14 h24)
  have HI := Lib.hid (fun q => icmp_any i j (W.drewN q))
  have HD := Lib.hid (cmpL_bd (atK ls i) (atK ls j))
  have HE := Lib.hid (cmpI_bd i j)
  have hi0 : (0 : Int) ≤ (i : Int) := Int.natCast_nonneg _
  have hi1 : (i : Int) < (ls.length : Int) := by omega
  have hj0 : (0 : Int) ≤ (j : Int) := Int.natCast_nonneg _
  have hj1 : (j : Int) < (ls.length : Int) := by omega
  unfold cfI
  generalize cmpL (atK ls i) (atK ls j) = x at HC HD ⊢
  generalize cmpI i j = y at HI HE ⊢
  clear hL h12 h14 h15 h22 h24 h25
  go_enter Try.func23, Try.ntmps23
  go_wp2_with fail
  go_region_held3 (fun w' => w'.cell? ⟨bx, 0, none⟩ = some (.slice (some ⟨b, o, none⟩) ls.length cap) ∧ w'.cell? ⟨b, o + i, none⟩ = some (.slice ao1 (atK ls i).length c1) ∧ w'.cell? ⟨b, o + j, none⟩ = some (.slice ao2 (atK ls j).length c2))
    (first | go_keep)
    (first
      | (go_at_call 16; refine (HC.out _).mono ?_; rintro e w' ⟨rfl, rfl⟩)
      | (go_at_call 25; refine (HI.out _).mono ?_; rintro e w' ⟨rfl, rfl⟩)
      | (go_at_call 24; refine (or_any (some ⟨_, 0, none⟩) _ 0 2 [x, y] _ (by simp) (fun _ => rfl) (icells2 _ x y HD.out HE.out)).mono ?_; rintro e w' ⟨rfl, rfl⟩))
  go_wp2
  go_ret
  exact ⟨rfl, 1, _, by rw [alloc_eq_grow]⟩
end Go.Proofs.Ytlagfdbemmhahaa
