/- AuditNames: the law. -/
import Derived.Test.YtkkkpobdjhmgfaaGreatDoorAN4
namespace Go.Proofs.YtkkkpobdjhmgfaaGreatDoor
open Go.RowKit Go.Shelf
set_option maxRecDepth 100000
set_option linter.unusedVariables false
set_option linter.unusedSimpArgs false

/-- the names, where they lie -/
structure Nm (w : World) : Prop where
  c0 : w.cell? ⟨0, 0, none⟩ = some (.string ⟨#[116, 97, 98, 108, 101]⟩)
  c1 : w.cell? ⟨0, 1, none⟩ = some (.string ⟨#[104, 105, 115, 116, 111, 114, 121]⟩)
  c2 : w.cell? ⟨0, 2, none⟩ = some (.string ⟨#[98, 111, 117, 110, 100]⟩)
  c3 : w.cell? ⟨0, 3, none⟩ = some (.string ⟨#[107, 101, 121]⟩)
  c4 : w.cell? ⟨0, 4, none⟩ = some (.string ⟨#[97, 104, 101, 97, 100]⟩)
  c5 : w.cell? ⟨0, 5, none⟩ = some (.string ⟨#[97, 110, 115, 119, 101, 114]⟩)
  c6 : w.cell? ⟨0, 6, none⟩ = some (.string ⟨#[115, 116, 101, 112, 115]⟩)
  c7 : w.cell? ⟨0, 7, none⟩ = some (.string ⟨#[97, 99, 99, 101, 115, 115, 101, 115]⟩)
theorem Nm.below {w w' : World} (h : Nm w) (hb : Below w.heap.size w w') : Nm w' := by
  have hl := World.block_lt_of_cell? w _ h.c0
  exact ⟨(hb.cell (p := ⟨0, 0, none⟩) hl).trans h.c0, (hb.cell (p := ⟨0, 1, none⟩) hl).trans h.c1, (hb.cell (p := ⟨0, 2, none⟩) hl).trans h.c2, (hb.cell (p := ⟨0, 3, none⟩) hl).trans h.c3, (hb.cell (p := ⟨0, 4, none⟩) hl).trans h.c4, (hb.cell (p := ⟨0, 5, none⟩) hl).trans h.c5, (hb.cell (p := ⟨0, 6, none⟩) hl).trans h.c6, (hb.cell (p := ⟨0, 7, none⟩) hl).trans h.c7⟩
/-- what a flaw is called -/
def nmv (a : Int) : ByteArray :=
  if a = 1 then ⟨#[116, 97, 98, 108, 101]⟩ else if a = 2 then ⟨#[104, 105, 115, 116, 111, 114, 121]⟩ else if a = 3 then ⟨#[98, 111, 117, 110, 100]⟩ else if a = 4 then ⟨#[107, 101, 121]⟩ else if a = 5 then ⟨#[97, 104, 101, 97, 100]⟩ else if a = 6 then ⟨#[97, 110, 115, 119, 101, 114]⟩ else if a = 7 then ⟨#[115, 116, 101, 112, 115]⟩ else if a = 8 then ⟨#[97, 99, 99, 101, 115, 115, 101, 115]⟩ else ⟨#[]⟩
theorem nmv_out {a : Int} (h : a < 1 ∨ 8 < a) : nmv a = ⟨#[]⟩ := by
  unfold nmv
  rw [if_neg (by omega)]
  rw [if_neg (by omega)]
  rw [if_neg (by omega)]
  rw [if_neg (by omega)]
  rw [if_neg (by omega)]
  rw [if_neg (by omega)]
  rw [if_neg (by omega)]
  rw [if_neg (by omega)]
theorem nmv_1 : nmv 1 = ⟨#[116, 97, 98, 108, 101]⟩ := by unfold nmv; simp
theorem nmv_2 : nmv 2 = ⟨#[104, 105, 115, 116, 111, 114, 121]⟩ := by unfold nmv; simp
theorem nmv_3 : nmv 3 = ⟨#[98, 111, 117, 110, 100]⟩ := by unfold nmv; simp
theorem nmv_4 : nmv 4 = ⟨#[107, 101, 121]⟩ := by unfold nmv; simp
theorem nmv_5 : nmv 5 = ⟨#[97, 104, 101, 97, 100]⟩ := by unfold nmv; simp
theorem nmv_6 : nmv 6 = ⟨#[97, 110, 115, 119, 101, 114]⟩ := by unfold nmv; simp
theorem nmv_7 : nmv 7 = ⟨#[115, 116, 101, 112, 115]⟩ := by unfold nmv; simp
theorem nmv_8 : nmv 8 = ⟨#[97, 99, 99, 101, 115, 115, 101, 115]⟩ := by unfold nmv; simp
theorem nmv_in {a : Int} (h : ¬ (a < 1 ∨ 8 < a)) : a = 1 ∨ a = 2 ∨ a = 3 ∨ a = 4 ∨ a = 5 ∨ a = 6 ∨ a = 7 ∨ a = 8 := by omega
theorem nmv_ne {a : Int} (h : ¬ (a < 1 ∨ 8 < a)) : nmv a ≠ ⟨#[]⟩ := by
  rcases nmv_in h with rfl | rfl | rfl | rfl | rfl | rfl | rfl | rfl
  · rw [nmv_1]; decide
  · rw [nmv_2]; decide
  · rw [nmv_3]; decide
  · rw [nmv_4]; decide
  · rw [nmv_5]; decide
  · rw [nmv_6]; decide
  · rw [nmv_7]; decide
  · rw [nmv_8]; decide
theorem nmv_unlike {a b : Int} (h : ¬ (a < 1 ∨ 8 < a)) (hb : ¬ (b < 1 ∨ 8 < b)) (hab : a ≠ b) : nmv a ≠ nmv b := by
  rcases nmv_in h with rfl | rfl | rfl | rfl | rfl | rfl | rfl | rfl <;> rcases nmv_in hb with rfl | rfl | rfl | rfl | rfl | rfl | rfl | rfl <;>
    first | exact absurd rfl hab | (simp only [nmv_1, nmv_2, nmv_3, nmv_4, nmv_5, nmv_6, nmv_7, nmv_8]; decide)
theorem an_name (a : Int) (ha : -9223372036854775808 ≤ a ∧ a ≤ 9223372036854775807) (w : World) (h : Nm w) : Calls Tryz.prog 4 #[.int .i64 a] w fun e w' => e = .returned (.string (nmv a)) ∧ w' = w := by
  by_cases h1 : a < 1
  · have d1 : decide (a < 1) = true := decide_eq_true h1
    rw [nmv_out (.inl h1)]
    go_enter Tryz.func4, Tryz.ntmps4
    go_wp2_with fail
    go_ret
    exact ⟨rfl, rfl⟩
  · by_cases h2 : 8 < a
    · have d1 : decide (a < 1) = false := decide_eq_false h1
      have d2 : decide (8 < a) = true := decide_eq_true h2
      rw [nmv_out (.inr h2)]
      go_enter Tryz.func4, Tryz.ntmps4
      go_wp2_with fail
      go_ret
      exact ⟨rfl, rfl⟩
    · obtain ⟨c0, c1, c2, c3, c4, c5, c6, c7⟩ := h
      rcases nmv_in (by omega : ¬ (a < 1 ∨ 8 < a)) with rfl | rfl | rfl | rfl | rfl | rfl | rfl | rfl
      · rw [nmv_1]
        go_enter Tryz.func4, Tryz.ntmps4
        go_wp2_with fail
        go_ret
        exact ⟨rfl, rfl⟩
      · rw [nmv_2]
        go_enter Tryz.func4, Tryz.ntmps4
        go_wp2_with fail
        go_ret
        exact ⟨rfl, rfl⟩
      · rw [nmv_3]
        go_enter Tryz.func4, Tryz.ntmps4
        go_wp2_with fail
        go_ret
        exact ⟨rfl, rfl⟩
      · rw [nmv_4]
        go_enter Tryz.func4, Tryz.ntmps4
        go_wp2_with fail
        go_ret
        exact ⟨rfl, rfl⟩
      · rw [nmv_5]
        go_enter Tryz.func4, Tryz.ntmps4
        go_wp2_with fail
        go_ret
        exact ⟨rfl, rfl⟩
      · rw [nmv_6]
        go_enter Tryz.func4, Tryz.ntmps4
        go_wp2_with fail
        go_ret
        exact ⟨rfl, rfl⟩
      · rw [nmv_7]
        go_enter Tryz.func4, Tryz.ntmps4
        go_wp2_with fail
        go_ret
        exact ⟨rfl, rfl⟩
      · rw [nmv_8]
        go_enter Tryz.func4, Tryz.ntmps4
        go_wp2_with fail
        go_ret
        exact ⟨rfl, rfl⟩
theorem an_tick (w : World) (h : Nm w) : Calls Tryz.prog 5 #[] w fun e w' => e = .returned (.bool true) ∧ Below w.heap.size w w' := by
  have H := Lib.hid h
  clear h
  go_enter Tryz.func5, Tryz.ntmps5
  go_wp2_with fail
  refine (an_checkB _).mono ?_
  rintro e w1 ⟨g, c, rfl, hb1, h7, h8⟩
  have HB1 := Lib.hid hb1
  have hg := World.block_lt_of_cell? w1 _ h7
  have H7 := Lib.hid h7
  have H8 := Lib.hid h8
  clear hb1 h7 h8
  go_wp2_with fail
  refine (an_checkA _).mono ?_
  rintro e w2 ⟨a2, c2, rfl, hb2⟩
  have HB2 := Lib.hid hb2
  have h7 := (HB2.out.cell (p := ⟨g, 0, none⟩) hg).trans H7.out
  have h8 := (HB2.out.cell (p := ⟨g, 1, none⟩) hg).trans H8.out
  have HB := Lib.hid (HB1.out.trans (HB2.out.mono HB1.out.size))
  have HN := Lib.hid (H.out.below HB.out)
  clear hb2 H7 H8
  have hn7 := an_name 7 (by omega) w2 HN.out
  rw [nmv_7] at hn7
  have HN7 := Lib.hid hn7
  clear hn7
  go_wp2_with fail
  refine HN7.out.mono ?_
  rintro e w3 ⟨rfl, rfl⟩
  go_wp2_with fail
  go_ret
  exact ⟨rfl, HB.out⟩
theorem an_ext {a b : ByteArray} (h : a.toList = b.toList) : a = b := by
  rw [ByteArray.toList_eq, ByteArray.toList_eq] at h
  obtain ⟨⟨a⟩⟩ := a
  obtain ⟨⟨b⟩⟩ := b
  simp only at h
  rw [h]
theorem an_empty {X : ByteArray} (h : X.toList.isEmpty = true) : X = ⟨#[]⟩ := by
  have h2 := List.isEmpty_iff.1 h
  rw [ByteArray.toList_eq] at h2
  obtain ⟨⟨l⟩⟩ := X
  simp only at h2
  rw [h2]
theorem an_law (a b : Int) (ha : -9223372036854775808 ≤ a ∧ a ≤ 9223372036854775807) (hb : -9223372036854775808 ≤ b ∧ b ≤ 9223372036854775807) (w : World) (h : Nm w) :
    Calls Tryz.prog 3 #[.int .i64 a, .int .i64 b] w fun e w' => e = .returned (.bool true) ∧ Below w.heap.size w w' := by
  have HA := Lib.hid (an_name a ha w h)
  have HB := Lib.hid (an_name b hb w h)
  have HT := Lib.hid (an_tick w h)
  clear h
  have hin : ¬ (a < 1 ∨ 8 < a) → nmv a ≠ ⟨#[]⟩ := nmv_ne
  have hout : (a < 1 ∨ 8 < a) → nmv a = ⟨#[]⟩ := nmv_out
  have houtb : (b < 1 ∨ 8 < b) → nmv b = ⟨#[]⟩ := nmv_out
  have hun : ¬ (a < 1 ∨ 8 < a) → a ≠ b → nmv a ≠ nmv b := fun h1 h2 => by
    by_cases h3 : b < 1 ∨ 8 < b
    · rw [nmv_out h3]; exact nmv_ne h1
    · exact nmv_unlike h1 h3 h2
  have hsame : a = b → nmv a = nmv b := fun e => by rw [e]
  generalize nmv a = X at HA hin hout hun hsame
  generalize nmv b = Y at HB houtb hun hsame
  have HTK : Hid (∀ W, W = w → Calls Tryz.prog 5 #[] W fun e w' => e = .returned (.bool true) ∧ Below w.heap.size w w') := Lib.hid (fun W e => by rw [e]; exact HT.out)
  clear HT
  by_cases h1 : a < 1
  · obtain rfl := hout (.inl h1)
    clear hin hout hun hsame houtb
    have d1 : decide (1 ≤ a) = false := decide_eq_false (by omega)
    have d2 : decide (a ≤ 8) = true := decide_eq_true (by omega)
    clear h1
    go_enter Tryz.func3, Tryz.ntmps3
    go_wp2_with fail
    refine HA.out.mono ?_
    rintro e w1 ⟨rfl, hw1⟩
    obtain rfl := hw1
    go_wp2_with fail
    refine HB.out.mono ?_
    rintro e w1 ⟨rfl, hw1⟩
    obtain rfl := hw1
    go_wp2_with (go_at_call 5; refine (HTK.out _ rfl).mono ?_; rintro e w2 ⟨rfl, hb2⟩; (have HB2 := Lib.hid hb2); clear hb2)
    all_goals go_ret
    all_goals exact ⟨rfl, HB2.out⟩
  by_cases h2 : 8 < a
  · obtain rfl := hout (.inr h2)
    clear hin hout hun hsame houtb
    have d1 : decide (1 ≤ a) = true := decide_eq_true (by omega)
    have d2 : decide (a ≤ 8) = false := decide_eq_false (by omega)
    clear h1 h2
    go_enter Tryz.func3, Tryz.ntmps3
    go_wp2_with fail
    refine HA.out.mono ?_
    rintro e w1 ⟨rfl, hw1⟩
    obtain rfl := hw1
    go_wp2_with fail
    refine HB.out.mono ?_
    rintro e w1 ⟨rfl, hw1⟩
    obtain rfl := hw1
    go_wp2_with (go_at_call 5; refine (HTK.out _ rfl).mono ?_; rintro e w2 ⟨rfl, hb2⟩; (have HB2 := Lib.hid hb2); clear hb2)
    all_goals go_ret
    all_goals exact ⟨rfl, HB2.out⟩
  have hx := hin (by omega)
  have d1 : decide (1 ≤ a) = true := decide_eq_true (by omega)
  have d2 : decide (a ≤ 8) = true := decide_eq_true (by omega)
  have hxe : X.toList.isEmpty = false := by
    cases hl : X.toList.isEmpty with
    | false => rfl
    | true => exact absurd (an_empty hl) hx
  by_cases hab : a = b
  · have hxy := hsame hab
    subst hab
    subst hxy
    clear hin hout hun hsame houtb h1 h2 hx
    go_enter Tryz.func3, Tryz.ntmps3
    go_wp2_with fail
    refine HA.out.mono ?_
    rintro e w1 ⟨rfl, hw1⟩
    obtain rfl := hw1
    go_wp2_with fail
    refine HB.out.mono ?_
    rintro e w1 ⟨rfl, hw1⟩
    obtain rfl := hw1
    go_wp2_with (go_at_call 5; refine (HTK.out _ rfl).mono ?_; rintro e w2 ⟨rfl, hb2⟩; (have HB2 := Lib.hid hb2); clear hb2)
    all_goals go_ret
    all_goals exact ⟨rfl, HB2.out⟩
  · have hxy := hun (by omega) hab
    have hxl : X.toList ≠ Y.toList := fun h => hxy (an_ext h)
    have hd3 : (X.toList == Y.toList) = false := beq_eq_false_iff_ne.2 hxl
    have hd4 : (a == b) = false := beq_eq_false_iff_ne.2 hab
    clear hin hout hun hsame houtb h1 h2 hx
    go_enter Tryz.func3, Tryz.ntmps3
    go_wp2_with fail
    refine HA.out.mono ?_
    rintro e w1 ⟨rfl, hw1⟩
    obtain rfl := hw1
    go_wp2_with fail
    refine HB.out.mono ?_
    rintro e w1 ⟨rfl, hw1⟩
    obtain rfl := hw1
    go_wp2_with (go_at_call 5; refine (HTK.out _ rfl).mono ?_; rintro e w2 ⟨rfl, hb2⟩; (have HB2 := Lib.hid hb2); clear hb2)
    all_goals go_ret
    all_goals exact ⟨rfl, HB2.out⟩
end Go.Proofs.YtkkkpobdjhmgfaaGreatDoor
