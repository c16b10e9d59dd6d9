/- Rows, plainly; walk of within. -/
import Derived.Test.YtebfkkgemccbfaaZF0
namespace Go.Proofs.Ytebfkkgemccbfaa
open Go.RowKit
set_option linter.unusedVariables false

set_option maxRecDepth 20000 in
theorem within_yes (ka : Option Addr) (key : List Nat) (kc a b : Nat) (p : Nat → Prop) (w : World) (hk : ListAt w 3 mkI p (.slice ka key.length kc) key) (h : withinL key a b) (hb : b ≤ 100000) :
    Calls Try.prog 35 #[.slice ka key.length kc, .int .i64 (a : Int), .int .i64 (b : Int)] w fun e w' => e = .returned (.bool true) ∧ w = w' := by
  obtain ⟨x, r, rfl, h1, h2⟩ := h
  obtain ⟨ao, g, o, cap, he, h3, _, _, h4⟩ := hk
  cases he
  obtain ⟨rfl, _, ht⟩ := h3 (by simp)
  have c0 : w.cell? ⟨g, o, none⟩ = some (.int .i64 (x : Int)) := by have := h4 0 x rfl; simpa [mkI] using this
  have hgl := ht.lt
  obtain ⟨m, hm, hm0⟩ : ∃ m, (x :: r).length = m ∧ 0 < m := ⟨_, rfl, by simp⟩
  rw [hm]
  have hx : x ≤ 200000 := by omega
  have t1 : Int.tdiv (x : Int) 2 = ((x / 2 : Nat) : Int) := by rw [Int.tdiv_eq_ediv_of_nonneg (by omega)]; omega
  have t2 : Int.tdiv ((x : Int) + 1) 2 = (((x + 1) / 2 : Nat) : Int) := by rw [Int.tdiv_eq_ediv_of_nonneg (by omega)]; omega
  have b0 : (0 : Int) < (m : Int) := by omega
  have b1 : (a : Int) ≤ ((x / 2 : Nat) : Int) := by omega
  have b2 : (((x + 1) / 2 : Nat) : Int) ≤ (b : Int) := by omega
  clear h3 h4 ht h1 h2 hm
  go_enter Try.func35, Try.ntmps35
  go_wp2_with fail
  go_ret
  exact ⟨ret_bool (decide_eq_true (by omega)), rfl⟩
end Go.Proofs.Ytebfkkgemccbfaa
