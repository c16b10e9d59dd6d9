/- MemLast: for every list of words, any two addresses, and any two numbers, the law returns true, and its arguments read as they did. No condition. -/
import Derived.Test.YtehcfflofacapabRows
import Derived.Test.YtehcfflofacapabL2
import Derived.Test.YtehcfflofacapabK6
namespace Go.Proofs.Ytehcfflofacapab
open Go.ChangeShapes Go.WideShapes Go.ChangeAt Go.RowKit

theorem memLast_own : ownKnob Try.prog.godebug = none := by kernel_rfl
theorem memLast_laid : laidOutB Try.prog = true := by kernel_rfl

set_option maxRecDepth 100000 in
theorem memLast_lifted (os : Os) (started : os.Started) (H : Type) (enc : TypeId × Value → H) :
    ReturnsInHanded {} Try.checked os 3 .any (Rows.memLastSpec.pre6 enc Try.prog Try.f3 Rows.memLastRow.domain false) (Rows.memLastSpec.post enc Try.prog Try.f3 false true false false) := by
  refine returnsInHanded_of_change (C := Try.checked) memLast_own started (by kernel_rfl) Try.func3
    (ChangeSpec.witness6 (enc := enc) (C := Try.checked) false ⟨#[], #[.slice none 0 0, .agg #[.int .i64 0, .int .i64 0], .agg #[.int .u64 0, .int .u64 0]], []⟩ 8 (by kernel_rfl) (by kernel_rfl) (by kernel_rfl) (by kernel_rfl)) ?_
  intro W base args ds gs before hval0 hW hcnd _
  have hval : ∀ (j : Nat) t v, Try.f3.params[j]? = some t → args[j]? = some v → Value.okWide Try.prog W .any base t v := hval0
  have hW' := hW
  obtain ⟨p, q, hA0, hV, rfl, hfz, hnd⟩ := hW
  have hA : DataW.TrodAll enc Try.prog W 0 (fun _ => true) true Try.f3.params.toList args.toList ds p := hA0
  rw [Try.params3] at hA hval
  obtain ⟨v0, v1, v2, d0, d1, d2, p0, p1, p2, rfl, rfl, rfl, h0, h1, h2⟩ := trodAll_three hA
  obtain ⟨rfl, rfl⟩ := trodVars_none hV
  obtain ⟨a0, n0, c0, rfl⟩ := okWide_slice Try.underlying22 (hval 0 22 v0 rfl rfl)
  obtain ⟨i, j, rfl, wi, wj⟩ := arr2_nums Try.underlying23 Try.underlying3 (by kernel_rfl) (by kernel_rfl) (hval 1 23 v1 rfl rfl) h1
  obtain ⟨x, y, rfl, wx, wy⟩ := arr2_nums Try.underlying25 Try.underlying24 (by kernel_rfl) (by kernel_rfl) (hval 2 25 v2 rfl rfl) h2
  obtain ⟨fuel, hf⟩ := h0
  obtain ⟨b, off, l, rfl, hl, ha, hb, hc, _, _⟩ := slice_words hf
  clear hA0 hval0
  have bx := u64_bounds wx
  have bY := u64_bounds wy
  obtain ⟨x, rfl⟩ : ∃ t : Nat, x = t := ⟨x.toNat, by omega⟩
  obtain ⟨y, rfl⟩ : ∃ t : Nat, y = t := ⟨y.toNat, by omega⟩
  have walk : Calls Try.prog 3 #[.slice a0 l.length c0, .agg #[.int .i64 i, .int .i64 j], .agg #[.int .u64 x, .int .u64 y]] W fun e w' => e = .returned (.bool true) ∧ Below W.heap.size W w' := by
    by_cases hn : 65536 < l.length
    · exact last_long a0 c0 l.length i j x y W hn
    · by_cases ho : i < 0 ∨ (l.length : Int) ≤ i ∨ j < 0 ∨ (l.length : Int) ≤ j
      · exact last_out a0 b off c0 l i j x y W (by omega) ha hb hc ho
      · obtain ⟨i, rfl⟩ : ∃ t : Nat, i = t := ⟨i.toNat, by omega⟩
        obtain ⟨j, rfl⟩ : ∃ t : Nat, j = t := ⟨j.toNat, by omega⟩
        by_cases hij : i = j
        · subst hij
          exact last_same a0 b off c0 l i x y W (by omega) ha hb hc (by omega)
        · exact last_two a0 b off c0 l i j x y W (by omega) ha hb hc (by omega) (by omega) hij
  refine walk.mono fun e W' ⟨he, hb⟩ => ?_
  subst he
  exact ⟨_, rfl, law_post memLast_laid (by kernel_rfl) rfl hW' hb rfl (tb := 4) (by kernel_rfl) Try.underlying4⟩

theorem memLast_holds : Rows.MemLastSaid :=
  OpenClaim.holds_of_wide 3 Try.f3 rfl rfl rfl rfl rfl rfl rfl ⟨rfl, rfl, rfl, rfl, rfl⟩ rfl rfl rfl rfl rfl (by kernel_rfl) Try.func3 (by kernel_rfl)
    (of_decide_eq_true (by kernel_rfl)) (by unfold Func.isWrapper; first | (rw [if_pos (by decide +kernel)]; kernel_rfl) | (rw [if_neg (by decide +kernel)]; exact ⟨rfl, rfl⟩))
    (fun os started H enc _ => memLast_lifted os started H enc)
end Go.Proofs.Ytehcfflofacapab
