/- WordPacks: for every list of fields, the law returns true, and its argument reads as it did. No condition. -/
import Derived.Test.YtehcfflofacapaaRows
import Derived.Test.YtehcfflofacapaaH
import Derived.Test.YtehcfflofacapaaK2
namespace Go.Proofs.Ytehcfflofacapaa
open Go.ChangeShapes Go.WideShapes Go.ChangeAt Go.RowKit

theorem wordPacks_own : ownKnob Try.prog.godebug = none := by kernel_rfl
theorem wordPacks_laid : laidOutB Try.prog = true := by kernel_rfl

theorem slice_fields {H : Type} {enc : TypeId × Value → H} {w : World} {base : Nat} {spare : Nat → Bool} {held : Bool} {fuel : Nat} {cs : List Value} {x : DataW H × List MemPlace}
    (h : DataW.trod enc Try.prog w base spare held fuel 35 cs = some x) :
    ∃ (ao : Option Addr) (b off cap : Nat) (l : List (Int × Nat)), cs = [.slice ao l.length cap] ∧ l.length ≤ maxLen ∧ (0 < l.length → ao = some ⟨b, off, none⟩) ∧ (0 < l.length → b < w.heap.size) ∧ FCells w b off l := by
  obtain ⟨ao, b, off, len, cap, rfl, hl, ha, hi⟩ := slice_cells Try.underlying35 (sz := 2) (by kernel_rfl) (by omega) h
  have := list_of (n := len) (Q := fun i (x : Int × Nat) => w.cell? ⟨b, off + i * 2, none⟩ = some (.int .i64 x.1) ∧ w.cell? ⟨b, off + i * 2 + 1, none⟩ = some (.int .u64 x.2) ∧
      (-9223372036854775808 ≤ x.1 ∧ x.1 ≤ 9223372036854775807) ∧ x.2 < 18446744073709551616) (fun i hil => by
    obtain ⟨cs', y, n, hcl, htr, hat⟩ := hi i hil
    obtain ⟨s, hs, ws⟩ := field_cell Try.underlying39 htr (i := 0) (o := 0) rfl rfl (by kernel_rfl) Try.underlying3
    obtain ⟨v, hv, wv⟩ := field_cell Try.underlying39 htr (i := 1) (o := 1) rfl rfl (by kernel_rfl) Try.underlying22
    have bv := u64_bounds wv
    obtain ⟨v, rfl⟩ : ∃ t : Nat, v = t := ⟨v.toNat, by omega⟩
    exact ⟨(s, v), (hat 0 (by omega)).trans hs, (hat 1 (by omega)).trans hv, i64_bounds ws, by omega⟩)
  obtain ⟨l, rfl, hq⟩ := this
  exact ⟨ao, b, off, cap, l, rfl, hl, fun h => (ha h).1, fun h => (ha h).2, hq⟩

set_option maxRecDepth 100000 in
theorem wordPacks_lifted (os : Os) (started : os.Started) (H : Type) (enc : TypeId × Value → H) :
    ReturnsInHanded {} Try.checked os 5 .any (Rows.wordPacksSpec.pre6 enc Try.prog Try.f5 Rows.wordPacksRow.domain false) (Rows.wordPacksSpec.post enc Try.prog Try.f5 false true false false) := by
  refine returnsInHanded_of_change (C := Try.checked) wordPacks_own started (by kernel_rfl) Try.func5
    (ChangeSpec.witness6 (enc := enc) (C := Try.checked) false ⟨#[], #[.slice none 0 0], []⟩ 8 (by kernel_rfl) (by kernel_rfl) (by kernel_rfl) (by kernel_rfl)) ?_
  intro W base args ds gs before hval0 hW hcnd _
  have hval : ∀ (j : Nat) t v, Try.f5.params[j]? = some t → args[j]? = some v → Value.okWide Try.prog W .any base t v := hval0
  have hW' := hW
  obtain ⟨p, q, hA0, hV, rfl, hfz, hnd⟩ := hW
  have hA : DataW.TrodAll enc Try.prog W 0 (fun _ => true) true Try.f5.params.toList args.toList ds p := hA0
  rw [Try.params5] at hA hval
  obtain ⟨v0, d0, rfl, rfl, h0⟩ := trodAll_one hA
  obtain ⟨rfl, rfl⟩ := trodVars_none hV
  obtain ⟨a0, n0, c0, rfl⟩ := okWide_slice Try.underlying35 (hval 0 35 v0 rfl rfl)
  obtain ⟨fuel, hf⟩ := h0
  obtain ⟨ao, b, off, cap, l, hcs, hl, ha, hb, hc⟩ := slice_fields hf
  simp [Value.cells] at hcs
  obtain ⟨rfl, rfl, rfl⟩ := hcs
  clear hA0 hval0
  unfold maxLen at hl
  refine (packs_walk a0 b off c0 l W (by omega) hb ha hc).mono fun e W' ⟨he, hb⟩ => ?_
  subst he
  exact ⟨_, rfl, law_post wordPacks_laid (by kernel_rfl) rfl hW' hb rfl (tb := 4) (by kernel_rfl) Try.underlying4⟩

theorem wordPacks_holds : Rows.WordPacksSaid :=
  OpenClaim.holds_of_wide 5 Try.f5 rfl rfl rfl rfl rfl rfl rfl ⟨rfl, rfl, rfl, rfl, rfl⟩ rfl rfl rfl rfl rfl (by kernel_rfl) Try.func5 (by kernel_rfl)
    (of_decide_eq_true (by kernel_rfl)) (by unfold Func.isWrapper; first | (rw [if_pos (by decide +kernel)]; kernel_rfl) | (rw [if_neg (by decide +kernel)]; exact ⟨rfl, rfl⟩))
    (fun os started H enc _ => wordPacks_lifted os started H enc)
end Go.Proofs.Ytehcfflofacapaa
