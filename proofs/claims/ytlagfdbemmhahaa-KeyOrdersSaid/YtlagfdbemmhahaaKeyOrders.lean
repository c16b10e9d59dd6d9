/- KeyOrders: for every list of keys, the law returns true, and its argument reads as it did. No condition. -/
import Derived.Test.YtlagfdbemmhahaaRows
import Derived.Test.YtlagfdbemmhahaaVC
import Derived.Test.YtlagfdbemmhahaaK2
namespace Go.Proofs.Ytlagfdbemmhahaa
open Go.ChangeShapes Go.WideShapes Go.ChangeAt Go.RowKit

theorem keyOrders_own : ownKnob Try.prog.godebug = none := by kernel_rfl
theorem keyOrders_laid : laidOutB Try.prog = true := by kernel_rfl

theorem slice_keys {H : Type} {enc : TypeId × Value → H} {w : World} {base : Nat} {spare : Nat → Bool} {held : Bool} {fuel : Nat} {cs : List Value} {x : DataW H × List MemPlace}
    (h : DataW.trod enc Try.prog w base spare held fuel 38 cs = some x) :
    ∃ (ao : Option Addr) (b off cap : Nat) (ls : List (List Int)), cs = [.slice ao ls.length cap] ∧ ls.length ≤ maxLen ∧ (0 < ls.length → ao = some ⟨b, off, none⟩) ∧ (0 < ls.length → b < w.heap.size) ∧ LCells w w.heap.size b off ls := by
  obtain ⟨ao, b, off, len, cap, rfl, hl, ha, hi⟩ := slice_cells Try.underlying38 (sz := 1) (by kernel_rfl) (by omega) h
  have := list_of (n := len) (Q := fun i (l : List Int) => ∃ ao b' o' c, w.cell? ⟨b, off + i, none⟩ = some (.slice ao l.length c) ∧ (0 < l.length → ao = some ⟨b', o', none⟩) ∧ (0 < l.length → b' < w.heap.size) ∧ ICells w b' o' l ∧ l.length ≤ 9223372036854775807) (fun i hil => by
    obtain ⟨cs', y, n, hcl, htr, hat⟩ := hi i hil
    obtain ⟨ao', b', o', c', l, rfl, hl2, ha2, hb2, hq⟩ := slice_nums Try.underlying22 (by kernel_rfl) Try.underlying3 htr
    have h1 := hat 0 (by omega)
    rw [Nat.mul_one, Nat.add_zero] at h1
    unfold maxLen at hl2
    exact ⟨l, ao', b', o', c', h1, ha2, hb2, fun j x hx => ⟨(hq j x hx).1, i64_bounds (hq j x hx).2⟩, by omega⟩)
  obtain ⟨ls, rfl, hq⟩ := this
  exact ⟨ao, b, off, cap, ls, rfl, hl, fun h => (ha h).1, fun h => (ha h).2, hq⟩

set_option maxRecDepth 100000 in
theorem keyOrders_lifted (os : Os) (started : os.Started) (H : Type) (enc : TypeId × Value → H) :
    ReturnsInHanded {} Try.checked os 6 .any (Rows.keyOrdersSpec.pre6 enc Try.prog Try.f6 Rows.keyOrdersRow.domain false) (Rows.keyOrdersSpec.post enc Try.prog Try.f6 false true false false) := by
  refine returnsInHanded_of_change (C := Try.checked) keyOrders_own started (by kernel_rfl) Try.func6
    (ChangeSpec.witness6 (enc := enc) (C := Try.checked) false ⟨#[], #[.slice none 0 0], []⟩ 8 (by kernel_rfl) (by kernel_rfl) (by kernel_rfl) (by kernel_rfl)) ?_
  intro W base args ds gs before hval0 hW hcnd _
  have hval : ∀ (j : Nat) t v, Try.f6.params[j]? = some t → args[j]? = some v → Value.okWide Try.prog W .any base t v := hval0
  have hW' := hW
  obtain ⟨p, q, hA0, hV, rfl, hfz, hnd⟩ := hW
  have hA : DataW.TrodAll enc Try.prog W 0 (fun _ => true) true Try.f6.params.toList args.toList ds p := hA0
  rw [Try.params6] at hA hval
  obtain ⟨v0, d0, rfl, rfl, h0⟩ := trodAll_one hA
  obtain ⟨rfl, rfl⟩ := trodVars_none hV
  obtain ⟨a0, n0, c0, rfl⟩ := okWide_slice Try.underlying38 (hval 0 38 v0 rfl rfl)
  obtain ⟨fuel, hf⟩ := h0
  obtain ⟨ao, b, off, cap, ls, hcs, hl, ha, hb, hc⟩ := slice_keys hf
  simp [Value.cells] at hcs
  obtain ⟨rfl, rfl, rfl⟩ := hcs
  clear hA0 hval0
  unfold maxLen at hl
  have walk := orders_walk a0 b off c0 ls W (by omega) ha hb hc
  refine walk.mono fun e W' ⟨he, hb⟩ => ?_
  subst he
  exact ⟨_, rfl, law_post keyOrders_laid (by kernel_rfl) rfl hW' hb rfl (tb := 4) (by kernel_rfl) Try.underlying4⟩

theorem keyOrders_holds : Rows.KeyOrdersSaid :=
  OpenClaim.holds_of_wide 6 Try.f6 rfl rfl rfl rfl rfl rfl rfl ⟨rfl, rfl, rfl, rfl, rfl⟩ rfl rfl rfl rfl rfl (by kernel_rfl) Try.func6 (by kernel_rfl)
    (of_decide_eq_true (by kernel_rfl)) (by unfold Func.isWrapper; first | (rw [if_pos (by decide +kernel)]; kernel_rfl) | (rw [if_neg (by decide +kernel)]; exact ⟨rfl, rfl⟩))
    (fun os started H enc _ => keyOrders_lifted os started H enc)
end Go.Proofs.Ytlagfdbemmhahaa
