/- An argument that is a list of words. -/
import Derived.Test.YtlcnhmijagddgaaSA
namespace Go.Proofs.Ytlcnhmijagddgaa
open Go.ChangeShapes Go.WideShapes Go.ChangeAt Go.RowKit

/-- an argument of words -/
theorem slice_argW {H : Type} {enc : TypeId × Value → H} {w : World} {base : Nat} {spare : Nat → Bool} {held : Bool} {fuel : Nat} {v : Value} {x : DataW H × List MemPlace}
    (h : DataW.trod enc Try.prog w base spare held fuel 22 [v] = some x) :
    ∃ l : List Nat, ArgW w v l ∧ l.length ≤ 9223372036854775807 ∧ ∀ x ∈ l, x < 18446744073709551616 := by
  obtain ⟨ao, b, off, cap, l, hcs, hl, ha, hb, hq⟩ := slice_nums Try.underlying22 (by kernel_rfl) Try.underlying29 h
  simp only [List.cons.injEq, and_true] at hcs
  subst hcs
  have hnil : ao = none → cap = 0 := fun e => by subst e; exact nil_no_room Try.underlying22 h
  obtain ⟨k, rfl, hk⟩ := nats_of (l := l) (fun z hz => by
    obtain ⟨i, hi⟩ := List.mem_iff_getElem?.1 hz
    exact u64_bounds (hq i z hi).2)
  rw [List.length_map] at *
  unfold maxLen at hl
  exact ⟨k, ⟨ao, b, off, cap, rfl, ha, hnil, fun i x hx => (hq i x (by rw [List.getElem?_map, hx]; rfl)).1⟩, hl, hk⟩
end Go.Proofs.Ytlcnhmijagddgaa
