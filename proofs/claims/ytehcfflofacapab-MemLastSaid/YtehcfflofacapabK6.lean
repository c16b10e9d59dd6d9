/- An argument that is a list of words. -/
import Derived.Test.YtehcfflofacapabN3
import Derived.Test.YtehcfflofacapabK5
namespace Go.Proofs.Ytehcfflofacapab
open Go.ChangeShapes Go.WideShapes Go.ChangeAt Go.RowKit

/-- an argument of words -/
theorem slice_words {H : Type} {enc : TypeId × Value → H} {w : World} {base : Nat} {spare : Nat → Bool} {held : Bool} {fuel : Nat} {ao : Option Addr} {n cap : Nat} {x : DataW H × List MemPlace}
    (h : DataW.trod enc Try.prog w base spare held fuel 22 [.slice ao n cap] = some x) :
    ∃ (b off : Nat) (l : List Nat), n = l.length ∧ l.length ≤ maxLen ∧ (0 < l.length → ao = some ⟨b, off, none⟩) ∧ (0 < l.length → b < w.heap.size) ∧ UCells w b off l ∧ (ao = none → cap = 0) ∧ ∀ x ∈ l, x < 18446744073709551616 := by
  have hnil : ao = none → cap = 0 := fun e => by subst e; exact nil_no_room Try.underlying22 h
  obtain ⟨ao', b, off, cap', l, hcs, hl, ha, hb, hq⟩ := slice_nums Try.underlying22 (by kernel_rfl) Try.underlying24 h
  simp only [List.cons.injEq, Value.slice.injEq, and_true] at hcs
  obtain ⟨rfl, rfl, rfl⟩ := hcs
  obtain ⟨k, rfl, hk⟩ := nats_of (l := l) (fun z hz => by
    obtain ⟨i, hi⟩ := List.mem_iff_getElem?.1 hz
    exact u64_bounds (hq i z hi).2)
  rw [List.length_map] at *
  refine ⟨b, off, k, rfl, hl, ha, hb, fun i x hx => ?_, hnil, hk⟩
  exact (hq i x (by rw [List.getElem?_map, hx]; rfl)).1
end Go.Proofs.Ytehcfflofacapab
