/- Opening: an argument of bytes. -/
import Derived.Test.YticaheiomidanaaIO
import Derived.Test.YticaheiomidanaaK5
namespace Go.Proofs.Yticaheiomidanaa
open Go.ChangeShapes Go.WideShapes Go.ChangeAt Go.RowKit
theorem u8_bounds {z : Int} (h : (Lit.int .u8 z).wf = true) : 0 ≤ z ∧ z ≤ 255 := by
  simp [Lit.wf, IntKind.min, IntKind.max, IntKind.bits, IntKind.signed] at h
  omega
/-- an argument of bytes -/
theorem slice_bytes {H : Type} {enc : TypeId × Value → H} {w : World} {base : Nat} {spare : Nat → Bool} {held : Bool} {fuel : Nat} {ao : Option Addr} {n cap : Nat} {x : DataW H × List MemPlace}
    (h : DataW.trod enc Try.prog w base spare held fuel 28 [.slice ao n cap] = some x) :
    ∃ (b off : Nat) (l : List Nat), n = l.length ∧ l.length ≤ 9223372036854775807 ∧ (0 < l.length → ao = some ⟨b, off, none⟩) ∧ (0 < l.length → b < w.heap.size) ∧ BCells w b off l := by
  obtain ⟨ao', b, off, cap', l, hcs, hl, ha, hb, hq⟩ := slice_nums Try.underlying28 (by kernel_rfl) Try.underlying5 h
  simp only [List.cons.injEq, Value.slice.injEq, and_true] at hcs
  obtain ⟨rfl, rfl, rfl⟩ := hcs
  unfold maxLen at hl
  refine ⟨b, off, l.map Int.toNat, by simp, by simpa using hl, by simpa using ha, by simpa using hb, ?_⟩
  intro i x hx
  rw [List.getElem?_map, Option.map_eq_some_iff] at hx
  obtain ⟨z, hz, rfl⟩ := hx
  obtain ⟨h1, h2⟩ := hq i z hz
  have := u8_bounds h2
  exact ⟨by rw [h1, Int.toNat_of_nonneg this.1], by omega⟩
end Go.Proofs.Yticaheiomidanaa
