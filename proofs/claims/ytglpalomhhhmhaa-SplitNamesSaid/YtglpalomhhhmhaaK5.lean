/- Opening, over any program: a struct of four numbers by value; a slice of words; a nil slice has no room. -/
import Derived.Test.YtglpalomhhhmhaaK2
namespace Go.Proofs.Ytglpalomhhhmhaa
open Go.ChangeShapes Go.WideShapes Go.ChangeAt Go.RowKit
section
variable {H : Type} {enc : TypeId × Value → H} {P : Program} {w : World} {base : Nat} {spare : Nat → Bool} {held : Bool}

theorem nil_no_room {t e : TypeId} {fuel len cap : Nat} {x : DataW H × List MemPlace} (ht : P.underlying t = some (.slice e)) (h : DataW.trod enc P w base spare held fuel t [.slice none len cap] = some x) : cap = 0 := by
  rcases DataW.trod_slice ht h with ⟨h1, _⟩ | ⟨a, l, c, _, _, _, _, h1, _⟩
  · simp at h1; exact h1.2
  · simp at h1

theorem struct4_nums {t : TypeId} {fs : Array Field} {f0 f1 f2 f3 : Field} {q0 q1 q2 q3 : IntKind} {r : Reach} {b0 : Nat} {v : Value} {d : DataW H} {p : List MemPlace} (ht : P.underlying t = some (.struct fs)) (hct : P.cellsOf t = 4)
    (h0 : fs[0]? = some f0) (o0 : f0.offset = 0) (c0 : P.cellsOf f0.type = 1) (k0 : P.underlying f0.type = some (.int q0))
    (h1 : fs[1]? = some f1) (o1 : f1.offset = 1) (c1 : P.cellsOf f1.type = 1) (k1 : P.underlying f1.type = some (.int q1))
    (h2 : fs[2]? = some f2) (o2 : f2.offset = 2) (c2 : P.cellsOf f2.type = 1) (k2 : P.underlying f2.type = some (.int q2))
    (h3 : fs[3]? = some f3) (o3 : f3.offset = 3) (c3 : P.cellsOf f3.type = 1) (k3 : P.underlying f3.type = some (.int q3))
    (hv : Value.okWide P w r b0 t v) (h : DataW.Trod enc P w base spare held t v d p) :
    ∃ z0 z1 z2 z3 : Int, v = .agg #[.int q0 z0, .int q1 z1, .int q2 z2, .int q3 z3] ∧ (Lit.int q0 z0).wf = true ∧ (Lit.int q1 z1).wf = true ∧ (Lit.int q2 z2).wf = true ∧ (Lit.int q3 z3).wf = true := by
  obtain ⟨cs, rfl, hcs⟩ := okWide_struct ht hv
  obtain ⟨fuel, h⟩ := h
  obtain ⟨z0, e0, w0⟩ := field_cell ht h h0 o0 c0 k0
  obtain ⟨z1, e1, w1⟩ := field_cell ht h h1 o1 c1 k1
  obtain ⟨z2, e2, w2⟩ := field_cell ht h h2 o2 c2 k2
  obtain ⟨z3, e3, w3⟩ := field_cell ht h h3 o3 c3 k3
  obtain ⟨l⟩ := cs
  rw [hct] at hcs
  match l, hcs with
  | [x0, x1, x2, x3], _ =>
    simp [Value.cells] at e0 e1 e2 e3
    subst e0; subst e1; subst e2; subst e3
    exact ⟨z0, z1, z2, z3, rfl, w0, w1, w2, w3⟩
end

/-- words, as natural numbers -/
theorem nats_of {l : List Int} (h : ∀ z ∈ l, 0 ≤ z ∧ z ≤ 18446744073709551615) : ∃ k : List Nat, l = k.map (fun x : Nat => (x : Int)) ∧ ∀ x ∈ k, x < 18446744073709551616 := by
  refine ⟨l.map Int.toNat, ?_, ?_⟩
  · rw [List.map_map]
    conv => lhs; rw [← List.map_id l]
    apply List.map_congr_left
    intro z hz
    have := h z hz
    simp; omega
  · intro x hx
    obtain ⟨z, hz, rfl⟩ := List.mem_map.1 hx
    have := h z hz
    omega
end Go.Proofs.Ytglpalomhhhmhaa
