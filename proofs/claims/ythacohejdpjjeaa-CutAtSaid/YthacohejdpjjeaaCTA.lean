/- Over any program: a map of the call's own, from numbers to numbers: any number may be a key. -/
import Derived.Test.YthacohejdpjjeaaU
namespace Go.Proofs.Ythacohejdpjjeaa
open Go.ChangeShapes Go.WideShapes Go.ChangeAt Go.RowKit Go.Maps

/-- block b is a map of at most n entries; g: what is there -/
def MapN (P : Program) (k : TypeId) (w : World) (b n : Nat) (g : Int → Option Int) : Prop :=
  ∃ D : DataW Value, w.ownsMap P k rawEl b n D ∧ (∀ a, D.atKey (.int .i64 a) (.held (.int .i64 0)) = .held (.int .i64 ((g a).getD 0))) ∧ ∀ a, Maps.has D (.int .i64 a) = (g a).isSome
section
variable {P : Program} {k t e : TypeId} {w w' : World} {b n : Nat} {g : Int → Option Int}
theorem MapN.made (P : Program) (k : TypeId) (w : World) : MapN P k (w.alloc (.map #[] 0)) w.heap.size 0 (fun _ => none) :=
  ⟨.map [], World.ownsMap_made w P k rawEl, fun _ => rfl, fun _ => rfl⟩
theorem MapN.lt (h : MapN P k w b n g) : b < w.heap.size := by obtain ⟨D, h, _⟩ := h; exact h.lt
theorem MapN.same (h : MapN P k w b n g) (e : w'.heap[b]? = w.heap[b]?) : MapN P k w' b n g := by
  obtain ⟨D, ⟨es, c, h0, h1⟩, h2⟩ := h
  exact ⟨D, ⟨es, c, e.trans h0, h1⟩, h2⟩
theorem MapN.below (h : MapN P k w b n g) {B : Nat} (hb : Below B w w') (hB : b < B) : MapN P k w' b n g := h.same (hb.block b hB)
theorem MapN.alloc (h : MapN P k w b n g) (o : Obj) : MapN P k (w.alloc o) b n g := h.same (Below.heap_alloc _ _ _ h.lt)
theorem MapN.drewN (h : MapN P k w b n g) (m : Nat) : MapN P k (w.drewN m) b n g := h
theorem MapN.no_cells (h : MapN P k w b n g) {c : Array Value} {ty : TypeId} {fr : Nat × Nat} : w.heap[b]? ≠ some (.cells c ty fr) := by
  obtain ⟨D, ⟨es, cl, h0, _⟩, _⟩ := h
  rw [h0]; simp
theorem MapN.look (h : MapN P k w b n g) (hk : P.underlying k = some (.int .i64)) (ht : P.underlying t = some (.map k e)) (hz : (zeroValue e).run P w = .ok (.int .i64 0) w) {a : Int} (ha : (Lit.int .i64 a).wf = true) :
    (Instr.lookup t (.map (some b)) (.int .i64 a) false).run P w = .ok (.int .i64 ((g a).getD 0)) w := by
  obtain ⟨D, h, h2, _⟩ := h
  obtain ⟨v, ps, hr, hv⟩ := h.lookup (int_keyed hk) ht hz (zd := .held (.int .i64 0)) (zp := []) rfl (keyOf_int_mk hk ha)
  rw [h2 a] at hv
  simp only [rawEl, Option.some.injEq, Prod.mk.injEq, DataW.held.injEq] at hv
  rw [hr, hv.1]
theorem MapN.lookOk (h : MapN P k w b n g) (hk : P.underlying k = some (.int .i64)) (ht : P.underlying t = some (.map k e)) (hz : (zeroValue e).run P w = .ok (.int .i64 0) w) {a : Int} (ha : (Lit.int .i64 a).wf = true) :
    (Instr.lookup t (.map (some b)) (.int .i64 a) true).run P w = .ok (.tuple #[.int .i64 ((g a).getD 0), .bool (g a).isSome]) w := by
  obtain ⟨D, h, h2, h3⟩ := h
  obtain ⟨v, ps, hr, hv⟩ := h.look_ok (int_keyed hk) ht hz (zd := .held (.int .i64 0)) (zp := []) rfl (keyOf_int_mk hk ha)
  rw [h2 a] at hv
  simp only [rawEl, Option.some.injEq, Prod.mk.injEq, DataW.held.injEq] at hv
  rw [hr, hv.1, h3 a]
theorem MapN.store (h : MapN P k w b n g) (hk : P.underlying k = some (.int .i64)) (ht : P.underlying t = some (.map k e)) (hn : n < maxLen) {a : Int} (ha : (Lit.int .i64 a).wf = true) (v : Int) :
    ∃ w', (Instr.mapUpdate t (.map (some b)) (.int .i64 a) (.int .i64 v)).run P w = .ok () w' ∧ MapN P k w' b (n + 1) (updF g a (some v)) ∧ w.mapTurned w' b := by
  obtain ⟨D, h, h2, h3⟩ := h
  obtain ⟨w', hr, ho, hm⟩ := h.store (int_keyed hk) ht hn (val := .int .i64 v) (d := .held (.int .i64 v)) (ps := []) (keyOf_int_mk hk ha) rfl
  refine ⟨w', hr, ⟨_, ho, fun x => ?_, fun x => ?_⟩, hm⟩
  · by_cases hxa : x = a
    · subst hxa
      rw [atKey_put_same h.isMap (isKey_int _), updF_same]; rfl
    · rw [atKey_put_other (by simp [hxa]), h2, updF_other _ _ hxa]
  · by_cases hxa : x = a
    · subst hxa
      rw [has_put_same h.isMap (isKey_int _), updF_same]; rfl
    · rw [has_put_other (by simp [hxa]), h3, updF_other _ _ hxa]
end
end Go.Proofs.Ythacohejdpjjeaa
