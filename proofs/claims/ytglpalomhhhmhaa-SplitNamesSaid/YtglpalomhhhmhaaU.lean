/- Over any program: a map of the call's own, by numbers from 0 to 15, whose elements are known as the values that they are. -/
import Derived.Test.YtglpalomhhhmhaaK3
import Derived.Maps.OwnSet
import Derived.Maps.RangeWalk
import Derived.Maps.AppendAt
namespace Go.Proofs.Ytglpalomhhhmhaa
open Go.ChangeShapes Go.WideShapes Go.ChangeAt Go.RowKit Go.Maps

/-- an element as it lies -/
def rawEl (v : Value) : Option (DataW Value × List MemPlace) := some (.held v, [])

def updF {α : Type} (f : Int → α) (a : Int) (v : α) : Int → α := fun x => if x = a then v else f x
theorem updF_same {α : Type} (f : Int → α) (a : Int) (v : α) : updF f a v a = v := by simp [updF]
theorem updF_other {α : Type} (f : Int → α) {a b : Int} (v : α) (h : b ≠ a) : updF f a v b = f b := by simp [updF, h]

/-- block b is a map of at most n entries, whose keys are in K0, whose element at a is f a, z where there is none -/
def MapIs (P : Program) (k : TypeId) (w : World) (b n : Nat) (z : Value) (f : Int → Value) : Prop :=
  ∃ D : DataW Value, w.ownsMap P k rawEl b n D ∧ (∀ a, D.atKey (.int .i64 a) (.held z) = .held (f a)) ∧ ∀ a, Maps.has D (.int .i64 a) = true → 0 ≤ a ∧ a < 16

section
variable {P : Program} {k t e : TypeId} {w w' : World} {b r n : Nat} {z : Value} {f : Int → Value} {left : Int → Bool}

theorem MapIs.made (P : Program) (k : TypeId) (w : World) (z : Value) : MapIs P k (w.alloc (.map #[] 0)) w.heap.size 0 z (fun _ => z) :=
  ⟨.map [], World.ownsMap_made w P k rawEl, fun _ => rfl, fun a h => by simp [Maps.has] at h⟩

theorem MapIs.lt (h : MapIs P k w b n z f) : b < w.heap.size := by obtain ⟨D, h, _⟩ := h; exact h.lt
theorem MapIs.kept {row : Option Nat} (h : MapIs P k w b n z f) (hg : w.grownBy w' row) (hne : some b ≠ row) : MapIs P k w' b n z f := by
  obtain ⟨D, h, h2⟩ := h; exact ⟨D, h.kept hg hne, h2⟩
theorem MapIs.alloc (h : MapIs P k w b n z f) (o : Obj) : MapIs P k (w.alloc o) b n z f := h.kept (World.grownBy_alloc w o none) (by simp)
theorem MapIs.drew (h : MapIs P k w b n z f) : MapIs P k w.drew b n z f := h
theorem MapIs.drewN (h : MapIs P k w b n z f) (m : Nat) : MapIs P k (w.drewN m) b n z f := h
theorem MapIs.below (h : MapIs P k w b n z f) {B : Nat} (hb : Below B w w') (hB : b < B) : MapIs P k w' b n z f := by
  obtain ⟨D, ⟨es, c, h0, h1⟩, h2⟩ := h
  exact ⟨D, ⟨es, c, (hb.block b hB).trans h0, h1⟩, h2⟩
theorem MapIs.mono (h : MapIs P k w b n z f) {n' : Nat} (hn : n ≤ n') : MapIs P k w b n' z f := by obtain ⟨D, h, h2⟩ := h; exact ⟨D, h.mono hn, h2⟩
theorem MapIs.setCell (h : MapIs P k w b n z f) {a : Addr} (ha : b ≠ a.block) (u : Value) : MapIs P k (w.setCell a u) b n z f := by
  obtain ⟨D, h, h2⟩ := h; exact ⟨D, h.setCell ha u, h2⟩
/-- block b holds no cells -/
theorem MapIs.no_cells (h : MapIs P k w b n z f) {c : Array Value} {ty : TypeId} {fr : Nat × Nat} : w.heap[b]? ≠ some (.cells c ty fr) := by
  obtain ⟨D, ⟨es, cl, h0, _⟩, _⟩ := h
  rw [h0]; simp
theorem MapIs.no_cell (h : MapIs P k w b n z f) (p : Addr) (hp : p.block = b) : w.cell? p = none := by
  obtain ⟨D, ⟨es, cl, h0, _⟩, _⟩ := h
  subst hp
  unfold World.cell?
  simp only [h0]

theorem MapIs.look (h : MapIs P k w b n z f) (hk : P.underlying k = some (.int .i64)) (ht : P.underlying t = some (.map k e)) (hz : (zeroValue e).run P w = .ok z w) {a : Int} (ha : (Lit.int .i64 a).wf = true) :
    (Instr.lookup t (.map (some b)) (.int .i64 a) false).run P w = .ok (f a) w := by
  obtain ⟨D, h, h2, _⟩ := h
  obtain ⟨v, ps, hr, hv⟩ := h.lookup (int_keyed hk) ht hz (zd := .held z) (zp := []) rfl (keyOf_int_mk hk ha)
  rw [h2 a] at hv
  simp only [rawEl, Option.some.injEq, Prod.mk.injEq, DataW.held.injEq] at hv
  rw [hr, hv.1]

theorem isKey_int (a : Int) : WideAt.IsKeyLit (.int .i64 a) := by simp [WideAt.IsKeyLit]

theorem MapIs.store (h : MapIs P k w b n z f) (hk : P.underlying k = some (.int .i64)) (ht : P.underlying t = some (.map k e)) (hn : n < maxLen) {a : Int} (ha : 0 ≤ a ∧ a < 16) (v : Value) :
    ∃ w', (Instr.mapUpdate t (.map (some b)) (.int .i64 a) v).run P w = .ok () w' ∧ MapIs P k w' b (n + 1) z (updF f a v) ∧ w.mapTurned w' b := by
  obtain ⟨D, h, h2, h3⟩ := h
  have wf : (Lit.int .i64 a).wf = true := WalkArith.wf_i64 (by omega)
  obtain ⟨w', hr, ho, hm⟩ := h.store (int_keyed hk) ht hn (val := v) (d := .held v) (ps := []) (keyOf_int_mk hk wf) rfl
  refine ⟨w', hr, ⟨_, ho, fun x => ?_, fun x hx => ?_⟩, hm⟩
  · by_cases hxa : x = a
    · subst hxa
      rw [atKey_put_same h.isMap (isKey_int _), updF_same]
    · rw [atKey_put_other (by simp [hxa]), h2, updF_other _ _ hxa]
  · by_cases hxa : x = a
    · subst hxa; exact ha
    · rw [has_put_other (by simp [hxa])] at hx
      exact h3 x hx

theorem MapIs.drop (h : MapIs P k w b n z f) (hk : P.underlying k = some (.int .i64)) (ht : P.underlying t = some (.map k e)) {a : Int} (ha : 0 ≤ a ∧ a < 16) (ty : TypeId) :
    ∃ w', (Builtin.delete_ #[t, k] ty #[.map (some b), .int .i64 a]).run P w = .ok (.tuple #[]) w' ∧ MapIs P k w' b n z (updF f a z) ∧ w.mapTurned w' b := by
  obtain ⟨D, h, h2, h3⟩ := h
  have wf : (Lit.int .i64 a).wf = true := WalkArith.wf_i64 (by omega)
  obtain ⟨w', hr, ho, hm⟩ := h.drop (int_keyed hk) ht (keyOf_int_mk hk wf) ty
  refine ⟨w', hr, ⟨_, ho, fun x => ?_, fun x hx => ?_⟩, hm⟩
  · by_cases hxa : x = a
    · subst hxa
      rw [atKey_del_same, updF_same]
    · rw [atKey_del_other (by simp [hxa]), h2, updF_other _ _ hxa]
  · by_cases hxa : x = a
    · subst hxa; exact ha
    · rw [has_del_other (by simp [hxa])] at hx
      exact h3 x hx

/-- ranging over such a map: block r tells who is left -/
def RangeIs (P : Program) (k : TypeId) (w : World) (b r n : Nat) (z : Value) (f : Int → Value) (left : Int → Bool) : Prop :=
  ∃ (D : DataW Value) (lf : Lit → Bool) (cnt : Nat), w.ranges P k rawEl b r n D lf cnt ∧ (∀ a, D.atKey (.int .i64 a) (.held z) = .held (f a)) ∧ (∀ a, Maps.has D (.int .i64 a) = true → 0 ≤ a ∧ a < 16) ∧ (∀ a, lf (.int .i64 a) = left a) ∧
    (∀ a, left a = true → 0 ≤ a ∧ a < 16)

theorem MapIs.range (h : MapIs P k w b n z f) (hk : P.underlying k = some (.int .i64)) (ht : P.underlying t = some (.map k e)) :
    ∃ w' left, (Instr.range t (.map (some b))).run P w = .ok (.pointer (some ⟨w.heap.size, 0, none⟩)) w' ∧ RangeIs P k w' b w.heap.size n z f left ∧ w.grownBy w' none ∧ w'.heap.size = w.heap.size + 1 ∧ ∀ a, left a = false → f a = z := by
  obtain ⟨D, h, h2, h3⟩ := h
  obtain ⟨w', hr, hg, h4, h5⟩ := h.range (int_keyed hk) ht
  refine ⟨w', fun a => Maps.has D (.int .i64 a), hr, ⟨D, _, _, hg, h2, h3, fun _ => rfl, h3⟩, h4, h5, fun a ha => ?_⟩
  have := h2 a
  rw [atKey_of_not_has ha] at this
  simpa using this.symm

theorem RangeIs.next (h : RangeIs P k w b r n z f left) (hk : P.underlying k = some (.int .i64)) (ty : TypeId) :
    ((∀ a, left a = false) ∧ (Instr.next (.pointer (some ⟨r, 0, none⟩)) false ty).run P w = .ok (.tuple #[.bool false]) w) ∨
    ∃ a w', left a = true ∧ (0 ≤ a ∧ a < 16) ∧ (Instr.next (.pointer (some ⟨r, 0, none⟩)) false ty).run P w = .ok (.tuple #[.bool true, .int .i64 a, f a]) w' ∧ RangeIs P k w' b r n z f (updF left a false) ∧ w.grownBy w' (some r) ∧ w'.heap.size = w.heap.size ∧ w'.rangeLeft b r < w.rangeLeft b r ∧
      (Instr.entry (.pointer (some ⟨r, 0, none⟩))).run P w' = .ok (.tuple #[.int .i64 a, f a]) w' := by
  obtain ⟨D, lf, cnt, h, h2, h3, h4, h5⟩ := h
  rcases h.next (int_keyed hk) ty with ⟨_, hl, hr⟩ | ⟨key, v, kl, y, w', cnt', hkey, hlk, hv, hat, hrun, hrg, hclt, hgr, hsz, hen⟩
  · exact .inl ⟨fun a => by rw [← h4 a]; exact hl _, hr⟩
  · right
    obtain ⟨a, rfl, rfl, hw⟩ := keyOf_int_inv hk hkey
    have hf : v = f a := by
      have e1 := h2 a
      rw [hat] at e1
      simp only [rawEl, Option.some.injEq] at hv
      rw [← hv] at e1
      simpa using e1
    subst hf
    refine ⟨a, w', by rw [← h4 a]; exact hlk, h5 a (by rw [← h4 a]; exact hlk), hrun, ⟨D, _, _, hrg, h2, h3, fun x => ?_, fun x hx => ?_⟩, hgr, hsz, by rw [hrg.left_eq, h.left_eq]; exact hclt, hen⟩
    · by_cases hx : x = a
      · subst hx; simp [updF_same, Lit.sameKey]
      · rw [updF_other _ _ hx, ← h4 x]; simp [Lit.sameKey, hx]
    · by_cases hxa : x = a
      · subst hxa; rw [updF_same] at hx; cases hx
      · rw [updF_other _ _ hxa] at hx; exact h5 x hx
theorem RangeIs.map (h : RangeIs P k w b r n z f left) : MapIs P k w b n z f := by
  obtain ⟨D, lf, cnt, h, h2, h3, _⟩ := h
  exact ⟨D, h.owns, h2, h3⟩
theorem RangeIs.kept {row : Option Nat} (h : RangeIs P k w b r n z f left) (hg : w.grownBy w' row) (hb' : some b ≠ row) (hr' : some r ≠ row) : RangeIs P k w' b r n z f left := by
  obtain ⟨D, lf, cnt, h, h2⟩ := h
  exact ⟨D, lf, cnt, h.kept hg hb' hr', h2⟩
end
end Go.Proofs.Ytglpalomhhhmhaa
