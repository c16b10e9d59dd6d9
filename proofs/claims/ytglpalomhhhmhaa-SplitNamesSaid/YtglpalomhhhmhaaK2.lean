/- Opening arguments, over any program: arrays of two numbers, and slices whose elements have so many cells each. -/
import Derived.Test.YtglpalomhhhmhaaK
import Derived.Deep.Slices
namespace Go.Proofs.Ytglpalomhhhmhaa
open Go.ChangeShapes Go.WideShapes Go.ChangeAt Go.RowKit

theorem list_of {α : Type} {n : Nat} {Q : Nat → α → Prop} (h : ∀ i, i < n → ∃ x, Q i x) : ∃ l : List α, l.length = n ∧ ∀ (i : Nat) (x : α), l[i]? = some x → Q i x := by
  induction n with
  | zero => exact ⟨[], rfl, fun i x hx => by simp at hx⟩
  | succ n ih =>
    obtain ⟨l, hl, hq⟩ := ih (fun i hi => h i (by omega))
    obtain ⟨y, hy⟩ := h n (by omega)
    refine ⟨l ++ [y], by simp [hl], fun i x hx => ?_⟩
    by_cases hi : i < l.length
    · rw [List.getElem?_append_left hi] at hx
      exact hq i x hx
    · rw [List.getElem?_append_right (by omega)] at hx
      have : i = n := by
        have := (List.getElem?_eq_some_iff.1 hx).1
        simp at this; omega
      subst this
      rw [hl, Nat.sub_self] at hx
      simp at hx; subst hx
      exact hy

section
variable {H : Type} {enc : TypeId × Value → H} {P : Program} {w : World} {base : Nat} {spare : Nat → Bool} {held : Bool}

theorem addr_add (a : Addr) (n b off : Nat) (h : a = ⟨b, off, none⟩) : a.add n = ⟨b, off + n, none⟩ := by
  subst h; unfold Addr.add
  by_cases hn : n = 0
  · subst hn; simp
  · simp [hn]

/-- a slice, nil or not, as the cells of its elements -/
theorem slice_cells {t e : TypeId} {fuel sz : Nat} {cs : List Value} {x : DataW H × List MemPlace} (ht : P.underlying t = some (.slice e)) (hsz : P.cellsOf e = sz) (h0 : 0 < sz)
    (h : DataW.trod enc P w base spare held fuel t cs = some x) :
    ∃ ao b off len cap, cs = [.slice ao len cap] ∧ len ≤ maxLen ∧ (0 < len → ao = some ⟨b, off, none⟩ ∧ b < w.heap.size) ∧
      ∀ i, i < len → ∃ (cs' : List Value) (y : DataW H × List MemPlace) (n : Nat), cs'.length = sz ∧ DataW.trod enc P w base spare held n e cs' = some y ∧ ∀ j, j < sz → w.cell? ⟨b, off + i * sz + j, none⟩ = cs'[j]? := by
  rcases Go.Deep.open_slice ht h with ⟨rfl, _⟩ | ⟨a, len, cap, m, n, D, Pl, rfl, _, hl, hc, hm, _, hi⟩
  · exact ⟨none, 0, 0, 0, 0, rfl, Nat.zero_le _, fun h => absurd h (by omega), fun i h => absurd h (by omega)⟩
  · by_cases hlen : 0 < len
    · have hmle : len ≤ m := by rw [hm]; split <;> omega
      have hsp : a.spot = none ∧ a.block < w.heap.size := by
        obtain ⟨cs', hcs, _⟩ := hi 0 (by omega)
        obtain ⟨_, hcl, hat⟩ := World.cells?_some hcs
        rw [hsz] at hcl hat
        have h1 := hat 0 h0
        rw [Nat.zero_mul] at h1
        have h2 : (a.add 0).add 0 = a := by simp [Addr.add]
        rw [h2, List.getElem?_eq_getElem (by omega)] at h1
        exact ⟨World.cell?_spot h1, World.block_lt_of_cell? w a h1⟩
      have ha : a = ⟨a.block, a.off, none⟩ := by
        obtain ⟨b, o, s⟩ := a
        obtain ⟨h1, _⟩ := hsp
        simp only at h1
        subst h1
        rfl
      refine ⟨some a, a.block, a.off, len, cap, rfl, by omega, fun _ => ⟨congrArg some ha, hsp.2⟩, fun i hil => ?_⟩
      obtain ⟨cs', hcs, htr⟩ := hi i (by omega)
      obtain ⟨_, hcl, hat⟩ := World.cells?_some hcs
      rw [hsz] at hcl hat hcs
      refine ⟨cs', _, n, hcl, htr, fun j hj => ?_⟩
      have h1 := hat j hj
      rw [Go.Deep.add_add, addr_add a _ _ _ ha, ← Nat.add_assoc] at h1
      exact h1
    · exact ⟨some a, 0, 0, len, cap, rfl, by omega, fun h => absurd h hlen, fun i h => absurd h (by omega)⟩

/-- a slice of numbers -/
theorem slice_nums {t e : TypeId} {k : IntKind} {fuel : Nat} {cs : List Value} {x : DataW H × List MemPlace} (ht : P.underlying t = some (.slice e)) (hsz : P.cellsOf e = 1) (he : P.underlying e = some (.int k))
    (h : DataW.trod enc P w base spare held fuel t cs = some x) :
    ∃ (ao : Option Addr) (b off cap : Nat) (l : List Int), cs = [.slice ao l.length cap] ∧ l.length ≤ maxLen ∧ (0 < l.length → ao = some ⟨b, off, none⟩) ∧ (0 < l.length → b < w.heap.size) ∧
      ∀ (i : Nat) (z : Int), l[i]? = some z → w.cell? ⟨b, off + i, none⟩ = some (.int k z) ∧ (Lit.int k z).wf = true := by
  obtain ⟨ao, b, off, len, cap, rfl, hl, ha, hi⟩ := slice_cells ht hsz (by omega) h
  have := list_of (n := len) (Q := fun i (z : Int) => w.cell? ⟨b, off + i, none⟩ = some (.int k z) ∧ (Lit.int k z).wf = true) (fun i hil => by
    obtain ⟨cs', y, n, hcl, htr, hat⟩ := hi i hil
    obtain ⟨z, rfl, _, hwf⟩ := DataW.trod_int he htr
    have h1 := hat 0 (by omega)
    rw [Nat.mul_one, Nat.add_zero] at h1
    exact ⟨z, h1, hwf⟩)
  obtain ⟨l, rfl, hq⟩ := this
  exact ⟨ao, b, off, cap, l, rfl, hl, fun h => (ha h).1, fun h => (ha h).2, hq⟩

/-- an array of two numbers, by value -/
theorem arr2_nums {t e : TypeId} {k : IntKind} {r : Reach} {b0 : Nat} {v : Value} {d : DataW H} {p : List MemPlace} (ht : P.underlying t = some (.array 2 e)) (he : P.underlying e = some (.int k)) (hce : P.cellsOf e = 1) (hct : P.cellsOf t = 2)
    (hv : Value.okWide P w r b0 t v) (h : DataW.Trod enc P w base spare held t v d p) : ∃ a b : Int, v = .agg #[.int k a, .int k b] ∧ (Lit.int k a).wf = true ∧ (Lit.int k b).wf = true := by
  simp only [Value.okWide, ht] at hv
  obtain ⟨cs, rfl, hcs, _⟩ := hv
  obtain ⟨fuel, h⟩ := h
  obtain ⟨xs, m, _, _, _, _, hel⟩ := DataW.trod_array ht h
  obtain ⟨l⟩ := cs
  rw [hct] at hcs
  match l, hcs with
  | [c0, c1], _ =>
    have e0 := hel 0 (by omega)
    have e1 := hel 1 (by omega)
    rw [hce] at e0 e1
    have hx0 : xs[0]? = some (xs[0]'(by omega)) := List.getElem?_eq_getElem _
    have hx1 : xs[1]? = some (xs[1]'(by omega)) := List.getElem?_eq_getElem _
    rw [hx0] at e0
    rw [hx1] at e1
    obtain ⟨a, ha, _, wa⟩ := DataW.trod_int he e0
    obtain ⟨b, hb, _, wb⟩ := DataW.trod_int he e1
    simp [Value.cells] at ha hb
    subst ha; subst hb
    exact ⟨a, b, rfl, wa, wb⟩

/-- one cell out of a struct's row of cells -/
theorem field_cell {fs : Array Field} {t : TypeId} {fuel : Nat} {cs : List Value} {x : DataW H × List MemPlace} (ht : P.underlying t = some (.struct fs)) (h : DataW.trod enc P w base spare held fuel t cs = some x)
    {i o : Nat} {f : Field} {k : IntKind} (hf : fs[i]? = some f) (ho : f.offset = o) (hc : P.cellsOf f.type = 1) (hk : P.underlying f.type = some (.int k)) : ∃ z : Int, cs[o]? = some (.int k z) ∧ (Lit.int k z).wf = true := by
  obtain ⟨xs, n, _, _, _, hxl, hel⟩ := DataW.trod_struct ht h
  have e := hel i f hf
  have hi : i < fs.size := (Array.getElem?_eq_some_iff.1 hf).1
  have hx : xs[i]? = some (xs[i]'(by omega)) := List.getElem?_eq_getElem _
  rw [hx, hc, ho] at e
  obtain ⟨z, hz, _, hw⟩ := DataW.trod_int hk e
  refine ⟨z, ?_, hw⟩
  have h1 : ((cs.drop o).take 1)[0]? = some (.int k z) := by rw [hz]; rfl
  rw [List.getElem?_take] at h1
  simpa using h1
end

theorem u64_bounds {z : Int} (h : (Lit.int .u64 z).wf = true) : 0 ≤ z ∧ z ≤ 18446744073709551615 := by simpa [Lit.wf, IntKind.min, IntKind.max, IntKind.signed, IntKind.bits] using h
theorem i64_bounds {z : Int} (h : (Lit.int .i64 z).wf = true) : -9223372036854775808 ≤ z ∧ z ≤ 9223372036854775807 := by simpa [Lit.wf, IntKind.min, IntKind.max, IntKind.signed, IntKind.bits] using h
end Go.Proofs.Ytglpalomhhhmhaa
