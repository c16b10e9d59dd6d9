/- Blocks of the call's own, cell by cell; make of numbers and of bools. -/
import Derived.Test.YtglpalomhhhmhaaU5
import Derived.Laws.MakeOwn
import Derived.Laws.OwnMore
namespace Go.Proofs.Ytglpalomhhhmhaa
open Go.RowKit

/-- block g has just these cells -/
def RowBlk (t : TypeId) (w : World) (g : Nat) (vs : List Value) : Prop := w.heap[g]? = some (.cells vs.toArray t (0, 0))
section
variable {t : TypeId} {w w' : World} {g i : Nat} {vs : List Value} {v : Value}
theorem RowBlk.cell (h : RowBlk t w g vs) (hi : vs[i]? = some v) : w.cell? ⟨g, i, none⟩ = some v := by
  rw [cell_of_row w g i vs.toArray _ (0, 0) h]; simpa using hi
theorem RowBlk.free (h : RowBlk t w g vs) : w.frozen? ⟨g, i, none⟩ = false := by
  unfold RowBlk at h; simp [World.frozen?, h]
theorem RowBlk.put (h : RowBlk t w g vs) (i : Nat) (v : Value) : RowBlk t (w.setCell ⟨g, i, none⟩ v) g (vs.set i v) := by
  unfold RowBlk at h ⊢; simp [World.setCell, Array.getElem?_modify, h]
theorem RowBlk.lt (h : RowBlk t w g vs) : g < w.heap.size := blk_lt h
theorem RowBlk.same (h : RowBlk t w g vs) (e : w'.heap[g]? = w.heap[g]?) : RowBlk t w' g vs := e.trans h
theorem RowBlk.alloc (h : RowBlk t w g vs) (o : Obj) : RowBlk t (w.alloc o) g vs := h.same (Below.heap_alloc _ _ _ h.lt)
theorem RowBlk.drew (h : RowBlk t w g vs) : RowBlk t w.drew g vs := h
theorem RowBlk.drewN (h : RowBlk t w g vs) (n : Nat) : RowBlk t (w.drewN n) g vs := h
theorem RowBlk.other (h : RowBlk t w g vs) {a : Addr} (ha : g ≠ a.block) (v : Value) : RowBlk t (w.setCell a v) g vs := h.same (Below.heap_setCell _ _ _ _ ha)
theorem RowBlk.new (w : World) (vs : List Value) (t : TypeId) : RowBlk t (w.alloc (.cells vs.toArray t)) w.heap.size vs := heap_alloc_new w _
end
theorem owns_mono {w : World} {B B' : Nat} {e : TypeId} {s n : Nat} {v : Value} {xs : List Value} (h : w.ownsRow B e s v n xs) (hB : B' ≤ B) : w.ownsRow B' e s v n xs := by
  obtain ⟨h1, h2 | ⟨g, cap, cur, hv, hg, r⟩⟩ := h
  · exact ⟨h1, .inl h2⟩
  · exact ⟨h1, .inr ⟨g, cap, cur, hv, Nat.le_trans hB hg, r⟩⟩
theorem owns_set {w : World} {B : Nat} {e : TypeId} {s n : Nat} {v : Value} {xs : List Value} (h : w.ownsRow B e s v n xs) {a : Addr} (ha : a.block < B) (u : Value) : (w.setCell a u).ownsRow B e s v n xs := by
  refine h.kept (row := some a.block) ⟨rfl, rfl, rfl, by simp [World.setCell], fun k hk hne => Below.heap_setCell _ _ _ _ (fun e => hne (by rw [e]))⟩ ?_
  cases hb : v.ownBlock with
  | none => exact .inl rfl
  | some g => right; intro e; cases e; have := (h.lt _ hb).1; omega
theorem below_set {B : Nat} {a w : World} (h : Below B a w) {x : Addr} (hx : B ≤ x.block) (v : Value) : Below B a (w.setCell x v) := h.setCell hx v

theorem infoBo : (Try.prog.info? 4).map (fun i => (i.zero, i.size, i.bytes)) = some (some (.bool false), 1, 1) := by kernel_rfl
def boolVs (l : List Bool) : List Value := l.map Value.bool
def intVs (l : List Int) : List Value := l.map (Value.int .i64)
theorem boolVs_get {l : List Bool} {i : Nat} {x : Bool} (h : l[i]? = some x) : (boolVs l)[i]? = some (.bool x) := by unfold boolVs; rw [List.getElem?_map, h]; rfl
theorem intVs_get {l : List Int} {i : Nat} {x : Int} (h : l[i]? = some x) : (intVs l)[i]? = some (.int .i64 x) := by unfold intVs; rw [List.getElem?_map, h]; rfl
theorem boolVs_set (l : List Bool) (i : Nat) (x : Bool) : (boolVs l).set i (.bool x) = boolVs (l.set i x) := by unfold boolVs; rw [List.map_set]
theorem intVs_set (l : List Int) (i : Nat) (x : Int) : (intVs l).set i (.int .i64 x) = intVs (l.set i x) := by unfold intVs; rw [List.map_set]
theorem run_mkI (n : Nat) (hn : n ≤ 4294967296) (w : World) : (Instr.makeSlice 23 (.int .i64 (n : Int)) (.int .i64 (n : Int))).run Try.prog w = .ok (.slice (some ⟨w.heap.size, 0, none⟩) n n) (w.alloc (.cells (intVs (List.replicate n 0)).toArray 3)) := by
  obtain ⟨i0, hi, hz0, hz1, hz2⟩ := info_parts infoIu
  have h := run_make (P := Try.prog) w 23 3 i0 (.int .i64 0) Try.underlying23 hi hz0 .i64 .i64 n n (by omega) (by omega) (by rw [hz2]; omega) (by omega)
  simp only [Int.toNat_natCast] at h
  unfold intVs
  rw [h, hz1, Nat.mul_one, List.map_replicate, ← toList_madeCells_one, Array.toArray_toList]
  rfl
theorem RowBlk.bools {w : World} {g : Nat} {l : List Bool} (h : RowBlk 4 w g (boolVs l)) : BoolsAt w g 0 l := fun i x hx => by rw [Nat.zero_add]; exact h.cell (boolVs_get hx)

/-- a call that only draws keeps what holds whatever is drawn -/
theorem call_quiet {P : Program} {f : FuncId} {args : Array Value} {W : World} {v : Value} {p : World → Prop} (hp : ∀ m, p (W.drewN m)) (c : Calls P f args W fun e w' => e = .returned v ∧ ∃ m, w' = W.drewN m) :
    Calls P f args W fun e w' => e = .returned v ∧ p w' := c.mono fun _ _ ⟨he, m, hm⟩ => ⟨he, hm ▸ hp m⟩
end Go.Proofs.Ytglpalomhhhmhaa
