/- Opening: an argument of events. -/
import Derived.Test.YtkkkpobdjhmgfaaGreatDoorChecked
import Derived.Test.YtkkkpobdjhmgfaaGreatDoorK2
namespace Go.Proofs.YtkkkpobdjhmgfaaGreatDoor
set_option maxRecDepth 100000
open Go.ChangeShapes Go.WideShapes Go.ChangeAt Go.RowKit
set_option linter.unusedVariables false
section
variable {H : Type} {enc : TypeId × Value → H} {P : Program} {w : World} {base : Nat} {spare : Nat → Bool} {held : Bool}
/-- a field out of a struct's row of cells -/
theorem field_part {fs : Array Field} {t : TypeId} {fuel : Nat} {cs : List Value} {x : DataW H × List MemPlace} (ht : P.underlying t = some (.struct fs)) (h : DataW.trod enc P w base spare held fuel t cs = some x)
    {i o c : Nat} {f : Field} (hf : fs[i]? = some f) (ho : f.offset = o) (hc : P.cellsOf f.type = c) : ∃ (n : Nat) (y : DataW H × List MemPlace), DataW.trod enc P w base spare held n f.type ((cs.drop o).take c) = some y := by
  obtain ⟨xs, n, _, _, _, hxl, hel⟩ := DataW.trod_struct ht h
  have e := hel i f hf
  have hi : i < fs.size := (Array.getElem?_eq_some_iff.1 hf).1
  have hx : xs[i]? = some (xs[i]'(by omega)) := List.getElem?_eq_getElem _
  rw [hx, hc, ho] at e
  exact ⟨_, _, e⟩
/-- a slice's one cell -/
theorem part_slice {t e : TypeId} {fuel : Nat} {cs : List Value} {x : DataW H × List MemPlace} (ht : P.underlying t = some (.slice e)) (h : DataW.trod enc P w base spare held fuel t cs = some x) : ∃ (a : Option Addr) (n c : Nat), cs = [.slice a n c] := by
  rcases Go.Deep.open_slice ht h with ⟨rfl, _⟩ | ⟨a, len, cap, m, n, D, Pl, rfl, _⟩
  · exact ⟨none, 0, 0, rfl⟩
  · exact ⟨some a, len, cap, rfl⟩
theorem take1_get {cs : List Value} {o : Nat} {v : Value} (h : (cs.drop o).take 1 = [v]) : cs[o]? = some v := by
  have h1 : ((cs.drop o).take 1)[0]? = some v := by rw [h]; rfl
  rw [List.getElem?_take] at h1
  simpa using h1
end
/-- an event of an argument, cell by cell -/
structure EvL where
  ca : Int
  iv : Int
  rs : Int
  st : Int
  er : Int
  vl : Nat
  la : Option Addr
  nl : Nat
  cl : Nat
  ka : Option Addr
  nk : Nat
  ck : Nat
def EvL.vs (x : EvL) : List Value := [.int .i64 x.ca, .int .i64 x.iv, .int .i64 x.rs, .int .i64 x.st, .int .i64 x.er, .int .u64 (x.vl : Int), .slice x.la x.nl x.cl, .slice x.ka x.nk x.ck]
def EvL.ok (x : EvL) : Prop := (-9223372036854775808 ≤ x.ca ∧ x.ca ≤ 9223372036854775807) ∧ (-9223372036854775808 ≤ x.iv ∧ x.iv ≤ 9223372036854775807) ∧ (-9223372036854775808 ≤ x.rs ∧ x.rs ≤ 9223372036854775807) ∧ (-9223372036854775808 ≤ x.st ∧ x.st ≤ 9223372036854775807) ∧ (-9223372036854775808 ≤ x.er ∧ x.er ≤ 9223372036854775807) ∧ x.vl < 18446744073709551616
/-- events lie in a row -/
def EvsAt (w : World) (b o : Nat) (l : List EvL) : Prop := ∀ (i : Nat) (x : EvL), l[i]? = some x → (∀ j, j < 8 → w.cell? ⟨b, o + i * 8 + j, none⟩ = x.vs[j]?) ∧ x.ok
theorem EvsAt.stays {w wr : World} {b o B : Nat} {l : List EvL} (h : EvsAt w b o l) (hb : Below B w wr) (hB : 0 < l.length → b < B) : EvsAt wr b o l := by
  intro i x hx
  have hl : 0 < l.length := by have := (List.getElem?_eq_some_iff.1 hx).1; omega
  obtain ⟨h1, h2⟩ := h i x hx
  exact ⟨fun j hj => (hb.cell (p := ⟨b, _, none⟩) (hB hl)).trans (h1 j hj), h2⟩
/-- the eight cells of one of them -/
theorem EvsAt.cells {w : World} {b o : Nat} {l : List EvL} (h : EvsAt w b o l) {i : Nat} {x : EvL} (hx : l[i]? = some x) :
    w.cell? ⟨b, o + i * 8, none⟩ = some (.int .i64 x.ca) ∧ w.cell? ⟨b, o + i * 8 + 1, none⟩ = some (.int .i64 x.iv) ∧ w.cell? ⟨b, o + i * 8 + 2, none⟩ = some (.int .i64 x.rs) ∧ w.cell? ⟨b, o + i * 8 + 3, none⟩ = some (.int .i64 x.st) ∧
    w.cell? ⟨b, o + i * 8 + 4, none⟩ = some (.int .i64 x.er) ∧ w.cell? ⟨b, o + i * 8 + 5, none⟩ = some (.int .u64 (x.vl : Int)) ∧ w.cell? ⟨b, o + i * 8 + 6, none⟩ = some (.slice x.la x.nl x.cl) ∧ w.cell? ⟨b, o + i * 8 + 7, none⟩ = some (.slice x.ka x.nk x.ck) := by
  obtain ⟨h1, _⟩ := h i x hx
  exact ⟨h1 0 (by omega), h1 1 (by omega), h1 2 (by omega), h1 3 (by omega), h1 4 (by omega), h1 5 (by omega), h1 6 (by omega), h1 7 (by omega)⟩
set_option maxRecDepth 100000 in
theorem slice_events {H : Type} {enc : TypeId × Value → H} {w : World} {base : Nat} {spare : Nat → Bool} {held : Bool} {fuel : Nat} {ao : Option Addr} {n cap : Nat} {x : DataW H × List MemPlace}
    (h : DataW.trod enc Tryz.prog w base spare held fuel 28 [.slice ao n cap] = some x) :
    ∃ (b off : Nat) (l : List EvL), n = l.length ∧ l.length ≤ maxLen ∧ (0 < l.length → ao = some ⟨b, off, none⟩) ∧ (0 < l.length → b < w.heap.size) ∧ EvsAt w b off l := by
  obtain ⟨ao', b, off, len, cap', hcs, hl, ha, hi⟩ := slice_cells Tryz.underlying28 (sz := 8) (by kernel_rfl) (by omega) h
  simp only [List.cons.injEq, Value.slice.injEq, and_true] at hcs
  obtain ⟨rfl, rfl, rfl⟩ := hcs
  have := list_of (n := n) (Q := fun i (x : EvL) => (∀ j, j < 8 → w.cell? ⟨b, off + i * 8 + j, none⟩ = x.vs[j]?) ∧ x.ok) (fun i hil => by
    obtain ⟨cs', y, n', hcl, htr, hat⟩ := hi i hil
    obtain ⟨ca, h0, w0⟩ := field_cell Tryz.underlying47 htr (i := 0) (o := 0) rfl rfl (by kernel_rfl) Tryz.underlying3
    obtain ⟨iv, h1, w1⟩ := field_cell Tryz.underlying47 htr (i := 1) (o := 1) rfl rfl (by kernel_rfl) Tryz.underlying3
    obtain ⟨rs, h2, w2⟩ := field_cell Tryz.underlying47 htr (i := 2) (o := 2) rfl rfl (by kernel_rfl) Tryz.underlying3
    obtain ⟨st, h3, w3⟩ := field_cell Tryz.underlying47 htr (i := 3) (o := 3) rfl rfl (by kernel_rfl) Tryz.underlying3
    obtain ⟨m4, y4, p4⟩ := field_part Tryz.underlying47 htr (i := 4) (o := 4) (c := 3) rfl rfl (by kernel_rfl)
    obtain ⟨er, h4, w4⟩ := field_cell Tryz.underlying45 p4 (i := 0) (o := 0) rfl rfl (by kernel_rfl) Tryz.underlying39
    obtain ⟨vl, h5, w5⟩ := field_cell Tryz.underlying45 p4 (i := 1) (o := 1) rfl rfl (by kernel_rfl) Tryz.underlying43
    obtain ⟨m6, y6, p6⟩ := field_part Tryz.underlying45 p4 (i := 2) (o := 2) (c := 1) rfl rfl (by kernel_rfl)
    obtain ⟨la, nl, cl, h6⟩ := part_slice Tryz.underlying29 p6
    obtain ⟨m7, y7, p7⟩ := field_part Tryz.underlying47 htr (i := 5) (o := 7) (c := 1) rfl rfl (by kernel_rfl)
    obtain ⟨ka, nk, ck, h7⟩ := part_slice Tryz.underlying38 p7
    have bv := u64_bounds w5
    obtain ⟨vl, rfl⟩ : ∃ t : Nat, vl = t := ⟨vl.toNat, by omega⟩
    have g4 : cs'[4]? = some (.int .i64 er) := by
      rw [List.getElem?_take] at h4; simpa using h4
    have g5 : cs'[5]? = some (.int .u64 (vl : Int)) := by
      rw [List.getElem?_take] at h5; simpa using h5
    have g6 : cs'[6]? = some (.slice la nl cl) := by
      have := take1_get h6
      rw [List.getElem?_take] at this; simpa using this
    have g7 := take1_get h7
    refine ⟨⟨ca, iv, rs, st, er, vl, la, nl, cl, ka, nk, ck⟩, fun j hj => ?_, i64_bounds w0, i64_bounds w1, i64_bounds w2, i64_bounds w3, i64_bounds w4, by show vl < _; omega⟩
    rw [hat j hj]
    match j, hj with
    | 0, _ => exact h0
    | 1, _ => exact h1
    | 2, _ => exact h2
    | 3, _ => exact h3
    | 4, _ => exact g4
    | 5, _ => exact g5
    | 6, _ => exact g6
    | 7, _ => exact g7)
  obtain ⟨l, rfl, hq⟩ := this
  exact ⟨b, off, l, rfl, hl, fun h => (ha h).1, fun h => (ha h).2, hq⟩
end Go.Proofs.YtkkkpobdjhmgfaaGreatDoor
