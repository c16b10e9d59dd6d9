/- Opening: an argument that is a script: a number, specs, calls, picks. -/
import Derived.Test.YticaheiomidanaaIV
import Derived.Test.YticaheiomidanaaIU
import Derived.Test.YticaheiomidanaaHO
import Derived.Test.YticaheiomidanaaK2
import Derived.Test.YticaheiomidanaaK5
import Derived.WalkLawsBesides
namespace Go.Proofs.Yticaheiomidanaa
open Go.ChangeShapes Go.WideShapes Go.ChangeAt Go.RowKit
set_option maxRecDepth 100000
set_option linter.unusedVariables false

theorem room_of {H : Type} {enc : TypeId × Value → H} {P : Program} {w : World} {base : Nat} {spare : Nat → Bool} {held : Bool} {t e : TypeId} {fuel len cap : Nat} {ao : Option Addr} {x : DataW H × List MemPlace} (ht : P.underlying t = some (.slice e)) (h : DataW.trod enc P w base spare held fuel t [.slice ao len cap] = some x) : len ≤ cap := by
  rcases DataW.trod_slice ht h with ⟨h1, _⟩ | ⟨a, l, c, _, _, _, _, h1, _, _, h2, _⟩
  · simp at h1; omega
  · simp at h1; omega

theorem slice_sp {H : Type} {enc : TypeId × Value → H} {w : World} {base : Nat} {spare : Nat → Bool} {held : Bool} {fuel : Nat} {ao : Option Addr} {n cap : Nat} {x : DataW H × List MemPlace}
    (h : DataW.trod enc Try.prog w base spare held fuel 22 [.slice ao n cap] = some x) :
    ∃ (b off : Nat) (l : List SpI), n = l.length ∧ l.length ≤ maxLen ∧ (0 < l.length → ao = some ⟨b, off, none⟩) ∧ (0 < l.length → b < w.heap.size) ∧ SpAt w b off l := by
  obtain ⟨ao', b, off, len, cap', hcs, hl, ha, hi⟩ := slice_cells Try.underlying22 (sz := 3) (by kernel_rfl) (by omega) h
  simp only [List.cons.injEq, Value.slice.injEq, and_true] at hcs
  obtain ⟨rfl, rfl, rfl⟩ := hcs
  have := list_of (n := n) (Q := fun i (x : SpI) => w.cell? ⟨b, off + i * 3, none⟩ = some (.int .i64 x.k) ∧ w.cell? ⟨b, off + i * 3 + 1, none⟩ = some (.int .i64 x.p) ∧ w.cell? ⟨b, off + i * 3 + 2, none⟩ = some (.int .i64 x.q) ∧ i64B x.k ∧ i64B x.p ∧ i64B x.q) (fun i hil => by
    obtain ⟨cs', y, n', hcl, htr, hat⟩ := hi i hil
    obtain ⟨k, h0, w0⟩ := field_cell Try.underlying62 htr (i := 0) (o := 0) rfl rfl (by kernel_rfl) Try.underlying3
    obtain ⟨p, h1, w1⟩ := field_cell Try.underlying62 htr (i := 1) (o := 1) rfl rfl (by kernel_rfl) Try.underlying3
    obtain ⟨q, h2, w2⟩ := field_cell Try.underlying62 htr (i := 2) (o := 2) rfl rfl (by kernel_rfl) Try.underlying3
    exact ⟨⟨k, p, q⟩, (hat 0 (by omega)).trans h0, (hat 1 (by omega)).trans h1, (hat 2 (by omega)).trans h2, i64_bounds w0, i64_bounds w1, i64_bounds w2⟩)
  obtain ⟨l, rfl, hq⟩ := this
  exact ⟨b, off, l, rfl, hl, fun h => (ha h).1, fun h => (ha h).2, fun i x hx => hq i x hx⟩

theorem slice_ca {H : Type} {enc : TypeId × Value → H} {w : World} {base : Nat} {spare : Nat → Bool} {held : Bool} {fuel : Nat} {ao : Option Addr} {n cap : Nat} {x : DataW H × List MemPlace}
    (h : DataW.trod enc Try.prog w base spare held fuel 23 [.slice ao n cap] = some x) :
    ∃ (b off : Nat) (l : List CaI), n = l.length ∧ l.length ≤ maxLen ∧ (0 < l.length → ao = some ⟨b, off, none⟩) ∧ (0 < l.length → b < w.heap.size) ∧ CaAt w b off l := by
  obtain ⟨ao', b, off, len, cap', hcs, hl, ha, hi⟩ := slice_cells Try.underlying23 (sz := 6) (by kernel_rfl) (by omega) h
  simp only [List.cons.injEq, Value.slice.injEq, and_true] at hcs
  obtain ⟨rfl, rfl, rfl⟩ := hcs
  have := list_of (n := n) (Q := fun i (x : CaI) => w.cell? ⟨b, off + i * 6, none⟩ = some (.int .i64 x.t) ∧ w.cell? ⟨b, off + i * 6 + 1, none⟩ = some (.int .i64 x.o) ∧ w.cell? ⟨b, off + i * 6 + 2, none⟩ = some (.int .i64 x.k) ∧ w.cell? ⟨b, off + i * 6 + 3, none⟩ = some (.int .u64 (x.a : Int)) ∧ w.cell? ⟨b, off + i * 6 + 4, none⟩ = some (.int .u64 (x.b : Int)) ∧ w.cell? ⟨b, off + i * 6 + 5, none⟩ = some (.int .u64 (x.c : Int)) ∧ (i64B x.t ∧ i64B x.o ∧ i64B x.k) ∧ x.a < 18446744073709551616 ∧ x.b < 18446744073709551616 ∧ x.c < 18446744073709551616) (fun i hil => by
    obtain ⟨cs', y, n', hcl, htr, hat⟩ := hi i hil
    obtain ⟨t, h0, w0⟩ := field_cell Try.underlying66 htr (i := 0) (o := 0) rfl rfl (by kernel_rfl) Try.underlying3
    obtain ⟨ob, h1, w1⟩ := field_cell Try.underlying66 htr (i := 1) (o := 1) rfl rfl (by kernel_rfl) Try.underlying3
    obtain ⟨kd, h2, w2⟩ := field_cell Try.underlying66 htr (i := 2) (o := 2) rfl rfl (by kernel_rfl) Try.underlying3
    obtain ⟨a, h3, w3⟩ := field_cell Try.underlying66 htr (i := 3) (o := 3) rfl rfl (by kernel_rfl) Try.underlying54
    obtain ⟨bb, h4, w4⟩ := field_cell Try.underlying66 htr (i := 4) (o := 4) rfl rfl (by kernel_rfl) Try.underlying54
    obtain ⟨c, h5, w5⟩ := field_cell Try.underlying66 htr (i := 5) (o := 5) rfl rfl (by kernel_rfl) Try.underlying54
    have b3 := u64_bounds w3
    have b4 := u64_bounds w4
    have b5 := u64_bounds w5
    obtain ⟨a, rfl⟩ : ∃ z : Nat, a = z := ⟨a.toNat, by omega⟩
    obtain ⟨bb, rfl⟩ : ∃ z : Nat, bb = z := ⟨bb.toNat, by omega⟩
    obtain ⟨c, rfl⟩ : ∃ z : Nat, c = z := ⟨c.toNat, by omega⟩
    exact ⟨⟨t, ob, kd, a, bb, c⟩, (hat 0 (by omega)).trans h0, (hat 1 (by omega)).trans h1, (hat 2 (by omega)).trans h2, (hat 3 (by omega)).trans h3, (hat 4 (by omega)).trans h4, (hat 5 (by omega)).trans h5, ⟨i64_bounds w0, i64_bounds w1, i64_bounds w2⟩, by show a < _; omega, by show bb < _; omega, by show c < _; omega⟩)
  obtain ⟨l, rfl, hq⟩ := this
  exact ⟨b, off, l, rfl, hl, fun h => (ha h).1, fun h => (ha h).2, fun i x hx => hq i x hx⟩

theorem script_val {H : Type} {enc : TypeId × Value → H} {w : World} {base : Nat} {spare : Nat → Bool} {held : Bool} {r : Reach} {b0 : Nat} {v : Value} {d : DataW H} {ps : List MemPlace}
    (hv : Value.okWide Try.prog w r b0 26 v) (h : DataW.Trod enc Try.prog w base spare held 26 v d ps) :
    ∃ (x : ScI) (s : Spots), v = scV x s ∧ ScAt w x s := by
  simp only [Value.okWide, Try.underlying26] at hv
  obtain ⟨cs, rfl, hcs, _⟩ := hv
  obtain ⟨fuel, h⟩ := h
  have h3 : Try.prog.cellsOf 26 = 4 := by kernel_rfl
  obtain ⟨c⟩ := cs
  rw [h3] at hcs
  match c, hcs with
  | [c0, c1, c2, c3], _ =>
    simp only [Value.cells] at h
    obtain ⟨n, e0, w0⟩ := field_cell Try.underlying26 h (i := 0) (o := 0) rfl rfl (by kernel_rfl) Try.underlying3
    obtain ⟨m1, y1, p1⟩ := field_part Try.underlying26 h (i := 1) (o := 1) (c := 1) rfl rfl (by kernel_rfl)
    obtain ⟨m2, y2, p2⟩ := field_part Try.underlying26 h (i := 2) (o := 2) (c := 1) rfl rfl (by kernel_rfl)
    obtain ⟨m3, y3, p3⟩ := field_part Try.underlying26 h (i := 3) (o := 3) (c := 1) rfl rfl (by kernel_rfl)
    have p1' : DataW.trod enc Try.prog w base spare held m1 22 [c1] = some y1 := p1
    have p2' : DataW.trod enc Try.prog w base spare held m2 23 [c2] = some y2 := p2
    have p3' : DataW.trod enc Try.prog w base spare held m3 24 [c3] = some y3 := p3
    obtain ⟨a1, n1, q1, e1⟩ := part_slice Try.underlying22 p1'
    obtain ⟨a2, n2, q2, e2⟩ := part_slice Try.underlying23 p2'
    obtain ⟨a3, n3, q3, e3⟩ := part_slice Try.underlying24 p3'
    simp only [List.cons.injEq, and_true] at e1 e2 e3
    subst e1 e2 e3
    simp at e0
    subst e0
    obtain ⟨sb, so, l1, rfl, hl1, ha1, hb1, hc1⟩ := slice_sp p1'
    obtain ⟨cb, co, l2, rfl, hl2, ha2, hb2, hc2⟩ := slice_ca p2'
    have hr := room_of Try.underlying24 p3'
    obtain ⟨ao, pb, po, cap, l3, hcs3, hl3, ha3, hb3, hq3⟩ := slice_nums Try.underlying24 (by kernel_rfl) Try.underlying3 p3'
    simp only [List.cons.injEq, Value.slice.injEq, and_true] at hcs3
    obtain ⟨rfl, rfl, rfl⟩ := hcs3
    have hc3 : ICells w pb po l3 := fun i x hx => ⟨(hq3 i x hx).1, i64_bounds (hq3 i x hx).2⟩
    unfold maxLen at hl1 hl2 hl3
    exact ⟨⟨n, l1, l2, l3⟩, ⟨a1, sb, so, q1, a2, cb, co, q2, a3, pb, po, q3⟩, rfl, ⟨i64_bounds w0, by show l1.length ≤ _; omega, by show l2.length ≤ _; omega, by show l3.length ≤ _; omega, ha1, ha2, ha3, hb1, hb2, hb3, hr, hc1, hc2, hc3⟩⟩
end Go.Proofs.Yticaheiomidanaa
