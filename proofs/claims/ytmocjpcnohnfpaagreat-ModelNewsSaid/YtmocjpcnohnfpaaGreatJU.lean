/- Opening: a thing of layer 27, by value: numbers, and a list of words. -/
import Derived.Test.YtmocjpcnohnfpaaGreatSU
import Derived.Test.YtmocjpcnohnfpaaGreatHO
import Derived.Test.YtmocjpcnohnfpaaGreatJH
namespace Go.Proofs.YtmocjpcnohnfpaaGreat
open Go.ChangeShapes Go.WideShapes Go.ChangeAt Go.RowKit
set_option maxRecDepth 100000

theorem words_room {H : Type} {enc : TypeId × Value → H} {w : World} {base : Nat} {spare : Nat → Bool} {held : Bool} {fuel : Nat} {v : Value} {x : DataW H × List MemPlace}
    (h : DataW.trod enc Tryz.prog w base spare held fuel 24 [v] = some x) : Room v := by
  intro ao n cap e
  subst e
  rcases Go.Deep.open_slice Tryz.underlying24 h with ⟨h1, _⟩ | ⟨a, len, cap', m, n', D, Pl, h1, _, hl, hc, _⟩
  · simp at h1; omega
  · simp at h1
    obtain ⟨_, rfl, rfl⟩ := h1
    omega

theorem thing_val {H : Type} {enc : TypeId × Value → H} {w : World} {base : Nat} {spare : Nat → Bool} {held : Bool} {r : Reach} {b0 : Nat} {v : Value} {d : DataW H} {ps : List MemPlace}
    (hv : Value.okWide Tryz.prog w r b0 29 v) (h : DataW.Trod enc Tryz.prog w base spare held 29 v d ps) :
    ∃ (n k p q : Int) (v1 : Value) (t ob kd a b c : Int) (m : List Nat), v = thingV n k p q v1 t ob kd a b c ∧ ArgW w v1 m ∧ Room v1 ∧ m.length ≤ 9223372036854775807 := by
  simp only [Value.okWide, Tryz.underlying29] at hv
  obtain ⟨cs, rfl, hcs, _⟩ := hv
  obtain ⟨fuel, h⟩ := h
  have h3 : Tryz.prog.cellsOf 29 = 11 := by kernel_rfl
  obtain ⟨c⟩ := cs
  rw [h3] at hcs
  match c, hcs with
  | [c0, c1, c2, c3, c4, c5, c6, c7, c8, c9, c10], _ =>
    simp only [Value.cells] at h
    obtain ⟨n, e0, _⟩ := field_cell Tryz.underlying29 h (i := 0) (o := 0) rfl rfl (by kernel_rfl) Tryz.underlying3
    obtain ⟨m1, y1, p1⟩ := field_part Tryz.underlying29 h (i := 1) (o := 1) (c := 3) rfl rfl (by kernel_rfl)
    obtain ⟨m2, y2, p2⟩ := field_part Tryz.underlying29 h (i := 2) (o := 4) (c := 1) rfl rfl (by kernel_rfl)
    obtain ⟨m3, y3, p3⟩ := field_part Tryz.underlying29 h (i := 3) (o := 5) (c := 6) rfl rfl (by kernel_rfl)
    have p1' : DataW.trod enc Tryz.prog w base spare held m1 23 [c1, c2, c3] = some y1 := p1
    have p2' : DataW.trod enc Tryz.prog w base spare held m2 24 [c4] = some y2 := p2
    have p3' : DataW.trod enc Tryz.prog w base spare held m3 27 [c5, c6, c7, c8, c9, c10] = some y3 := p3
    obtain ⟨k, e1, _⟩ := field_cell Tryz.underlying23 p1' (i := 0) (o := 0) rfl rfl (by kernel_rfl) Tryz.underlying3
    obtain ⟨p, e2, _⟩ := field_cell Tryz.underlying23 p1' (i := 1) (o := 1) rfl rfl (by kernel_rfl) Tryz.underlying3
    obtain ⟨q, e3, _⟩ := field_cell Tryz.underlying23 p1' (i := 2) (o := 2) rfl rfl (by kernel_rfl) Tryz.underlying3
    obtain ⟨t, e5, _⟩ := field_cell Tryz.underlying27 p3' (i := 0) (o := 0) rfl rfl (by kernel_rfl) Tryz.underlying3
    obtain ⟨ob, e6, _⟩ := field_cell Tryz.underlying27 p3' (i := 1) (o := 1) rfl rfl (by kernel_rfl) Tryz.underlying3
    obtain ⟨kd, e7, _⟩ := field_cell Tryz.underlying27 p3' (i := 2) (o := 2) rfl rfl (by kernel_rfl) Tryz.underlying3
    obtain ⟨a, e8, _⟩ := field_cell Tryz.underlying27 p3' (i := 3) (o := 3) rfl rfl (by kernel_rfl) Tryz.underlying25
    obtain ⟨b, e9, _⟩ := field_cell Tryz.underlying27 p3' (i := 4) (o := 4) rfl rfl (by kernel_rfl) Tryz.underlying25
    obtain ⟨c, e10, _⟩ := field_cell Tryz.underlying27 p3' (i := 5) (o := 5) rfl rfl (by kernel_rfl) Tryz.underlying25
    obtain ⟨m, hA, hl, _⟩ := slice_argW p2'
    simp at e0 e1 e2 e3 e5 e6 e7 e8 e9 e10
    subst e0 e1 e2 e3 e5 e6 e7 e8 e9 e10
    exact ⟨n, k, p, q, c4, t, ob, kd, a, b, c, m, rfl, hA, words_room p2', hl⟩
end Go.Proofs.YtmocjpcnohnfpaaGreat
