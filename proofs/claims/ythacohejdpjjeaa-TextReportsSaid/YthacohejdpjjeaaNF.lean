/- Opening: calls and a report. -/
import Derived.Test.YthacohejdpjjeaaNE
import Derived.Test.YthacohejdpjjeaaNO
namespace Go.Proofs.Ythacohejdpjjeaa
open Go.ChangeShapes Go.WideShapes Go.ChangeAt Go.RowKit
set_option maxRecDepth 100000
set_option linter.unusedVariables false

section
variable {H : Type} {enc : TypeId × Value → H} {w : World} {base : Nat} {spare : Nat → Bool} {held : Bool}
theorem len_of {P : Program} {t e : TypeId} {fuel sz n cap : Nat} {ao : Option Addr} {x : DataW H × List MemPlace} (ht : P.underlying t = some (.slice e)) (hsz : P.cellsOf e = sz) (h0 : 0 < sz) (h : DataW.trod enc P w base spare held fuel t [.slice ao n cap] = some x) : n ≤ maxLen := by
  obtain ⟨ao', b, off, len, cap', hcs, hl, _⟩ := slice_cells ht hsz h0 h
  simp only [List.cons.injEq, Value.slice.injEq, and_true] at hcs
  obtain ⟨_, rfl, _⟩ := hcs
  exact hl
theorem ev_lens {fuel : Nat} {x : EvX} {s : EvS} {y : DataW H × List MemPlace}
    (h : DataW.trod enc Try.prog w base spare held fuel 44 (evVs x s) = some y) : x.lw.length ≤ maxLen ∧ x.kw.length ≤ maxLen := by
  obtain ⟨m4, y4, p4⟩ := field_part Try.underlying44 h (i := 4) (o := 4) (c := 3) rfl rfl (by kernel_rfl)
  have p4' : DataW.trod enc Try.prog w base spare held m4 42 [.int .i64 x.er, .int .u64 (x.vl : Int), .slice s.la x.lw.length s.lc] = some y4 := p4
  obtain ⟨m6, y6, p6⟩ := field_part Try.underlying42 p4' (i := 2) (o := 2) (c := 1) rfl rfl (by kernel_rfl)
  have p6' : DataW.trod enc Try.prog w base spare held m6 40 [.slice s.la x.lw.length s.lc] = some y6 := p6
  obtain ⟨m7, y7, p7⟩ := field_part Try.underlying44 h (i := 5) (o := 7) (c := 1) rfl rfl (by kernel_rfl)
  have p7' : DataW.trod enc Try.prog w base spare held m7 24 [.slice s.ka x.kw.length s.kc] = some y7 := p7
  exact ⟨len_of Try.underlying40 (sz := 1) (by kernel_rfl) (by omega) p6', len_of Try.underlying24 (sz := 1) (by kernel_rfl) (by omega) p7'⟩
theorem slice_evl {fuel : Nat} {ao : Option Addr} {n cap : Nat} {x : DataW H × List MemPlace}
    (h : DataW.trod enc Try.prog w base spare held fuel 27 [.slice ao n cap] = some x) :
    ∃ (b off : Nat) (le : List (EvX × EvS)), n = le.length ∧ le.length ≤ maxLen ∧ (0 < le.length → ao = some ⟨b, off, none⟩) ∧ (0 < le.length → b < w.heap.size) ∧
      (∀ (i : Nat) (p : EvX × EvS), le[i]? = some p → ∀ (k : Nat) (u : Value), (evVs p.1 p.2)[k]? = some u → w.cell? ⟨b, off + i * 8 + k, none⟩ = some u) ∧ (∀ p ∈ le, p.1.Ok ∧ EvR w p.1 p.2) ∧ ∀ p ∈ le, p.1.lw.length ≤ maxLen ∧ p.1.kw.length ≤ maxLen := by
  obtain ⟨ao', b, off, len, cap', hcs, hl, ha, hi⟩ := slice_cells Try.underlying27 (sz := 8) (by kernel_rfl) (by omega) h
  simp only [List.cons.injEq, Value.slice.injEq, and_true] at hcs
  obtain ⟨rfl, rfl, rfl⟩ := hcs
  have := list_of (n := n) (Q := fun i (p : EvX × EvS) => (∀ (k : Nat) (u : Value), (evVs p.1 p.2)[k]? = some u → w.cell? ⟨b, off + i * 8 + k, none⟩ = some u) ∧ (p.1.Ok ∧ EvR w p.1 p.2) ∧ (p.1.lw.length ≤ maxLen ∧ p.1.kw.length ≤ maxLen)) (fun i hil => by
    obtain ⟨cs', y, n', hcl, htr, hat⟩ := hi i hil
    obtain ⟨ex, es, rfl, ho, hr⟩ := open_ev hcl htr
    exact ⟨(ex, es), fun k u hu => by
      have hk : k < 8 := (List.getElem?_eq_some_iff.1 hu).1
      rw [hat k hk]
      exact hu, ⟨ho, hr⟩, ev_lens htr⟩)
  obtain ⟨le, rfl, hq⟩ := this
  refine ⟨b, off, le, rfl, hl, fun h => (ha h).1, fun h => (ha h).2, fun i p hp => (hq i p hp).1, fun p hp => ?_, fun p hp => ?_⟩
  · obtain ⟨i, hi⟩ := List.mem_iff_getElem?.1 hp
    exact (hq i p hi).2.1
  · obtain ⟨i, hi⟩ := List.mem_iff_getElem?.1 hp
    exact (hq i p hi).2.2
theorem slice_cax {fuel : Nat} {ao : Option Addr} {n cap : Nat} {x : DataW H × List MemPlace}
    (h : DataW.trod enc Try.prog w base spare held fuel 23 [.slice ao n cap] = some x) :
    ∃ (b off : Nat) (l : List CaX), n = l.length ∧ (0 < l.length → ao = some ⟨b, off, none⟩) ∧ (0 < l.length → b < w.heap.size) ∧
      (∀ (i : Nat) (y : CaX), l[i]? = some y → ∀ (k : Nat) (u : Value), y.vs[k]? = some u → w.cell? ⟨b, off + i * 6 + k, none⟩ = some u) ∧ ∀ y ∈ l, y.Ok := by
  obtain ⟨ao', b, off, len, cap', hcs, hl, ha, hi⟩ := slice_cells Try.underlying23 (sz := 6) (by kernel_rfl) (by omega) h
  simp only [List.cons.injEq, Value.slice.injEq, and_true] at hcs
  obtain ⟨rfl, rfl, rfl⟩ := hcs
  have := list_of (n := n) (Q := fun i (y : CaX) => (∀ (k : Nat) (u : Value), y.vs[k]? = some u → w.cell? ⟨b, off + i * 6 + k, none⟩ = some u) ∧ y.Ok) (fun i hil => by
    obtain ⟨cs', y, n', hcl, htr, hat⟩ := hi i hil
    obtain ⟨c, rfl, ho⟩ := open_ca hcl htr
    exact ⟨c, fun k u hu => by
      have hk : k < 6 := by rw [← hcl]; exact (List.getElem?_eq_some_iff.1 hu).1
      rw [hat k hk]
      exact hu, ho⟩)
  obtain ⟨l, rfl, hq⟩ := this
  refine ⟨b, off, l, rfl, fun h => (ha h).1, fun h => (ha h).2, fun i p hp => (hq i p hp).1, fun p hp => ?_⟩
  obtain ⟨i, hi⟩ := List.mem_iff_getElem?.1 hp
  exact (hq i p hi).2
theorem report_val {r : Reach} {b0 : Nat} {v : Value} {d : DataW H} {ps : List MemPlace} {ao : Option Addr} {n cap fuel0 : Nat} {x0 : DataW H × List MemPlace}
    (hcal : DataW.trod enc Try.prog w base spare held fuel0 23 [.slice ao n cap] = some x0)
    (hv : Value.okWide Try.prog w r b0 55 v) (h : DataW.Trod enc Try.prog w base spare held 55 v d ps) :
    ∃ x : RpX, (x.ca = ao ∧ x.cs.length = n ∧ x.cc = cap) ∧ v = .agg #[.slice x.ea x.l.length x.ec, .slice x.wa x.wn x.wc, .int .i64 x.rr, .int .i64 x.wt, .int .i64 x.sw, .int .i64 x.ad, .int .i64 x.fa, .int .i64 x.tk, .int .i64 x.idl] ∧ RpAt w x ∧
      (x.l.length ≤ 9223372036854775807 ∧ ∀ p ∈ x.l, p.1.lw.length ≤ 9223372036854775807 ∧ p.1.kw.length ≤ 9223372036854775807) := by
  obtain ⟨cb, co, cs, rfl, c1, c2, c3, c4⟩ := slice_cax hcal
  simp only [Value.okWide, Try.underlying55] at hv
  obtain ⟨cs1, rfl, hcs, _⟩ := hv
  obtain ⟨fuel, h⟩ := h
  have h3 : Try.prog.cellsOf 55 = 9 := by kernel_rfl
  obtain ⟨c⟩ := cs1
  rw [h3] at hcs
  match c, hcs with
  | [v0, v1, v2, v3, v4, v5, v6, v7, v8], _ =>
    simp only [Value.cells] at h
    obtain ⟨m0, y0, p0⟩ := field_part Try.underlying55 h (i := 0) (o := 0) (c := 1) rfl rfl (by kernel_rfl)
    have p0' : DataW.trod enc Try.prog w base spare held m0 27 [v0] = some y0 := p0
    obtain ⟨m1, y1, p1⟩ := field_part Try.underlying55 h (i := 1) (o := 1) (c := 1) rfl rfl (by kernel_rfl)
    have p1' : DataW.trod enc Try.prog w base spare held m1 40 [v1] = some y1 := p1
    obtain ⟨m2, y2, p2⟩ := field_part Try.underlying55 h (i := 2) (o := 2) (c := 5) rfl rfl (by kernel_rfl)
    have p2' : DataW.trod enc Try.prog w base spare held m2 53 [v2, v3, v4, v5, v6] = some y2 := p2
    obtain ⟨k0, g0, w0⟩ := field_cell Try.underlying53 p2' (i := 0) (o := 0) rfl rfl (by kernel_rfl) Try.underlying3
    obtain ⟨k1, g1, w1⟩ := field_cell Try.underlying53 p2' (i := 1) (o := 1) rfl rfl (by kernel_rfl) Try.underlying3
    obtain ⟨k2, g2, w2⟩ := field_cell Try.underlying53 p2' (i := 2) (o := 2) rfl rfl (by kernel_rfl) Try.underlying3
    obtain ⟨k3, g3, w3⟩ := field_cell Try.underlying53 p2' (i := 3) (o := 3) rfl rfl (by kernel_rfl) Try.underlying3
    obtain ⟨k4, g4, w4⟩ := field_cell Try.underlying53 p2' (i := 4) (o := 4) rfl rfl (by kernel_rfl) Try.underlying3
    obtain ⟨k5, g5, w5⟩ := field_cell Try.underlying55 h (i := 3) (o := 7) rfl rfl (by kernel_rfl) Try.underlying3
    obtain ⟨k6, g6, w6⟩ := field_cell Try.underlying55 h (i := 4) (o := 8) rfl rfl (by kernel_rfl) Try.underlying3
    obtain ⟨ea, en, ec, e0⟩ := part_slice Try.underlying27 p0'
    obtain ⟨wa, wn, wc, e1⟩ := part_slice Try.underlying40 p1'
    simp only [List.cons.injEq, and_true] at e0 e1
    subst e0 e1
    simp at g0 g1 g2 g3 g4 g5 g6
    subst g0 g1 g2 g3 g4 g5 g6
    obtain ⟨eb, eo, le, rfl, hl, q1, q2, q3, q4, q5⟩ := slice_evl p0'
    refine ⟨⟨cs, le, ao, cb, co, cap, ea, eb, eo, ec, wa, wn, wc, k0, k1, k2, k3, k4, k5, k6⟩, ⟨rfl, rfl, rfl⟩, rfl, ⟨c1, c2, c3, c4, q1, q2, q3, q4, ⟨i64_bounds w0, i64_bounds w1, i64_bounds w2, i64_bounds w3, i64_bounds w4⟩, i64_bounds w5, i64_bounds w6⟩, ?_, fun p hp => ?_⟩
    · unfold maxLen at hl; dsimp only; omega
    · have := q5 p hp; unfold maxLen at this; omega
end
end Go.Proofs.Ythacohejdpjjeaa
