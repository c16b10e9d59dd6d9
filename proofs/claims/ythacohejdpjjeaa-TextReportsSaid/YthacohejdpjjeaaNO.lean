/- Openings: an argument that is an event, or a call. -/
import Derived.Test.YthacohejdpjjeaaMN
import Derived.Test.YthacohejdpjjeaaK5
import Derived.Test.YthacohejdpjjeaaHO
import Derived.WalkLawsBesides
namespace Go.Proofs.Ythacohejdpjjeaa
open Go.ChangeShapes Go.WideShapes Go.ChangeAt Go.RowKit
set_option maxRecDepth 100000
set_option linter.unusedVariables false

theorem room_of {H : Type} {enc : TypeId × Value → H} {P : Program} {w : World} {base : Nat} {spare : Nat → Bool} {held : Bool} {t e : TypeId} {fuel len cap : Nat} {ao : Option Addr} {x : DataW H × List MemPlace} (ht : P.underlying t = some (.slice e)) (h : DataW.trod enc P w base spare held fuel t [.slice ao len cap] = some x) : len ≤ cap := by
  rcases DataW.trod_slice ht h with ⟨h1, _⟩ | ⟨a, l, c, _, _, _, _, h1, _, _, h2, _⟩
  · simp at h1; omega
  · simp at h1; omega

theorem open_words {H : Type} {enc : TypeId × Value → H} {w : World} {base : Nat} {spare : Nat → Bool} {held : Bool} {fuel : Nat} {v : Value} {x : DataW H × List MemPlace}
    (h : DataW.trod enc Try.prog w base spare held fuel 40 [v] = some x) :
    ∃ (l : List Nat) (ao : Option Addr) (b o cap : Nat), v = .slice ao l.length cap ∧ (0 < l.length → ao = some ⟨b, o, none⟩) ∧ (0 < l.length → b < w.heap.size) ∧ l.length ≤ cap ∧ (∀ (i x : Nat), l[i]? = some x → w.cell? ⟨b, o + i, none⟩ = some (.int .u64 (x : Int))) ∧ ∀ x ∈ l, x < 18446744073709551616 := by
  obtain ⟨ao, b, off, cap, l, hcs, hl, ha, hb, hq⟩ := slice_nums Try.underlying40 (by kernel_rfl) Try.underlying37 h
  simp only [List.cons.injEq, and_true] at hcs
  subst hcs
  have hr := room_of Try.underlying40 h
  obtain ⟨k, rfl, hk⟩ := nats_of (l := l) (fun z hz => by
    obtain ⟨i, hi⟩ := List.mem_iff_getElem?.1 hz
    exact u64_bounds (hq i z hi).2)
  rw [List.length_map] at *
  exact ⟨k, ao, b, off, cap, rfl, ha, hb, hr, fun i x hx => (hq i x (by rw [List.getElem?_map, hx]; rfl)).1, hk⟩
theorem open_ints {H : Type} {enc : TypeId × Value → H} {w : World} {base : Nat} {spare : Nat → Bool} {held : Bool} {fuel : Nat} {v : Value} {x : DataW H × List MemPlace}
    (h : DataW.trod enc Try.prog w base spare held fuel 24 [v] = some x) :
    ∃ (l : List Int) (ao : Option Addr) (b o cap : Nat), v = .slice ao l.length cap ∧ (0 < l.length → ao = some ⟨b, o, none⟩) ∧ (0 < l.length → b < w.heap.size) ∧ l.length ≤ cap ∧ (∀ (i : Nat) (x : Int), l[i]? = some x → w.cell? ⟨b, o + i, none⟩ = some (.int .i64 x)) ∧ ∀ x ∈ l, I63 x := by
  obtain ⟨ao, b, off, cap, l, hcs, hl, ha, hb, hq⟩ := slice_nums Try.underlying24 (by kernel_rfl) Try.underlying3 h
  simp only [List.cons.injEq, and_true] at hcs
  subst hcs
  have hr := room_of Try.underlying24 h
  exact ⟨l, ao, b, off, cap, rfl, ha, hb, hr, fun i x hx => (hq i x hx).1, fun z hz => by
    obtain ⟨i, hi⟩ := List.mem_iff_getElem?.1 hz
    exact i64_bounds (hq i z hi).2⟩

theorem open_ev {H : Type} {enc : TypeId × Value → H} {w : World} {base : Nat} {spare : Nat → Bool} {held : Bool} {fuel : Nat} {cs : List Value} {y : DataW H × List MemPlace} (hcl : cs.length = 8)
    (h : DataW.trod enc Try.prog w base spare held fuel 44 cs = some y) :
    ∃ (x : EvX) (s : EvS), cs = evVs x s ∧ x.Ok ∧ EvR w x s := by
  match cs, hcl with
  | [c0, c1, c2, c3, c4, c5, c6, c7], _ =>
    obtain ⟨ca, h0, w0⟩ := field_cell Try.underlying44 h (i := 0) (o := 0) rfl rfl (by kernel_rfl) Try.underlying3
    obtain ⟨iv, h1, w1⟩ := field_cell Try.underlying44 h (i := 1) (o := 1) rfl rfl (by kernel_rfl) Try.underlying3
    obtain ⟨rs, h2, w2⟩ := field_cell Try.underlying44 h (i := 2) (o := 2) rfl rfl (by kernel_rfl) Try.underlying3
    obtain ⟨st, h3, w3⟩ := field_cell Try.underlying44 h (i := 3) (o := 3) rfl rfl (by kernel_rfl) Try.underlying3
    obtain ⟨m4, y4, p4⟩ := field_part Try.underlying44 h (i := 4) (o := 4) (c := 3) rfl rfl (by kernel_rfl)
    have p4' : DataW.trod enc Try.prog w base spare held m4 42 [c4, c5, c6] = some y4 := p4
    obtain ⟨er, h4, w4⟩ := field_cell Try.underlying42 p4' (i := 0) (o := 0) rfl rfl (by kernel_rfl) Try.underlying31
    obtain ⟨vl, h5, w5⟩ := field_cell Try.underlying42 p4' (i := 1) (o := 1) rfl rfl (by kernel_rfl) Try.underlying37
    obtain ⟨m6, y6, p6⟩ := field_part Try.underlying42 p4' (i := 2) (o := 2) (c := 1) rfl rfl (by kernel_rfl)
    have p6' : DataW.trod enc Try.prog w base spare held m6 40 [c6] = some y6 := p6
    obtain ⟨m7, y7, p7⟩ := field_part Try.underlying44 h (i := 5) (o := 7) (c := 1) rfl rfl (by kernel_rfl)
    have p7' : DataW.trod enc Try.prog w base spare held m7 24 [c7] = some y7 := p7
    obtain ⟨lw, la, lb, lo, lc, rfl, a1, a2, a3, a4, a5⟩ := open_words p6'
    obtain ⟨kw, ka, kb, ko, kc, rfl, k1, k2, k3, k4, k5⟩ := open_ints p7'
    have bv := u64_bounds w5
    obtain ⟨vl, rfl⟩ : ∃ t : Nat, vl = t := ⟨vl.toNat, by omega⟩
    simp at h0 h1 h2 h3 h4 h5
    subst h0 h1 h2 h3 h4 h5
    exact ⟨⟨ca, iv, rs, st, er, vl, lw, kw⟩, ⟨la, lb, lo, lc, ka, kb, ko, kc⟩, rfl, ⟨i64_bounds w0, i64_bounds w1, i64_bounds w2, i64_bounds w3, i64_bounds w4, by show vl < _; omega, a5, k5⟩, ⟨a1, a2, a3, a4, k1, k2, k3, k4⟩⟩
theorem event_val {H : Type} {enc : TypeId × Value → H} {w : World} {base : Nat} {spare : Nat → Bool} {held : Bool} {r : Reach} {b0 : Nat} {v : Value} {d : DataW H} {ps : List MemPlace}
    (hv : Value.okWide Try.prog w r b0 44 v) (h : DataW.Trod enc Try.prog w base spare held 44 v d ps) :
    ∃ (x : EvX) (s : EvS), v = evV x s ∧ x.Ok ∧ EvR w x s := by
  simp only [Value.okWide, Try.underlying44] at hv
  obtain ⟨cs, rfl, hcs, _⟩ := hv
  obtain ⟨fuel, h⟩ := h
  have h3 : Try.prog.cellsOf 44 = 8 := by kernel_rfl
  obtain ⟨c⟩ := cs
  rw [h3] at hcs
  simp only [Value.cells] at h
  obtain ⟨x, s, rfl, ho, hr⟩ := open_ev (by simpa using hcs) h
  exact ⟨x, s, rfl, ho, hr⟩
theorem open_ca {H : Type} {enc : TypeId × Value → H} {w : World} {base : Nat} {spare : Nat → Bool} {held : Bool} {fuel : Nat} {cs : List Value} {y : DataW H × List MemPlace} (hcl : cs.length = 6)
    (htr : DataW.trod enc Try.prog w base spare held fuel 39 cs = some y) :
    ∃ (x : CaX), cs = x.vs ∧ x.Ok := by
  match cs, hcl with
  | [c0, c1, c2, c3, c4, c5], _ =>
    obtain ⟨t, h0, w0⟩ := field_cell Try.underlying39 htr (i := 0) (o := 0) rfl rfl (by kernel_rfl) Try.underlying3
    obtain ⟨ob, h1, w1⟩ := field_cell Try.underlying39 htr (i := 1) (o := 1) rfl rfl (by kernel_rfl) Try.underlying3
    obtain ⟨kd, h2, w2⟩ := field_cell Try.underlying39 htr (i := 2) (o := 2) rfl rfl (by kernel_rfl) Try.underlying3
    obtain ⟨a, h3, w3⟩ := field_cell Try.underlying39 htr (i := 3) (o := 3) rfl rfl (by kernel_rfl) Try.underlying37
    obtain ⟨bb, h4, w4⟩ := field_cell Try.underlying39 htr (i := 4) (o := 4) rfl rfl (by kernel_rfl) Try.underlying37
    obtain ⟨c, h5, w5⟩ := field_cell Try.underlying39 htr (i := 5) (o := 5) rfl rfl (by kernel_rfl) Try.underlying37
    have b3 := u64_bounds w3
    have b4 := u64_bounds w4
    have b5 := u64_bounds w5
    obtain ⟨a, rfl⟩ : ∃ z : Nat, a = z := ⟨a.toNat, by omega⟩
    obtain ⟨bb, rfl⟩ : ∃ z : Nat, bb = z := ⟨bb.toNat, by omega⟩
    obtain ⟨c, rfl⟩ : ∃ z : Nat, c = z := ⟨c.toNat, by omega⟩
    simp at h0 h1 h2 h3 h4 h5
    subst h0 h1 h2 h3 h4 h5
    exact ⟨⟨t, ob, kd, a, bb, c⟩, rfl, i64_bounds w0, i64_bounds w1, i64_bounds w2, by show a < _; omega, by show bb < _; omega, by show c < _; omega⟩
theorem call_val {H : Type} {enc : TypeId × Value → H} {w : World} {base : Nat} {spare : Nat → Bool} {held : Bool} {r : Reach} {b0 : Nat} {v : Value} {d : DataW H} {ps : List MemPlace}
    (hv : Value.okWide Try.prog w r b0 39 v) (h : DataW.Trod enc Try.prog w base spare held 39 v d ps) :
    ∃ (x : CaX), v = caV x ∧ x.Ok := by
  simp only [Value.okWide, Try.underlying39] at hv
  obtain ⟨cs, rfl, hcs, _⟩ := hv
  obtain ⟨fuel, h⟩ := h
  have h3 : Try.prog.cellsOf 39 = 6 := by kernel_rfl
  obtain ⟨c⟩ := cs
  rw [h3] at hcs
  simp only [Value.cells] at h
  obtain ⟨x, rfl, ho⟩ := open_ca (by simpa using hcs) h
  exact ⟨x, rfl, ho⟩
end Go.Proofs.Ythacohejdpjjeaa
