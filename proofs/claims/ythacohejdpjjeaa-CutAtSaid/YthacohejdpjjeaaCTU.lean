/- Openings: a scene with its calls and picks; events, and how long their lists may be. -/
import Derived.Test.YthacohejdpjjeaaCTM
import Derived.Test.YthacohejdpjjeaaUO
import Derived.Test.YthacohejdpjjeaaNO
import Derived.SizedLaws
namespace Go.Proofs.Ythacohejdpjjeaa
open Go.ChangeShapes Go.WideShapes Go.ChangeAt Go.RowKit
set_option maxRecDepth 100000
set_option linter.unusedVariables false

section
variable {H : Type} {enc : TypeId × Value → H} {P : Program} {w : World} {base : Nat} {spare : Nat → Bool} {held : Bool}
theorem weights_all {e : TypeId} : ∀ {l : List (DataW H)} {d : DataW H}, d ∈ l → ∀ m ∈ d.weights P e, m ∈ DataW.weightsAll P e l
  | [], _, h, _, _ => by simp at h
  | a :: l, d, h, m, hm => by
    rw [DataW.weightsAll, List.mem_append]
    rcases List.mem_cons.1 h with rfl | h
    · exact .inl hm
    · exact .inr (weights_all h m hm)
/-- what a field weighs, its struct weighs -/
theorem part_weighs {fs : Array Field} {t : TypeId} {fuel : Nat} {cs : List Value} {x : DataW H × List MemPlace} (ht : P.underlying t = some (.struct fs)) (h : DataW.trod enc P w base spare held fuel t cs = some x)
    {i o c : Nat} {f : Field} (hf : fs[i]? = some f) (ho : f.offset = o) (hc : P.cellsOf f.type = c) : ∃ (n : Nat) (y : DataW H × List MemPlace), DataW.trod enc P w base spare held n f.type ((cs.drop o).take c) = some y ∧ ∀ m ∈ y.1.weights P f.type, m ∈ x.1.weights P t := by
  obtain ⟨xs, n, _, hx0, _, hxl, hel⟩ := DataW.trod_struct ht h
  have e := hel i f hf
  have hi : i < fs.size := (Array.getElem?_eq_some_iff.1 hf).1
  have hx : xs[i]? = some (xs[i]'(by omega)) := List.getElem?_eq_getElem _
  have e2 := e
  rw [hx, hc, ho] at e2
  refine ⟨_, _, e2, fun m hm => ?_⟩
  rw [hx0]
  simp only [DataW.weights, ht]
  refine DataW.weights_mem_each (j := i) (t := f.type) (d := (xs[i]'(by omega)).1) ?_ ?_ m hm
  · rw [List.getElem?_map, Array.getElem?_toList, hf]; rfl
  · rw [List.getElem?_map, hx]; rfl
/-- what a slice weighs by itself, and what its elements weigh -/
theorem slice_weighs {t e : TypeId} {fuel n cap : Nat} {ao : Option Addr} {x : DataW H × List MemPlace} (ht : P.underlying t = some (.slice e)) (h : DataW.trod enc P w base spare held fuel t [.slice ao n cap] = some x) :
    n = 0 ∨ ∃ m ∈ x.1.weights P t, n * P.bytesOf e ≤ m := by
  rcases Go.Deep.open_slice ht h with ⟨h0, _⟩ | ⟨a, len, cap', m, k, D, Pl, h0, _, hl, _, hm, hx, _⟩
  · left
    simp only [List.cons.injEq, Value.slice.injEq, and_true] at h0
    exact h0.2.1
  · right
    simp only [List.cons.injEq, Value.slice.injEq, and_true] at h0
    obtain ⟨_, rfl, _⟩ := h0
    refine ⟨(((List.range n).map D).length + ((List.range (m - n)).map fun j => D (n + j)).length) * P.bytesOf e, ?_, ?_⟩
    · rw [hx]
      simp [DataW.weights, ht]
    · exact Nat.mul_le_mul_right _ (by simp)
theorem elem_weighs {t e : TypeId} {fuel sz : Nat} {cs : List Value} {x : DataW H × List MemPlace} (ht : P.underlying t = some (.slice e)) (hsz : P.cellsOf e = sz) (h0 : 0 < sz)
    (h : DataW.trod enc P w base spare held fuel t cs = some x) :
    ∃ ao b off len cap, cs = [.slice ao len cap] ∧ len ≤ maxLen ∧ (0 < len → ao = some ⟨b, off, none⟩ ∧ b < w.heap.size) ∧
      ∀ i, i < len → ∃ (cs' : List Value) (y : DataW H × List MemPlace) (n : Nat), cs'.length = sz ∧ DataW.trod enc P w base spare held n e cs' = some y ∧ (∀ m ∈ y.1.weights P e, m ∈ x.1.weights P t) ∧ ∀ j, j < sz → w.cell? ⟨b, off + i * sz + j, none⟩ = cs'[j]? := by
  rcases Go.Deep.open_slice ht h with ⟨rfl, _⟩ | ⟨a, len, cap, m, n, D, Pl, rfl, _, hl, hc, hm, hx, hi⟩
  · exact ⟨none, 0, 0, 0, 0, rfl, Nat.zero_le _, fun h => absurd h (by omega), fun i h => absurd h (by omega)⟩
  · by_cases hlen : 0 < len
    · have hmle : len ≤ m := by rw [hm]; split <;> omega
      have hsp : a.spot = none ∧ a.block < w.heap.size := by
        obtain ⟨cs', hcs, _⟩ := hi 0 (by omega)
        obtain ⟨_, hcl, hat⟩ := World.cells?_some hcs
        rw [hsz] at hcl hat
        have h1 := hat 0 h0
        rw [Nat.zero_mul] at h1
        have h2 : (a.add 0).add 0 = a := by simp [Addr.add]
        rw [h2, List.getElem?_eq_getElem (by omega)] at h1
        exact ⟨World.cell?_spot h1, World.block_lt_of_cell? w a h1⟩
      have ha : a = ⟨a.block, a.off, none⟩ := by
        obtain ⟨b, o, s⟩ := a
        obtain ⟨h1, _⟩ := hsp
        simp only at h1
        subst h1
        rfl
      refine ⟨some a, a.block, a.off, len, cap, rfl, by omega, fun _ => ⟨congrArg some ha, hsp.2⟩, fun i hil => ?_⟩
      obtain ⟨cs', hcs, htr⟩ := hi i (by omega)
      obtain ⟨_, hcl, hat⟩ := World.cells?_some hcs
      rw [hsz] at hcl hat
      refine ⟨cs', _, n, hcl, htr, fun q hq => ?_, fun j hj => ?_⟩
      · rw [hx]
        simp only [DataW.weights, ht, List.mem_cons, List.mem_append]
        exact .inr (.inl (weights_all (List.mem_map.2 ⟨i, List.mem_range.2 hil, rfl⟩) q hq))
      · rw [← hat j hj, addr_add _ (i * sz) a.block a.off ha, addr_add _ j a.block (a.off + i * sz) rfl]
    · have h00 : len = 0 := by omega
      subst h00
      exact ⟨some a, 0, 0, 0, cap, rfl, Nat.zero_le _, fun h => absurd h (by omega), fun i h => absurd h (by omega)⟩
end
theorem bytesU : Try.prog.bytesOf 37 = 8 := by kernel_rfl
theorem bytesIn : Try.prog.bytesOf 3 = 8 := by kernel_rfl
theorem ev_small {H : Type} {enc : TypeId × Value → H} {w : World} {base : Nat} {spare : Nat → Bool} {held : Bool} {fuel : Nat} {x : EvX} {s : EvS} {y : DataW H × List MemPlace}
    (h : DataW.trod enc Try.prog w base spare held fuel 44 (evVs x s) = some y) (hw : ∀ m ∈ y.1.weights Try.prog 44, m ≤ reachBytes) : EvSmall x := by
  obtain ⟨m4, y4, p4, k4⟩ := part_weighs Try.underlying44 h (i := 4) (o := 4) (c := 3) rfl rfl (by kernel_rfl)
  have p4' : DataW.trod enc Try.prog w base spare held m4 42 [.int .i64 x.er, .int .u64 (x.vl : Int), .slice s.la x.lw.length s.lc] = some y4 := p4
  obtain ⟨m6, y6, p6, k6⟩ := part_weighs Try.underlying42 p4' (i := 2) (o := 2) (c := 1) rfl rfl (by kernel_rfl)
  have p6' : DataW.trod enc Try.prog w base spare held m6 40 [.slice s.la x.lw.length s.lc] = some y6 := p6
  obtain ⟨m7, y7, p7, k7⟩ := part_weighs Try.underlying44 h (i := 5) (o := 7) (c := 1) rfl rfl (by kernel_rfl)
  have p7' : DataW.trod enc Try.prog w base spare held m7 24 [.slice s.ka x.kw.length s.kc] = some y7 := p7
  have hr : reachBytes = 140737488351232 := rfl
  refine ⟨?_, ?_⟩
  · rcases slice_weighs Try.underlying40 p6' with h0 | ⟨m, hm, hle⟩
    · omega
    · have := hw m (k4 m (k6 m hm))
      rw [bytesU] at hle
      omega
  · rcases slice_weighs Try.underlying24 p7' with h0 | ⟨m, hm, hle⟩
    · omega
    · have := hw m (k7 m hm)
      rw [bytesIn] at hle
      omega
theorem slice_evs {H : Type} {enc : TypeId × Value → H} {w : World} {base : Nat} {spare : Nat → Bool} {held : Bool} {fuel : Nat} {ao : Option Addr} {n cap : Nat} {x : DataW H × List MemPlace}
    (h : DataW.trod enc Try.prog w base spare held fuel 27 [.slice ao n cap] = some x) :
    ∃ (b off : Nat) (le : List (EvX × EvS)), n = le.length ∧ le.length ≤ maxLen ∧ EvsR w ao b off le ∧ ((∀ m ∈ x.1.weights Try.prog 27, m ≤ reachBytes) → ∀ p ∈ le, EvSmall p.1) := by
  obtain ⟨ao', b, off, len, cap', hcs, hl, ha, hi⟩ := elem_weighs Try.underlying27 (sz := 8) (by kernel_rfl) (by omega) h
  simp only [List.cons.injEq, Value.slice.injEq, and_true] at hcs
  obtain ⟨rfl, rfl, rfl⟩ := hcs
  have := list_of (n := n) (Q := fun i (p : EvX × EvS) => (∀ (k : Nat) (u : Value), (evVs p.1 p.2)[k]? = some u → w.cell? ⟨b, off + i * 8 + k, none⟩ = some u) ∧ (p.1.Ok ∧ EvR w p.1 p.2) ∧ ((∀ m ∈ x.1.weights Try.prog 27, m ≤ reachBytes) → EvSmall p.1)) (fun i hil => by
    obtain ⟨cs', y, n', hcl, htr, hwt, hat⟩ := hi i hil
    obtain ⟨ex, es, rfl, ho, hr⟩ := open_ev hcl htr
    exact ⟨(ex, es), fun k u hu => by
      have hk : k < 8 := (List.getElem?_eq_some_iff.1 hu).1
      rw [hat k hk]
      exact hu, ⟨ho, hr⟩, fun hw => ev_small htr (fun m hm => hw m (hwt m hm))⟩)
  obtain ⟨le, rfl, hq⟩ := this
  refine ⟨b, off, le, rfl, hl, ⟨fun h => (ha h).1, fun h => (ha h).2, fun i p hp => (hq i p hp).1, fun p hp => ?_⟩, fun hw p hp => ?_⟩
  · obtain ⟨i, hi⟩ := List.mem_iff_getElem?.1 hp
    exact (hq i p hi).2.1
  · obtain ⟨i, hi⟩ := List.mem_iff_getElem?.1 hp
    exact (hq i p hi).2.2 hw
theorem scene_open {H : Type} {enc : TypeId × Value → H} {w : World} {base : Nat} {spare : Nat → Bool} {held : Bool} {r : Reach} {b0 : Nat} {v : Value} {d : DataW H} {ps : List MemPlace}
    (hv : Value.okWide Try.prog w r b0 26 v) (h : DataW.Trod enc Try.prog w base spare held 26 v d ps) :
    ∃ (n : Int) (sao : Option Addr) (na sc : Nat) (ao : Option Addr) (b o cap : Nat) (cs : List CallV) (pa : Option Addr) (pb po pc : Nat) (pk : List Int), v = scnV n (.slice sao na sc) (.slice ao cs.length cap) (.slice pa pk.length pc) ∧
      (CallsAt w b o cs ∧ (0 < cs.length → ao = some ⟨b, o, none⟩) ∧ (0 < cs.length → b < w.heap.size) ∧ cs.length ≤ maxLen) ∧ ((0 < pk.length → pa = some ⟨pb, po, none⟩) ∧ (0 < pk.length → pb < w.heap.size) ∧ ICells w pb po pk ∧ pk.length ≤ maxLen) := by
  simp only [Value.okWide, Try.underlying26] at hv
  obtain ⟨cs, rfl, hcs, _⟩ := hv
  obtain ⟨fuel, h⟩ := h
  have h3 : Try.prog.cellsOf 26 = 4 := by kernel_rfl
  obtain ⟨c⟩ := cs
  rw [h3] at hcs
  match c, hcs with
  | [c0, c1, c2, c3], _ =>
    simp only [Value.cells] at h
    obtain ⟨n, e0, _⟩ := field_cell Try.underlying26 h (i := 0) (o := 0) rfl rfl (by kernel_rfl) Try.underlying3
    obtain ⟨m1, y1, p1⟩ := field_part Try.underlying26 h (i := 1) (o := 1) (c := 1) rfl rfl (by kernel_rfl)
    obtain ⟨m2, y2, p2⟩ := field_part Try.underlying26 h (i := 2) (o := 2) (c := 1) rfl rfl (by kernel_rfl)
    obtain ⟨m3, y3, p3⟩ := field_part Try.underlying26 h (i := 3) (o := 3) (c := 1) rfl rfl (by kernel_rfl)
    have p1' : DataW.trod enc Try.prog w base spare held m1 22 [c1] = some y1 := p1
    have p2' : DataW.trod enc Try.prog w base spare held m2 23 [c2] = some y2 := p2
    have p3' : DataW.trod enc Try.prog w base spare held m3 24 [c3] = some y3 := p3
    obtain ⟨a1, n1, q1, e1⟩ := part_slice Try.underlying22 p1'
    obtain ⟨a2, n2, q2, e2⟩ := part_slice Try.underlying23 p2'
    obtain ⟨pa, pb, po, pc, pk, e3, hpl, hpa, hpb, hpc⟩ := slice_nums Try.underlying24 (by kernel_rfl) Try.underlying3 p3'
    simp only [List.cons.injEq, and_true] at e1 e2 e3
    subst e1 e2 e3
    simp at e0
    subst e0
    obtain ⟨cb, co, cs, rfl, hcl, hca, hcb, hcc⟩ := slice_calls p2'
    exact ⟨n, a1, n1, q1, a2, cb, co, q2, cs, pa, pb, po, pc, pk, rfl, ⟨hcc, hca, hcb, hcl⟩, hpa, hpb, fun i x hx => ⟨(hpc i x hx).1, i64_bounds (hpc i x hx).2⟩, hpl⟩
end Go.Proofs.Ythacohejdpjjeaa
