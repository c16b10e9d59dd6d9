/- A law's last step, over any program: the call answered true, and nothing that there was has turned: so each argument reads as it did. | Opening arguments, over any program: arrays of two numbers, and slices whose elements have so many cells each. | Over any program: append of one element that lies in a block made for it, onto a slice of the call's own: what comes of it, in one word for each thing that a walk wants. | Over any program: append of a whole slice onto an empty one that was just made. | Opening, over any program: a struct of four numbers by value; a slice of words; a nil slice has no room. | Over any program: of a region that draws its order, the first operations in whatever order, held; and then its tail, each operation of which waits for all ahead of it, one by one. | What the program's types of numbers are. | Plain: regions laid one after the other. | A region that draws its order, whose operations only read and whose callees make memory of their own and answer what hangs on nothing else: walked once, in the order of the text; in a round of a range over a function, too. Over any program. | Opening: an argument of events. | Over any program: a map of the call's own, by numbers from 0 to 15, whose elements are known as the values that they are. -/
import Derived.ProofKit
import Derived.OpenShut
import Derived.Carry
import Derived.WalkKit
import Derived.WalkSpells
import Derived.Deep.QuietTactic
import Derived.BigQuiet
import Derived.Lib.Hide
import Derived.Deep.Slices
import Derived.Deep.RegionLaw
import Derived.Laws.AppendOwnNone
import Derived.Deep.RegionHeld3
import Derived.Test.YtjjleghalajidaaGreatProg
import Derived.OrdersIn
import Derived.TacticsIn
import Derived.RangeFuncCalls
import Derived.Test.YtjjleghalajidaaGreatChecked
import Derived.Maps.OwnSet
import Derived.Maps.RangeWalk
import Derived.Maps.AppendAt
namespace Go.Proofs.YtjjleghalajidaaGreat
section
set_option maxRecDepth 100000
open Go.ChangeShapes Go.WideShapes Go.ChangeAt Go.RowKit

/-- arguments of any readable types, in a world that has grown -/
theorem stays_all {H : Type} {enc : TypeId × Value → H} {P : Program} {W W' : World} (hl : laidOutB P = true) (hb : Below W.heap.size W W') :
    ∀ (ts : List TypeId) (vs : List Value) (ds : List (DataW H)) (ps : List MemPlace), ts.all (fun t => P.readableRec t && decide (t < P.types.size)) = true →
      DataW.TrodAll enc P W 0 (fun _ => true) true ts vs ds ps → (∀ x ∈ ps, x.block < W.heap.size) → DataW.TrodAll enc P W' 0 (fun b => decide (b < W.heap.size)) true ts vs ds ps := by
  intro ts
  induction ts with
  | nil =>
    intro vs ds ps _ h _
    obtain ⟨rfl, rfl, rfl⟩ := trodAll_nil h
    exact trodAll_mk0
  | cons t ts ih =>
    intro vs ds ps hr h hlt
    obtain ⟨v, vs', d, ds', p, q, rfl, rfl, rfl, h0, h1⟩ := trodAll_cons h
    rw [List.all_cons, Bool.and_eq_true, Bool.and_eq_true, decide_eq_true_eq] at hr
    exact trodAll_cons_mk (Below.trod hl hr.1.1 hr.1.2 h0 hb (fun x hx => hlt x (List.mem_append_left _ hx))) (ih vs' ds' q hr.2 h1 (fun x hx => hlt x (List.mem_append_right _ hx)))

/-- THE LAW'S POST -/
theorem law_post {H : Type} {enc : TypeId × Value → H} {P : Program} {f : Func} {s : ChangeSpec} {apart : Bool} {W W' : World} {args : Array Value} {ds gs : List (DataW H)} {before : List MemPlace}
    (hl : laidOutB P = true) (hr : f.params.toList.all (fun t => P.readableRec t && decide (t < P.types.size)) = true) (hv : s.vars = [])
    (hW : DataW.Whole enc P f.params.toList s.vars apart W args.toList ds gs before) (hb : Below W.heap.size W W')
    (hfn : s.fn H (ds ++ gs) = { results := [.lit (.bool true)], args := ds }) {tb : TypeId} (hres : f.resultTypes = #[tb]) (htb : P.underlying tb = some .bool) :
    s.post enc P f apart true false false W args (.bool true) W' := by
  have hlt : ∀ p ∈ before, p.block < W.heap.size := fun p hp => hW.lt p hp
  have hW' := hW
  obtain ⟨p, q, hA, hV, rfl, _, _⟩ := hW'
  rw [hv] at hV
  obtain ⟨rfl, rfl⟩ := trodVars_none hV
  refine ⟨ds, [], _, [], p, [], hW, ?_, ?_, ?_, hb.frame _, fun h => absurd h (by decide)⟩
  · rw [hfn, hres]
    exact trodAll_mk1 (shut_bool htb _)
  · rw [hfn]
    exact stays_all hl hb _ _ _ _ hr hA (fun x hx => hlt x (by simp [hx]))
  · rw [hfn, hv]
    rfl

/- small facts -/
/-- a call that turns nothing keeps whatever is known of the world -/
theorem call_keeps {P : Program} {f : FuncId} {args : Array Value} {W : World} {v : Value} {p : World → Prop} (hp : p W) (c : Calls P f args W fun e w' => e = .returned v ∧ W = w') :
    Calls P f args W fun e w' => e = .returned v ∧ p w' := c.mono fun _ _ ⟨he, hw⟩ => ⟨he, hw ▸ hp⟩

theorem ret_pair {k l : IntKind} {a b c d : Int} (h : a = b) (h2 : c = d) : Ending.returned (.tuple #[.int k a, .int l c]) = .returned (.tuple #[.int k b, .int l d]) := by rw [h, h2]

theorem ret_int {k : IntKind} {a b : Int} (h : a = b) : Ending.returned (.int k a) = .returned (.int k b) := by rw [h]

theorem ret_bool {a b : Bool} (h : a = b) : Ending.returned (.bool a) = .returned (.bool b) := by rw [h]

theorem beq_cast {x y : Nat} : ((x : Int) == (y : Int)) = (x == y) := by
  rw [Bool.eq_iff_iff, beq_iff_eq, beq_iff_eq]; omega

theorem below_drewN {B : Nat} {a w : World} (h : Below B a w) (n : Nat) : Below B a (w.drewN n) := ⟨h.os, h.tape, h.output, h.size, h.block⟩

theorem owns_drewN {w : World} {B : Nat} {e : TypeId} {sz n : Nat} {v : Value} {xs : List Value} (h : w.ownsRow B e sz v n xs) (k : Nat) : (w.drewN k).ownsRow B e sz v n xs := h

theorem cell_new0 (w : World) (v : Value) (e : TypeId) {b : Nat} (hb : b = w.heap.size) : (w.alloc (.cells #[v] e)).cell? ⟨b, 0, none⟩ = some v := by
  subst hb; exact World.cell?_alloc_at _ _ _ _ rfl

theorem owns_open {w : World} {B : Nat} {e : TypeId} {n sz : Nat} {v : Value} {xs : List Value} (h : w.ownsRow B e sz v n xs) :
    ∃ ao g cap, v = .slice ao n cap ∧ (0 < n → ao = some ⟨g, 0, none⟩) ∧ (0 < n → B ≤ g) ∧ (0 < n → g < w.heap.size) ∧ ∀ i u, xs[i]? = some u → w.cell? ⟨g, i, none⟩ = some u := by
  have hlen := h.1
  have hcl := fun {g : Nat} => World.ownsRow.cells (g := g) h
  have hlt := h.lt
  obtain ⟨_, ⟨rfl, rfl⟩ | ⟨g, cap, cur, rfl, hg, hb, h1, h2, h3, h4⟩⟩ := h
  · refine ⟨none, 0, 0, rfl, fun h => absurd h (by omega), fun h => absurd h (by omega), fun h => absurd h (by omega), fun i u hu => ?_⟩
    have : xs = [] := List.length_eq_zero_iff.1 (by simpa using hlen)
    subst this
    simp at hu
  · refine ⟨_, g, cap, rfl, fun _ => rfl, fun _ => hg, fun _ => (hlt g rfl).2, fun i u hu => ?_⟩
    have := hcl (g := g) rfl i u hu
    by_cases hi : i = 0
    · subst hi; simpa [Addr.add] using this
    · simpa [Addr.add, hi] using this

theorem take_snoc {α : Type} {l : List α} {j : Nat} {x : α} (h : l[j]? = some x) : l.take (j + 1) = l.take j ++ [x] := by
  rw [List.take_add_one, h]; rfl

theorem blk_lt {w : World} {b : Nat} {o : Obj} (h : w.heap[b]? = some o) : b < w.heap.size := by
  rcases Nat.lt_or_ge b w.heap.size with h' | h'
  · exact h'
  · simp [Array.getElem?_eq_none h'] at h
end
section
set_option maxRecDepth 100000
open Go.ChangeShapes Go.WideShapes Go.ChangeAt Go.RowKit

theorem list_of {α : Type} {n : Nat} {Q : Nat → α → Prop} (h : ∀ i, i < n → ∃ x, Q i x) : ∃ l : List α, l.length = n ∧ ∀ (i : Nat) (x : α), l[i]? = some x → Q i x := by
  induction n with
  | zero => exact ⟨[], rfl, fun i x hx => by simp at hx⟩
  | succ n ih =>
    obtain ⟨l, hl, hq⟩ := ih (fun i hi => h i (by omega))
    obtain ⟨y, hy⟩ := h n (by omega)
    refine ⟨l ++ [y], by simp [hl], fun i x hx => ?_⟩
    by_cases hi : i < l.length
    · rw [List.getElem?_append_left hi] at hx
      exact hq i x hx
    · rw [List.getElem?_append_right (by omega)] at hx
      have : i = n := by
        have := (List.getElem?_eq_some_iff.1 hx).1
        simp at this; omega
      subst this
      rw [hl, Nat.sub_self] at hx
      simp at hx; subst hx
      exact hy

section
variable {H : Type} {enc : TypeId × Value → H} {P : Program} {w : World} {base : Nat} {spare : Nat → Bool} {held : Bool}

theorem addr_add (a : Addr) (n b off : Nat) (h : a = ⟨b, off, none⟩) : a.add n = ⟨b, off + n, none⟩ := by
  subst h; unfold Addr.add
  by_cases hn : n = 0
  · subst hn; simp
  · simp [hn]

/-- a slice, nil or not, as the cells of its elements -/
theorem slice_cells {t e : TypeId} {fuel sz : Nat} {cs : List Value} {x : DataW H × List MemPlace} (ht : P.underlying t = some (.slice e)) (hsz : P.cellsOf e = sz) (h0 : 0 < sz)
    (h : DataW.trod enc P w base spare held fuel t cs = some x) :
    ∃ ao b off len cap, cs = [.slice ao len cap] ∧ len ≤ maxLen ∧ (0 < len → ao = some ⟨b, off, none⟩ ∧ b < w.heap.size) ∧
      ∀ i, i < len → ∃ (cs' : List Value) (y : DataW H × List MemPlace) (n : Nat), cs'.length = sz ∧ DataW.trod enc P w base spare held n e cs' = some y ∧ ∀ j, j < sz → w.cell? ⟨b, off + i * sz + j, none⟩ = cs'[j]? := by
  rcases Go.Deep.open_slice ht h with ⟨rfl, _⟩ | ⟨a, len, cap, m, n, D, Pl, rfl, _, hl, hc, hm, _, hi⟩
  · exact ⟨none, 0, 0, 0, 0, rfl, Nat.zero_le _, fun h => absurd h (by omega), fun i h => absurd h (by omega)⟩
  · by_cases hlen : 0 < len
    · have hmle : len ≤ m := by rw [hm]; split <;> omega
      have hsp : a.spot = none ∧ a.block < w.heap.size := by
        obtain ⟨cs', hcs, _⟩ := hi 0 (by omega)
        obtain ⟨_, hcl, hat⟩ := World.cells?_some hcs
        rw [hsz] at hcl hat
        have h1 := hat 0 h0
        rw [Nat.zero_mul] at h1
        have h2 : (a.add 0).add 0 = a := by simp [Addr.add]
        rw [h2, List.getElem?_eq_getElem (by omega)] at h1
        exact ⟨World.cell?_spot h1, World.block_lt_of_cell? w a h1⟩
      have ha : a = ⟨a.block, a.off, none⟩ := by
        obtain ⟨b, o, s⟩ := a
        obtain ⟨h1, _⟩ := hsp
        simp only at h1
        subst h1
        rfl
      refine ⟨some a, a.block, a.off, len, cap, rfl, by omega, fun _ => ⟨congrArg some ha, hsp.2⟩, fun i hil => ?_⟩
      obtain ⟨cs', hcs, htr⟩ := hi i (by omega)
      obtain ⟨_, hcl, hat⟩ := World.cells?_some hcs
      rw [hsz] at hcl hat hcs
      refine ⟨cs', _, n, hcl, htr, fun j hj => ?_⟩
      have h1 := hat j hj
      rw [Go.Deep.add_add, addr_add a _ _ _ ha, ← Nat.add_assoc] at h1
      exact h1
    · exact ⟨some a, 0, 0, len, cap, rfl, by omega, fun h => absurd h hlen, fun i h => absurd h (by omega)⟩

/-- a slice of numbers -/
theorem slice_nums {t e : TypeId} {k : IntKind} {fuel : Nat} {cs : List Value} {x : DataW H × List MemPlace} (ht : P.underlying t = some (.slice e)) (hsz : P.cellsOf e = 1) (he : P.underlying e = some (.int k))
    (h : DataW.trod enc P w base spare held fuel t cs = some x) :
    ∃ (ao : Option Addr) (b off cap : Nat) (l : List Int), cs = [.slice ao l.length cap] ∧ l.length ≤ maxLen ∧ (0 < l.length → ao = some ⟨b, off, none⟩) ∧ (0 < l.length → b < w.heap.size) ∧
      ∀ (i : Nat) (z : Int), l[i]? = some z → w.cell? ⟨b, off + i, none⟩ = some (.int k z) ∧ (Lit.int k z).wf = true := by
  obtain ⟨ao, b, off, len, cap, rfl, hl, ha, hi⟩ := slice_cells ht hsz (by omega) h
  have := list_of (n := len) (Q := fun i (z : Int) => w.cell? ⟨b, off + i, none⟩ = some (.int k z) ∧ (Lit.int k z).wf = true) (fun i hil => by
    obtain ⟨cs', y, n, hcl, htr, hat⟩ := hi i hil
    obtain ⟨z, rfl, _, hwf⟩ := DataW.trod_int he htr
    have h1 := hat 0 (by omega)
    rw [Nat.mul_one, Nat.add_zero] at h1
    exact ⟨z, h1, hwf⟩)
  obtain ⟨l, rfl, hq⟩ := this
  exact ⟨ao, b, off, cap, l, rfl, hl, fun h => (ha h).1, fun h => (ha h).2, hq⟩

/-- an array of two numbers, by value -/
theorem arr2_nums {t e : TypeId} {k : IntKind} {r : Reach} {b0 : Nat} {v : Value} {d : DataW H} {p : List MemPlace} (ht : P.underlying t = some (.array 2 e)) (he : P.underlying e = some (.int k)) (hce : P.cellsOf e = 1) (hct : P.cellsOf t = 2)
    (hv : Value.okWide P w r b0 t v) (h : DataW.Trod enc P w base spare held t v d p) : ∃ a b : Int, v = .agg #[.int k a, .int k b] ∧ (Lit.int k a).wf = true ∧ (Lit.int k b).wf = true := by
  simp only [Value.okWide, ht] at hv
  obtain ⟨cs, rfl, hcs, _⟩ := hv
  obtain ⟨fuel, h⟩ := h
  obtain ⟨xs, m, _, _, _, _, hel⟩ := DataW.trod_array ht h
  obtain ⟨l⟩ := cs
  rw [hct] at hcs
  match l, hcs with
  | [c0, c1], _ =>
    have e0 := hel 0 (by omega)
    have e1 := hel 1 (by omega)
    rw [hce] at e0 e1
    have hx0 : xs[0]? = some (xs[0]'(by omega)) := List.getElem?_eq_getElem _
    have hx1 : xs[1]? = some (xs[1]'(by omega)) := List.getElem?_eq_getElem _
    rw [hx0] at e0
    rw [hx1] at e1
    obtain ⟨a, ha, _, wa⟩ := DataW.trod_int he e0
    obtain ⟨b, hb, _, wb⟩ := DataW.trod_int he e1
    simp [Value.cells] at ha hb
    subst ha; subst hb
    exact ⟨a, b, rfl, wa, wb⟩

/-- one cell out of a struct's row of cells -/
theorem field_cell {fs : Array Field} {t : TypeId} {fuel : Nat} {cs : List Value} {x : DataW H × List MemPlace} (ht : P.underlying t = some (.struct fs)) (h : DataW.trod enc P w base spare held fuel t cs = some x)
    {i o : Nat} {f : Field} {k : IntKind} (hf : fs[i]? = some f) (ho : f.offset = o) (hc : P.cellsOf f.type = 1) (hk : P.underlying f.type = some (.int k)) : ∃ z : Int, cs[o]? = some (.int k z) ∧ (Lit.int k z).wf = true := by
  obtain ⟨xs, n, _, _, _, hxl, hel⟩ := DataW.trod_struct ht h
  have e := hel i f hf
  have hi : i < fs.size := (Array.getElem?_eq_some_iff.1 hf).1
  have hx : xs[i]? = some (xs[i]'(by omega)) := List.getElem?_eq_getElem _
  rw [hx, hc, ho] at e
  obtain ⟨z, hz, _, hw⟩ := DataW.trod_int hk e
  refine ⟨z, ?_, hw⟩
  have h1 : ((cs.drop o).take 1)[0]? = some (.int k z) := by rw [hz]; rfl
  rw [List.getElem?_take] at h1
  simpa using h1
end

theorem u64_bounds {z : Int} (h : (Lit.int .u64 z).wf = true) : 0 ≤ z ∧ z ≤ 18446744073709551615 := by simpa [Lit.wf, IntKind.min, IntKind.max, IntKind.signed, IntKind.bits] using h
theorem i64_bounds {z : Int} (h : (Lit.int .i64 z).wf = true) : -9223372036854775808 ≤ z ∧ z ≤ 9223372036854775807 := by simpa [Lit.wf, IntKind.min, IntKind.max, IntKind.signed, IntKind.bits] using h
end
section
set_option maxRecDepth 100000
open Go.ChangeShapes Go.WideShapes Go.ChangeAt Go.RowKit

/-- two rows of the call's own, of unlike types, lie in two blocks -/
theorem owns_apart {w : World} {B1 B2 : Nat} {e1 e2 : TypeId} {s1 s2 n1 n2 : Nat} {v1 v2 : Value} {x1 x2 : List Value} (h1 : w.ownsRow B1 e1 s1 v1 n1 x1) (h2 : w.ownsRow B2 e2 s2 v2 n2 x2) (he : e1 ≠ e2) :
    v1.ownBlock = none ∨ v1.ownBlock ≠ v2.ownBlock := by
  obtain ⟨_, ⟨rfl, _⟩ | ⟨g1, c1, u1, rfl, _, hb1, _⟩⟩ := h1
  · exact .inl rfl
  · obtain ⟨_, ⟨rfl, _⟩ | ⟨g2, c2, u2, rfl, _, hb2, _⟩⟩ := h2
    · right; intro h; cases h
    · right
      intro h
      simp only [Value.ownBlock, Option.some.injEq] at h
      subst h
      rw [hb1] at hb2
      simp at hb2
      exact he hb2.2

/-- a row of the call's own, behind a call that turned nothing that there was -/
theorem owns_below {w w' : World} {B : Nat} {e : TypeId} {s n : Nat} {v : Value} {xs : List Value} (h : w.ownsRow B e s v n xs) (hb : Below w.heap.size w w') : w'.ownsRow B e s v n xs :=
  h.kept (row := none) ⟨hb.os, hb.tape, hb.output, hb.size, fun k hk _ => hb.block k hk⟩ (by cases hv : v.ownBlock with | none => exact .inl rfl | some g => right; intro h; cases h)

/-- rows of other types than e stay as they are -/
def Keeps (e : TypeId) (w w' : World) : Prop := ∀ (B : Nat) (e2 : TypeId) (s n : Nat) (v : Value) (xs : List Value), e2 ≠ e → w.ownsRow B e2 s v n xs → w'.ownsRow B e2 s v n xs
theorem Keeps.row {e : TypeId} {w w' : World} (h : Keeps e w w') {B : Nat} {e2 : TypeId} {s n : Nat} {v : Value} {xs : List Value} (ho : w.ownsRow B e2 s v n xs) (he : e2 ≠ e) : w'.ownsRow B e2 s v n xs := h B e2 s n v xs he ho

theorem append_new {P : Program} {w : World} {ops : Array Oper} {rest : List Oper} {o : Oper} {a : Act} {Q : Exit → Act → World → Prop} (hgd : o.guard = none) (s x : Operand) (t : TypeId)
    (ho : o.op = .call { callee := .builtin .append, args := #[s, x], argTypes := #[t, t] })
    (base : Nat) (e : TypeId) (i : TypeInfo) (z : Value) (size bytes : Nat) (ht : P.underlying t = some (.slice e)) (hi : P.info? e = some i) (hz : i.zero = some z)
    (hsize : i.size = size) (hby : i.bytes = bytes) (hzs : z.cells.size = size) (hsz : 0 < size) (hbs : bytes ≤ 4096)
    (v : Value) (n : Nat) (xs : List Value) (hs : a.eval s = v) (hown : w.ownsRow base e size v n xs)
    (us : List Value) (hx : a.eval x = .slice (some ⟨w.heap.size, 0, none⟩) 1 1) (hl : us.length = size) (h1 : us.all (fun u => u.oneCell') = true)
    (hn : n ≤ 4294967296) (hbase : base ≤ w.heap.size)
    (h : ∀ v' w', w'.ownsRow base e size v' (n + 1) (xs ++ us) → Below base w w' → Keeps e w w' → (v' = .slice none 0 0 → False) → wpList P ops Q rest (a.put o.dst v') w') : wpList P ops Q (o :: rest) a (w.alloc (.cells us.toArray e)) := by
  refine wpList_append_own _ hgd s x t ho base e i z size bytes ht hi hz hsize hby hzs hsz v n xs hs (hown.alloc _) ⟨w.heap.size, 0, none⟩ 1 1 us hx (by rw [hl, Nat.one_mul]) ?_ (by simpa using h1) (by unfold maxLen; omega) ?_ (by simp; omega) ?_
  · intro j u hj
    rw [addr_add _ j w.heap.size 0 rfl, World.cell?_alloc_at _ _ _ _ rfl]
    simpa using hj
  · have : (n + 1) * bytes ≤ 4294967297 * 4096 := Nat.mul_le_mul (by omega) hbs
    omega
  · intro v' w' h2 h3 h4
    refine h v' w' h2 (((Below.refl _ _).alloc hbase _).grown h3 (by simp; omega) (fun k hk => (hown.lt k hk).1)) ?_ ?_
    · intro B e2 s2 n2 v2 xs2 he2 ho2
      exact (ho2.alloc _).kept h3 (owns_apart ho2 hown he2)
    · intro hv
      have := (h4.1 hv).2
      omega

/-- the same, as one step of a region that draws its order -/
theorem step_append_new {P : Program} {w : World} {ops : Array Oper} {o : Oper} {a : Act} {K : Act → World → Prop} {Q : Exit → Act → World → Prop} {E : Prop} (hgd : o.guard = none) (s x : Operand) (t : TypeId)
    (ho : o.op = .call { callee := .builtin .append, args := #[s, x], argTypes := #[t, t] })
    (base : Nat) (e : TypeId) (i : TypeInfo) (z : Value) (size bytes : Nat) (ht : P.underlying t = some (.slice e)) (hi : P.info? e = some i) (hz : i.zero = some z)
    (hsize : i.size = size) (hby : i.bytes = bytes) (hzs : z.cells.size = size) (hsz : 0 < size) (hbs : bytes ≤ 4096)
    (v : Value) (n : Nat) (xs : List Value) (hs : a.eval s = v) (hown : w.ownsRow base e size v n xs)
    (us : List Value) (hx : a.eval x = .slice (some ⟨w.heap.size, 0, none⟩) 1 1) (hl : us.length = size) (h1 : us.all (fun u => u.oneCell') = true)
    (hn : n ≤ 4294967296) (hbase : base ≤ w.heap.size)
    (h : ∀ v' w', w'.ownsRow base e size v' (n + 1) (xs ++ us) → Below base w w' → Keeps e w w' → (v' = .slice none 0 0 → False) → K (a.put o.dst v') w') :
    if Region.wanted o (yielded ops a.tmps) = true then Oper.wp P o a (w.alloc (.cells us.toArray e)) K Q else E := by
  have hw : Region.wanted o (yielded ops a.tmps) = true := by simp [Region.wanted, hgd]
  rw [if_pos hw]
  refine wp_append_own _ s x t ho base e i z size bytes ht hi hz hsize hby hzs hsz v n xs hs (hown.alloc _) ⟨w.heap.size, 0, none⟩ 1 1 us hx (by rw [hl, Nat.one_mul]) ?_ (by simpa using h1) (by unfold maxLen; omega) ?_ (by simp; omega) ?_
  · intro j u hj
    rw [addr_add _ j w.heap.size 0 rfl, World.cell?_alloc_at _ _ _ _ rfl]
    simpa using hj
  · have : (n + 1) * bytes ≤ 4294967297 * 4096 := Nat.mul_le_mul (by omega) hbs
    omega
  · intro v' w' h2 h3 h4
    refine h v' w' h2 (((Below.refl _ _).alloc hbase _).grown h3 (by simp; omega) (fun k hk => (hown.lt k hk).1)) ?_ ?_
    · intro B e2 s2 n2 v2 xs2 he2 ho2
      exact (ho2.alloc _).kept h3 (owns_apart ho2 hown he2)
    · intro hv
      have := (h4.1 hv).2
      omega
end
section
set_option maxRecDepth 100000
open Go.ChangeShapes Go.WideShapes Go.ChangeAt Go.RowKit

theorem append_fresh {P : Program} {w : World} {ops : Array Oper} {rest : List Oper} {o : Oper} {a : Act} {Q : Exit → Act → World → Prop} (hgd : o.guard = none) (s x : Operand) (t : TypeId)
    (ho : o.op = .call { callee := .builtin .append, args := #[s, x], argTypes := #[t, t] })
    (e : TypeId) (i : TypeInfo) (z : Value) (bytes : Nat) (ht : P.underlying t = some (.slice e)) (hi : P.info? e = some i) (hz : i.zero = some z)
    (hsize : i.size = 1) (hby : i.bytes = bytes) (hzs : z.cells.size = 1) (hbs : bytes ≤ 4096)
    (g0 : Nat) (hg0 : g0 = w.heap.size) (hs : a.eval s = .slice (some ⟨g0, 0, none⟩) 0 0) (ao : Option Addr) (b off cap n : Nat) (us : List Value) (hx : a.eval x = .slice ao n cap) (hn : us.length = n)
    (ha : 0 < n → ao = some ⟨b, off, none⟩) (hc : ∀ (j : Nat) (u : Value), us[j]? = some u → w.cell? ⟨b, off + j, none⟩ = some u) (hcap : ao = none → cap = 0) (h1 : us.all (fun u => u.oneCell') = true) (hle : n ≤ 4294967296)
    (h : ∀ g cap' cur w', w'.heap[g]? = some (.cells cur e (0, 0)) → (∀ (j : Nat) (u : Value), us[j]? = some u → cur[j]? = some u) → w.heap.size ≤ g → Below w.heap.size w w' →
      wpList P ops Q rest (a.put o.dst (.slice (some ⟨g, 0, none⟩) n cap')) w') : wpList P ops Q (o :: rest) a (w.alloc (.cells #[] e)) := by
  subst hg0
  have hmade : (w.alloc (.cells #[] e)).ownsRow w.heap.size e 1 (.slice (some ⟨w.heap.size, 0, none⟩) 0 0) 0 [] :=
    World.ownsRow_made (base := w.heap.size) (e := e) (size := 1) w #[] 0 (Nat.le_refl _) (by unfold maxLen; omega) rfl
  cases ao with
  | none =>
    have hn0 : n = 0 := by
      cases n with
      | zero => rfl
      | succ n => exact absurd (ha (by omega)) (by simp)
    subst hn0
    obtain rfl : cap = 0 := hcap rfl
    refine wpList_append_own_none hgd s x t ho w.heap.size e i 1 ht hi _ 0 [] hs hmade hx ?_
    exact h w.heap.size 0 #[] _ (heap_alloc_new w _) (fun j u hu => by rw [List.eq_nil_of_length_eq_zero hn] at hu; simp at hu) (Nat.le_refl _) ((Below.refl _ _).alloc (Nat.le_refl _) _)
  | some ad =>
    refine wpList_append_own _ hgd s x t ho w.heap.size e i z 1 bytes ht hi hz hsize hby hzs (by decide) _ 0 [] hs hmade ad n cap us hx (by rw [hn, Nat.mul_one]) ?_ (by simpa using h1) (by unfold maxLen; omega) ?_ (by simp) ?_
    · intro j u hj
      have hl : 0 < n := by have := (List.getElem?_eq_some_iff.1 hj).1; omega
      obtain rfl := Option.some.inj (ha hl)
      have hcj := hc j u hj
      have hlt := World.block_lt_of_cell? w ⟨b, off + j, none⟩ hcj
      rw [addr_add _ j b off rfl, World.cell?_alloc_past _ _ _ hlt]
      exact hcj
    · have : (0 + n) * bytes ≤ 4294967296 * 4096 := Nat.mul_le_mul (by omega) hbs
      omega
    · intro v' w' hown hg hnn
      have hvn : v' ≠ .slice none 0 0 := fun h => by
        have h2 := (hnn.1 h).1
        cases h2
      have hbl : Below w.heap.size w w' := ((Below.refl _ _).alloc (Nat.le_refl _) _).grown hg (by simp) (fun k hk => by simp [Value.ownBlock] at hk; omega)
      obtain ⟨_, ⟨rfl, _⟩ | ⟨g, cap', cur, rfl, hg1, hb, _, _, _, h4⟩⟩ := hown
      · exact absurd rfl hvn
      · have := h g cap' cur w' hb (fun j u hj => ?_) hg1 hbl
        · simpa using this
        · rw [List.nil_append] at h4
          rw [← h4, List.getElem?_take] at hj
          split at hj
          · simpa using hj
          · cases hj
end
section
set_option maxRecDepth 100000
open Go.ChangeShapes Go.WideShapes Go.ChangeAt Go.RowKit
section
variable {H : Type} {enc : TypeId × Value → H} {P : Program} {w : World} {base : Nat} {spare : Nat → Bool} {held : Bool}

theorem nil_no_room {t e : TypeId} {fuel len cap : Nat} {x : DataW H × List MemPlace} (ht : P.underlying t = some (.slice e)) (h : DataW.trod enc P w base spare held fuel t [.slice none len cap] = some x) : cap = 0 := by
  rcases DataW.trod_slice ht h with ⟨h1, _⟩ | ⟨a, l, c, _, _, _, _, h1, _⟩
  · simp at h1; exact h1.2
  · simp at h1

theorem struct4_nums {t : TypeId} {fs : Array Field} {f0 f1 f2 f3 : Field} {q0 q1 q2 q3 : IntKind} {r : Reach} {b0 : Nat} {v : Value} {d : DataW H} {p : List MemPlace} (ht : P.underlying t = some (.struct fs)) (hct : P.cellsOf t = 4)
    (h0 : fs[0]? = some f0) (o0 : f0.offset = 0) (c0 : P.cellsOf f0.type = 1) (k0 : P.underlying f0.type = some (.int q0))
    (h1 : fs[1]? = some f1) (o1 : f1.offset = 1) (c1 : P.cellsOf f1.type = 1) (k1 : P.underlying f1.type = some (.int q1))
    (h2 : fs[2]? = some f2) (o2 : f2.offset = 2) (c2 : P.cellsOf f2.type = 1) (k2 : P.underlying f2.type = some (.int q2))
    (h3 : fs[3]? = some f3) (o3 : f3.offset = 3) (c3 : P.cellsOf f3.type = 1) (k3 : P.underlying f3.type = some (.int q3))
    (hv : Value.okWide P w r b0 t v) (h : DataW.Trod enc P w base spare held t v d p) :
    ∃ z0 z1 z2 z3 : Int, v = .agg #[.int q0 z0, .int q1 z1, .int q2 z2, .int q3 z3] ∧ (Lit.int q0 z0).wf = true ∧ (Lit.int q1 z1).wf = true ∧ (Lit.int q2 z2).wf = true ∧ (Lit.int q3 z3).wf = true := by
  obtain ⟨cs, rfl, hcs⟩ := okWide_struct ht hv
  obtain ⟨fuel, h⟩ := h
  obtain ⟨z0, e0, w0⟩ := field_cell ht h h0 o0 c0 k0
  obtain ⟨z1, e1, w1⟩ := field_cell ht h h1 o1 c1 k1
  obtain ⟨z2, e2, w2⟩ := field_cell ht h h2 o2 c2 k2
  obtain ⟨z3, e3, w3⟩ := field_cell ht h h3 o3 c3 k3
  obtain ⟨l⟩ := cs
  rw [hct] at hcs
  match l, hcs with
  | [x0, x1, x2, x3], _ =>
    simp [Value.cells] at e0 e1 e2 e3
    subst e0; subst e1; subst e2; subst e3
    exact ⟨z0, z1, z2, z3, rfl, w0, w1, w2, w3⟩
end

/-- words, as natural numbers -/
theorem nats_of {l : List Int} (h : ∀ z ∈ l, 0 ≤ z ∧ z ≤ 18446744073709551615) : ∃ k : List Nat, l = k.map (fun x : Nat => (x : Int)) ∧ ∀ x ∈ k, x < 18446744073709551616 := by
  refine ⟨l.map Int.toNat, ?_, ?_⟩
  · rw [List.map_map]
    conv => lhs; rw [← List.map_id l]
    apply List.map_congr_left
    intro z hz
    have := h z hz
    simp; omega
  · intro x hx
    obtain ⟨z, hz, rfl⟩ := List.mem_map.1 hx
    have := h z hz
    omega
end
section
set_option maxRecDepth 100000
open Go.RowKit
section
variable {P : Program} {Q : Exit → Act → World → Prop} {md : Region.Mode}
/-- behind the first operations: the tail -/
def tailQ (P : Program) (ops : Array Oper) (Q : Exit → Act → World → Prop) (tail : List Oper) : Exit → Act → World → Prop
  | .normal, a, w => wpList P ops Q tail a w
  | .ret, a, w => Q .ret a w
  | .panic c, a, w => Q (.panic c) a w
  | .outgrown, a, w => Q .outgrown a w
  | e, a, w => Q e a w
theorem tail_upon {o : Oper} {ops : Array Oper} {tail : List Oper} {a : Act} {K : Act → World → Prop} {r : Result Next} (h : o.upon P a K (tailQ P ops Q tail) r) : o.upon P a K Q r := by
  cases r with
  | ok n w' =>
    cases n with
    | value v => exact h
    | skip => exact h
    | defer d => exact h
    | enter f args => exact Calls.mono h (fun e w'' he => by cases e <;> exact he)
    | row row args => exact h
    | _ => exact h
  | halt x w' => cases x <;> exact h
theorem tail_op {o : Oper} {ops : Array Oper} {tail : List Oper} {a : Act} {w : World} {K : Act → World → Prop} (h : o.wp P a w K (tailQ P ops Q tail)) : o.wp P a w K Q := tail_upon h
theorem wanted_none {o : Oper} (h : o.guard = none) (l : Nat → Option Bool) : Region.wanted o l = true := by simp [Region.wanted, h]
/-- each operation waits for ones ahead of it only; from n on for all ahead of it; none is guarded -/
def tailB (md : Region.Mode) (l : List Oper) (n : Nat) : Bool :=
  l.all (fun o => o.guard.isNone) && decide (n ≤ l.length) &&
  (List.range l.length).all (fun j => match l[j]? with
    | none => true
    | some o => o.after.all (fun e => !Region.binds md e || decide (e.on < j)) && (decide (j < n) || (List.range j).all (fun i => decide (n ≤ i ∧ i + 1 < j) || o.after.any (fun e => Region.binds md e && e.on == i))))
structure TailOk (md : Region.Mode) (l : List Oper) (n : Nat) : Prop where
  guard : ∀ (j : Nat) (o : Oper), l[j]? = some o → o.guard = none
  le : n ≤ l.length
  back : ∀ (j : Nat) (o : Oper), l[j]? = some o → ∀ e ∈ o.after, Region.binds md e = true → e.on < j
  wait : ∀ (j : Nat) (o : Oper), l[j]? = some o → n ≤ j → ∀ i, i < j → (i < n ∨ i + 1 = j) → ∃ e ∈ o.after, Region.binds md e = true ∧ e.on = i
theorem tailB_ok {l : List Oper} {n : Nat} (h : tailB md l n = true) : TailOk md l n := by
  unfold tailB at h
  rw [Bool.and_eq_true, Bool.and_eq_true] at h
  obtain ⟨⟨h1, h2⟩, h3⟩ := h
  rw [List.all_eq_true] at h1 h3
  have key : ∀ (j : Nat) (o : Oper), l[j]? = some o → (o.after.all (fun e => !Region.binds md e || decide (e.on < j)) && (decide (j < n) || (List.range j).all (fun i => decide (n ≤ i ∧ i + 1 < j) || o.after.any (fun e => Region.binds md e && e.on == i)))) = true := fun j o ho => by
    have := h3 j (List.mem_range.2 (List.getElem?_eq_some_iff.1 ho).1)
    rw [ho] at this; exact this
  refine ⟨fun j o ho => ?_, of_decide_eq_true h2, fun j o ho e he hb => ?_, fun j o ho hj i hi hor => ?_⟩
  · have := h1 o (List.mem_of_getElem? ho)
    exact Option.isNone_iff_eq_none.1 this
  · have := key j o ho
    rw [Bool.and_eq_true] at this
    have h4 := (Array.all_eq_true_iff_forall_mem.1 this.1) e he
    rw [hb] at h4
    simpa using h4
  · have := key j o ho
    rw [Bool.and_eq_true, Bool.or_eq_true] at this
    rcases this.2 with h4 | h4
    · exact absurd (of_decide_eq_true h4) (by omega)
    · rw [List.all_eq_true] at h4
      have h5 := h4 i (List.mem_range.2 hi)
      rw [decide_eq_false (by omega), Bool.false_or] at h5
      rw [← Array.any_toList, List.any_eq_true] at h5
      obtain ⟨e, he, h6⟩ := h5
      rw [Bool.and_eq_true] at h6
      exact ⟨e, Array.mem_toList_iff.1 he, h6.1, by simpa using h6.2⟩
/-- what is listed in both -/
structure TailRel (n N : Nat) (listed L : Array Bool) : Prop where
  s1 : listed.size = n
  s2 : L.size = N
  low : ∀ j, j < n → L[j]? = listed[j]?
  high : ∀ j, n ≤ j → j < N → L[j]? = some false
theorem getD_some {L : Array Bool} {j : Nat} {b d : Bool} (h : L[j]? = some b) : L.getD j d = b := by
  rw [Array.getD_eq_getD_getElem?, h]; rfl
theorem tail_run {l : List Oper} {n : Nat} (hT : TailOk md l n) : ∀ (m k : Nat), l.length - k = m → n ≤ k → k ≤ l.length → ∀ (fuel : Nat), m ≤ fuel → ∀ (L : Array Bool) (a : Act) (w : World), L.size = l.length → (∀ j, j < k → L[j]? = some true) → (∀ j, k ≤ j → j < l.length → L[j]? = some false) →
    wpList P l.toArray Q (l.drop k) a w → wpAny P md l.toArray Q fuel L a w := by
  intro m
  induction m with
  | zero =>
    intro k hm hnk hkl fuel hf L a w hs h1 h2 h
    have hk : k = l.length := by omega
    have hr : Region.ready md l.toArray L = [] := by
      rw [List.eq_nil_iff_forall_not_mem]
      intro j hj
      obtain ⟨g1, o, g2, _⟩ := mem_ready.1 hj
      have hjl : j < l.length := by
        have := (Array.getElem?_eq_some_iff.1 g2).1; simpa using this
      rw [getD_some (h1 j (by omega))] at g1; cases g1
    rw [hk, List.drop_length] at h
    have hQ : Q .normal a w := h
    cases fuel with
    | zero => exact ⟨hr, hQ⟩
    | succ f => exact ⟨fun _ => hQ, fun i hi => (by rw [hr] at hi; cases hi)⟩
  | succ m ih =>
    intro k hm hnk hkl fuel hf L a w hs h1 h2 h
    obtain ⟨f, rfl⟩ : ∃ f, fuel = f + 1 := ⟨fuel - 1, by omega⟩
    have hkl' : k < l.length := by omega
    obtain ⟨o, ho⟩ : ∃ o, l[k]? = some o := ⟨l[k], List.getElem?_eq_getElem hkl'⟩
    have hoa : l.toArray[k]? = some o := by simpa using ho
    have hmem : k ∈ Region.ready md l.toArray L := mem_ready.2 ⟨getD_some (h2 k (Nat.le_refl _) hkl'), o, hoa, fun e he hb => getD_some (h1 _ (hT.back k o ho e he hb))⟩
    refine ⟨fun hr => (by rw [hr] at hmem; cases hmem), fun i hi => ?_⟩
    obtain ⟨g1, oi, g2, g3⟩ := mem_ready.1 hi
    have hil : i < l.length := by have := (Array.getElem?_eq_some_iff.1 g2).1; simpa using this
    have hik : i = k := by
      rcases Nat.lt_trichotomy i k with hlt | he | hgt
      · rw [getD_some (h1 i hlt)] at g1; cases g1
      · exact he
      · obtain ⟨e, he, hb, hon⟩ := hT.wait i oi (by simpa using g2) (by omega) (i - 1) (by omega) (by omega)
        have := g3 e he hb
        rw [hon, getD_some (h2 (i - 1) (by omega) (by omega))] at this; cases this
    subst hik
    rw [List.drop_eq_getElem_cons hkl', (List.getElem?_eq_some_iff.1 ho).2] at h
    unfold wpOp
    simp only [hoa]
    have hw := wanted_none (hT.guard i o ho) (yielded l.toArray a.tmps)
    unfold wpList at h
    rw [hw] at h ⊢
    simp only [if_true] at h ⊢
    refine h.imp (fun h' => ?_) id
    refine Oper.wp_mono (fun a' w' h'' => ?_) h'
    refine ih (i + 1) (by omega) (by omega) (by omega) f (by omega) _ a' w' (by simp [hs]) (fun j hj => ?_) (fun j hj hjl => ?_) h''
    · rw [Array.getElem?_setIfInBounds]
      split
      · next hij => subst hij; rw [if_pos (by omega)]
      · exact h1 j (by omega)
    · rw [Array.getElem?_setIfInBounds, if_neg (by omega)]
      exact h2 j (by omega) hjl
theorem tail_all {S : World → Prop} {l : List Oper} {n : Nat} (hT : TailOk md l n) : ∀ (fuel : Nat) (listed L : Array Bool) (a : Act) (w : World), TailRel n l.length listed L →
    wpAnyH P md (l.take n).toArray (tailQ P l.toArray Q (l.drop n)) S fuel listed a w → wpAny P md l.toArray Q (fuel + (l.length - n)) L a w := by
  have hle := hT.le
  have hlow : ∀ (j : Nat) (o : Oper), l[j]? = some o → j < n → ∀ (listed L : Array Bool), TailRel n l.length listed L → (j ∈ Region.ready md l.toArray L ↔ j ∈ Region.ready md (l.take n).toArray listed) := fun j o ho hj listed L hR => by
    have e1 : L.getD j true = listed.getD j true := by rw [Array.getD_eq_getD_getElem?, Array.getD_eq_getD_getElem?, hR.low j hj]
    have e2 : l.toArray[j]? = some o := by simpa using ho
    have e3 : (l.take n).toArray[j]? = some o := by
      have : (l.take n)[j]? = some o := by rw [List.getElem?_take_of_lt hj]; exact ho
      simpa using this
    rw [mem_ready, mem_ready, e1, e2, e3]
    refine and_congr Iff.rfl ⟨fun ⟨o', h1, h2⟩ => ⟨o', h1, fun e he hb => ?_⟩, fun ⟨o', h1, h2⟩ => ⟨o', h1, fun e he hb => ?_⟩⟩
    · cases h1
      have h3 := hT.back j o ho e he hb
      have h4 := h2 e he hb
      rw [Array.getD_eq_getD_getElem?, hR.low _ (by omega)] at h4
      rw [Array.getD_eq_getD_getElem?]; exact h4
    · cases h1
      have h3 := hT.back j o ho e he hb
      have h4 := h2 e he hb
      rw [Array.getD_eq_getD_getElem?] at h4
      rw [Array.getD_eq_getD_getElem?, hR.low _ (by omega)]; exact h4
  -- where nothing may come up all have come up
  have hall : ∀ (listed L : Array Bool), TailRel n l.length listed L → Region.ready md (l.take n).toArray listed = [] → ∀ j, j < n → L[j]? = some true := fun listed L hR hr j => by
    induction j using Nat.strongRecOn with
    | ind j ih =>
      intro hj
      rw [hR.low j hj]
      obtain ⟨b, hb⟩ : ∃ b, listed[j]? = some b := ⟨listed[j]'(by rw [hR.s1]; exact hj), Array.getElem?_eq_getElem _⟩
      cases b with
      | true => exact hb
      | false =>
        exfalso
        obtain ⟨o, ho⟩ : ∃ o, l[j]? = some o := ⟨l[j]'(by omega), List.getElem?_eq_getElem _⟩
        have : j ∈ Region.ready md (l.take n).toArray listed := (hlow j o ho hj listed L hR).1 (mem_ready.2 ⟨getD_some (by rw [hR.low j hj]; exact hb), o, by simpa using ho, fun e he hbi => by
          have h3 := hT.back j o ho e he hbi
          exact getD_some (ih e.on h3 (by omega))⟩)
        rw [hr] at this; cases this
  have hend : ∀ (fuel : Nat) (listed L : Array Bool) (a : Act) (w : World), TailRel n l.length listed L → Region.ready md (l.take n).toArray listed = [] → tailQ P l.toArray Q (l.drop n) .normal a w → wpAny P md l.toArray Q (fuel + (l.length - n)) L a w := fun fuel listed L a w hR hr hQ =>
    tail_run hT (l.length - n) n rfl (Nat.le_refl _) hle _ (by omega) L a w hR.s2 (hall listed L hR hr) hR.high hQ
  intro fuel
  induction fuel with
  | zero => intro listed L a w hR h; exact hend 0 listed L a w hR h.1 h.2
  | succ f ih =>
    intro listed L a w hR h
    by_cases hr : Region.ready md (l.take n).toArray listed = []
    · exact hend (f + 1) listed L a w hR hr (h.1 hr)
    · obtain ⟨j0, hj0⟩ := List.exists_mem_of_ne_nil _ hr
      have hj0n : j0 < n := by
        obtain ⟨_, o, g2, _⟩ := mem_ready.1 hj0
        have := (Array.getElem?_eq_some_iff.1 g2).1
        simp at this; omega
      have hun : L[j0]? = some false := by
        obtain ⟨g1, _⟩ := mem_ready.1 hj0
        rw [hR.low j0 hj0n]
        obtain ⟨b, hb⟩ : ∃ b, listed[j0]? = some b := ⟨listed[j0]'(by rw [hR.s1]; exact hj0n), Array.getElem?_eq_getElem _⟩
        rw [getD_some hb] at g1; subst g1; exact hb
      rw [show f + 1 + (l.length - n) = (f + (l.length - n)) + 1 by omega]
      refine ⟨fun hr' => ?_, fun i hi => ?_⟩
      · obtain ⟨o, ho⟩ : ∃ o, l[j0]? = some o := ⟨l[j0]'(by omega), List.getElem?_eq_getElem _⟩
        have := (hlow j0 o ho hj0n listed L hR).2 hj0
        rw [hr'] at this; cases this
      · obtain ⟨g1, oi, g2, g3⟩ := mem_ready.1 hi
        have hil : i < l.length := by have := (Array.getElem?_eq_some_iff.1 g2).1; simpa using this
        have ho : l[i]? = some oi := by simpa using g2
        have hin : i < n := by
          rcases Nat.lt_or_ge i n with h' | h'
          · exact h'
          · obtain ⟨e, he, hb, hon⟩ := hT.wait i oi ho h' j0 (by omega) (by omega)
            have := g3 e he hb
            rw [hon, getD_some hun] at this; cases this
        have hi2 := (hlow i oi ho hin listed L hR).1 hi
        have hw2 := h.2 i hi2
        have e3 : (l.take n).toArray[i]? = some oi := by
          have : (l.take n)[i]? = some oi := by rw [List.getElem?_take_of_lt hin]; exact ho
          simpa using this
        unfold wpOp at hw2 ⊢
        simp only [e3] at hw2
        simp only [g2]
        have hg := hT.guard i oi ho
        rw [wanted_none hg] at hw2 ⊢
        simp only [if_true] at hw2 ⊢
        rcases hw2 with h5 | ⟨h5, a0, w0, h6⟩
        · refine .inl (tail_op (Oper.wp_mono (fun a' w' h' => ?_) h5))
          refine ih _ _ a' w' ⟨by simp [hR.s1], by simp [hR.s2], fun j hj => ?_, fun j hj hjl => ?_⟩ h'.2
          · rw [Array.getElem?_setIfInBounds, Array.getElem?_setIfInBounds, hR.low j hj, hR.s1, hR.s2]
            by_cases hij : i = j
            · rw [if_pos hij, if_pos hij, if_pos hil, if_pos hin]
            · rw [if_neg hij, if_neg hij]
          · rw [Array.getElem?_setIfInBounds, if_neg (by omega)]; exact hR.high j hj hjl
        · exact .inr ⟨h5, a0, w0, h6⟩
/-- the beginning: the first n operations, held by S; then the tail -/
theorem wp_region_tail {S : World → Prop} {id : Nat} {l : List Oper} {a : Act} {w : World} (n : Nat) (hm : P.follows .mixedOrders = true) (hB : tailB .any l n = true) (hS : S w.drew)
    (h : S w.drew → wpAnyH P .any (l.take n).toArray (tailQ P l.toArray Q (l.drop n)) S n (Array.replicate n false) a w.drew) : (Code.region id l.toArray true).wp P Q a w := by
  have hT := tailB_ok hB
  have hle := hT.le
  refine wp_region_any hm ?_
  have h2 := tail_all hT n (Array.replicate n false) (Array.replicate l.length false) a w.drew ⟨by simp, by simp, fun j hj => by rw [Array.getElem?_replicate, Array.getElem?_replicate, if_pos hj, if_pos (by omega)], fun j _ hj => by rw [Array.getElem?_replicate, if_pos hj]⟩ (h hS)
  rw [show n + (l.length - n) = l.length by omega] at h2
  have e : l.toArray.size = l.length := by simp
  rw [e]
  exact h2
end
end
section
set_option maxRecDepth 100000
theorem info22 : (Tryz.prog.info? 55).map (fun i => (i.zero, i.size, i.bytes)) = some (some (.int .u64 0), 1, 8) := by kernel_rfl
end
section
set_option maxRecDepth 100000
open Go.ChangeShapes Go.WideShapes Go.ChangeAt Go.RowKit
/-- why sizes may not be laid behind e (0: they may) -/
def wrongGo : List Int → Int → Nat
  | [], _ => 0
  | s :: l, e => if s < 0 then 1 else if 65536 - e < s then 3 else wrongGo l (e + s)
def sumZ : List Int → Int
  | [] => 0
  | s :: l => s + sumZ l
/-- where a region begins -/
def beg (l : List Int) (i : Nat) : Int := sumZ (l.take i)
theorem beg_zero (l : List Int) : beg l 0 = 0 := rfl
theorem sumZ_append (a b : List Int) : sumZ (a ++ b) = sumZ a + sumZ b := by
  induction a with
  | nil => simp [sumZ]
  | cons x a ih => simp [sumZ, ih, Int.add_assoc]
theorem beg_succ {l : List Int} {i : Nat} {s : Int} (h : l[i]? = some s) : beg l (i + 1) = beg l i + s := by
  unfold beg; rw [take_snoc h, sumZ_append]; simp [sumZ]
theorem wrongGo_arg {s e : Int} {l : List Int} (h : s < 0) : wrongGo (s :: l) e = 1 := by rw [wrongGo, if_pos h]
theorem wrongGo_long {s e : Int} {l : List Int} (h : 0 ≤ s) (h2 : 65536 - e < s) : wrongGo (s :: l) e = 3 := by rw [wrongGo, if_neg (by omega), if_pos h2]
theorem wrongGo_next {s e : Int} {l : List Int} (h : 0 ≤ s) (h2 : s ≤ 65536 - e) : wrongGo (s :: l) e = wrongGo l (e + s) := by rw [wrongGo, if_neg (by omega), if_neg (by omega)]
/-- of sizes that may be laid, each one fits -/
theorem laid_each (l : List Int) : ∀ e : Int, 0 ≤ e → e ≤ 65536 → wrongGo l e = 0 → ∀ i : Nat, i ≤ l.length → 0 ≤ beg l i ∧ e + beg l i ≤ 65536 ∧ ∀ s, l[i]? = some s → 0 ≤ s ∧ e + beg l i + s ≤ 65536 := by
  induction l with
  | nil => intro e h0 h1 _ i hi; refine ⟨by simp [beg, sumZ], by simp [beg, sumZ]; omega, fun s h => by simp at h⟩
  | cons x l ih =>
    intro e h0 h1 h i hi
    by_cases hx : x < 0
    · rw [wrongGo_arg hx] at h; cases h
    · by_cases hx2 : 65536 - e < x
      · rw [wrongGo_long (by omega) hx2] at h; cases h
      · rw [wrongGo_next (by omega) (by omega)] at h
        cases i with
        | zero =>
          refine ⟨by simp [beg, sumZ], by simp [beg, sumZ]; omega, fun s hs => ?_⟩
          simp at hs; subst hs
          simp [beg, sumZ]; omega
        | succ i =>
          obtain ⟨a, b, c⟩ := ih (e + x) (by omega) (by omega) h i (by simpa using hi)
          have eb : beg (x :: l) (i + 1) = x + beg l i := rfl
          rw [eb]
          refine ⟨by omega, by omega, fun s hs => ?_⟩
          have := c s (by simpa using hs)
          omega
theorem laid_at {l : List Int} (h : wrongGo l 0 = 0) {i : Nat} (hi : i ≤ l.length) : 0 ≤ beg l i ∧ beg l i ≤ 65536 := by
  have := laid_each l 0 (by omega) (by omega) h i hi; omega
theorem laid_size {l : List Int} (h : wrongGo l 0 = 0) {i : Nat} {s : Int} (hi : l[i]? = some s) : 0 ≤ s ∧ beg l i + s ≤ 65536 := by
  have hl := (List.getElem?_eq_some_iff.1 hi).1
  have := (laid_each l 0 (by omega) (by omega) h i (by omega)).2.2 s hi; omega
theorem beg_mono {l : List Int} (h : wrongGo l 0 = 0) {i k : Nat} (hik : i ≤ k) (hk : k ≤ l.length) : beg l i ≤ beg l k := by
  induction k with
  | zero => have : i = 0 := by omega
            subst this; omega
  | succ k ih =>
    by_cases he : i = k + 1
    · subst he; omega
    · have hx : l[k]? = some l[k] := List.getElem?_eq_getElem (by omega)
      have h1 := ih (by omega) (by omega)
      have h2 := beg_succ hx
      have h3 := laid_size h hx
      omega
/-- the end of a region is not behind the beginning of a later one -/
theorem beg_next {l : List Int} (h : wrongGo l 0 = 0) {i k : Nat} {s : Int} (hi : l[i]? = some s) (hik : i < k) (hk : k ≤ l.length) : beg l i + s ≤ beg l k := by
  rw [← beg_succ hi]; exact beg_mono h hik hk
/-- NO ADDRESS IS IN TWO REGIONS -/
theorem one_region {l : List Int} (h : wrongGo l 0 = 0) {i k : Nat} {s t a : Int} (hi : l[i]? = some s) (hk : l[k]? = some t) (ha : beg l i ≤ a ∧ a < beg l i + s) (hb : beg l k ≤ a ∧ a < beg l k + t) : i = k := by
  have li := (List.getElem?_eq_some_iff.1 hi).1
  have lk := (List.getElem?_eq_some_iff.1 hk).1
  rcases Nat.lt_trichotomy i k with h1 | h1 | h1
  · have := beg_next h hi h1 (by omega); omega
  · exact h1
  · have := beg_next h hk h1 (by omega); omega
/-- the beginnings of the first j -/
def bgs (l : List Int) (j : Nat) : List Value := (List.range j).map fun i => Value.int .i64 (beg l i)
theorem bgs_succ (l : List Int) (j : Nat) : bgs l (j + 1) = bgs l j ++ [Value.int .i64 (beg l j)] := by
  unfold bgs; rw [List.range_succ, List.map_append]; rfl
theorem bgs_get (l : List Int) {j i : Nat} (h : i < j) : (bgs l j)[i]? = some (Value.int .i64 (beg l i)) := by
  unfold bgs; rw [List.getElem?_map, List.getElem?_range h]; rfl
theorem drop_cons {l : List Int} {j : Nat} {x : Int} (h : l[j]? = some x) : l.drop j = x :: l.drop (j + 1) := by
  have hl := (List.getElem?_eq_some_iff.1 h).1
  rw [List.drop_eq_getElem_cons hl]
  rw [List.getElem?_eq_getElem hl, Option.some.injEq] at h
  rw [h]
/-- numbers lie in a row -/
def ICells (w : World) (b o : Nat) (l : List Int) : Prop :=
  ∀ (i : Nat) (x : Int), l[i]? = some x → w.cell? ⟨b, o + i, none⟩ = some (.int .i64 x) ∧ (-9223372036854775808 ≤ x ∧ x ≤ 9223372036854775807)
theorem ICells.stays {w wr : World} {b o B : Nat} {l : List Int} (h : ICells w b o l) (hb : Below B w wr) (hB : 0 < l.length → b < B) : ICells wr b o l := by
  intro i x hx
  have hl : 0 < l.length := by have := (List.getElem?_eq_some_iff.1 hx).1; omega
  obtain ⟨h1, h3⟩ := h i x hx
  exact ⟨(hb.cell (p := ⟨b, _, none⟩) (hB hl)).trans h1, h3⟩
end
section
open Go.RowKit
set_option linter.unusedVariables false

/-- a world in which all below B is as it was -/
structure BW (B : Nat) (w : World) where
  v : World
  h : Below B w v
instance {B : Nat} {w : World} : Inhabited (BW B w) := ⟨⟨w, Below.refl _ _⟩⟩
theorem BW.cell {B : Nat} {w : World} (p : BW B w) {a : Addr} {v : Value} (ha : a.block < B) (h : w.cell? a = some v) : p.v.cell? a = some v := (p.h.cell ha).trans h
/-- a callee's contract, met in such a world -/
theorem low_call {P : Program} {f : FuncId} {args : Array Value} {B : Nat} {w : World} {p : BW B w} {v : Value} (h : Calls P f args p.v fun e w' => e = .returned v ∧ Below p.v.heap.size p.v w') (hB : B ≤ w.heap.size) :
    Calls P f args p.v fun e w'' => e = .returned v ∧ ∃ q : BW B w, w'' = q.v :=
  h.mono fun _ w' ⟨he, hb⟩ => ⟨he, ⟨w', p.h.trans (hb.mono (Nat.le_trans hB p.h.size))⟩, rfl⟩

theorem wp_region_low {P : Program} {id : Nat} {Q : Exit → Act → World → Prop} {a : Act} {B : Nat} {w : World} {l : List Oper} (hm : P.follows .mixedOrders = true) (hB : Region.lexB .any l.toArray = true)
    (h : wpQuiet P l.toArray (fun w' => ∃ p : BW B w, w' = p.v) (fun a' => ∀ w', (∃ p : BW B w, w' = p.v) → Q .normal a' w') l a) : (Code.region id l.toArray true).wp P Q a w :=
  wp_region_quiet (C := fun w' => ∃ p : BW B w, w' = p.v) hm hB ⟨⟨w.drewN 1, below_drewN (Below.refl _ _) 1⟩, rfl⟩ (by simpa using h)

section
variable {P : Program} {ops : Array Oper} {md : Region.Mode} {C : World → Prop} {n r : Nat}
theorem wpInR_of_quiet {o : Oper} {a : Act} {K : Act → Prop} {K' : Act → World → Prop} {Q' : Exit → Act → World → Prop} {w : World} (hd : ∀ c, o.op ≠ .defer c) (hw : C w) (h : ∀ a w', C w' → K a → K' a w') (hh : o.quiet P a C K) :
    o.wpIn (Fence.wide.inRound r) n P a w K' Q' := by
  obtain ⟨v, h1, h2⟩ := hh
  have h3 := h1 w hw
  unfold Oper.quietAt at h3
  unfold Oper.wpIn
  refine ⟨fun _ _ => trivial, ?_⟩
  rw [Oper.semAt_eq _ _ _ hd]
  generalize (execOp a.eval o).run P w = res at *
  cases res with
  | ok x w' =>
    cases x <;> simp only [Oper.quietUpon] at h3 <;> simp only [Oper.uponIn]
    case value u =>
      obtain ⟨e1, e2⟩ := h3
      rw [e1, e2]
      exact h _ _ hw h2
    case skip =>
      obtain ⟨e1, e2⟩ := h3
      rw [e1, ← e2]
      exact h _ _ hw h2
    case enter f args =>
      obtain ⟨e1, hc⟩ := h3
      rw [e1]
      refine ⟨fun h => absurd h (by simp [Fence.wide]), CallsIn.inRound r (callsIn_wide.2 (hc.mono fun e w'' ⟨he, hw''⟩ => by subst he; exact h _ _ hw'' h2))⟩
  | halt x w' => simp only [Oper.quietUpon] at h3

theorem wpOpInR_of_qOp {i : Nat} {a : Act} {K : Act → Prop} {K' : Act → World → Prop} {Q' : Exit → Act → World → Prop} {w : World} (hd : ∀ (i : Nat) (o : Oper), ops[i]? = some o → ∀ c, o.op ≠ .defer c) (hC : C w) (h : ∀ a w', C w' → K a → K' a w') (hh : qOp P ops C i K a) :
    wpOpIn (Fence.wide.inRound r) n P ops Q' i K' a w := by
  unfold qOp at hh
  unfold wpOpIn
  split
  · rename_i ho; simp only [ho] at hh; exact h _ _ hC hh
  · rename_i o ho
    simp only [ho] at hh
    split
    · rename_i hw; simp only [hw, if_true] at hh; exact wpInR_of_quiet (hd _ _ ho) hC h hh
    · rename_i hw; simp only [hw] at hh; exact ⟨fun _ _ => trivial, h _ _ hC hh⟩

theorem wpAnyInR_of_quiet {Q : Act → Prop} {Q' : Exit → Act → World → Prop} (hd : ∀ (i : Nat) (o : Oper), ops[i]? = some o → ∀ c, o.op ≠ .defer c) (hQ : ∀ a w, C w → Q a → Q' .normal a w) : ∀ (fuel : Nat) (listed : Array Bool) (a : Act) (w : World), C w →
    wpAnyQ P md ops C Q fuel listed a → wpAnyIn (Fence.wide.inRound r) n P md ops Q' fuel listed a w
  | 0, _, _, _, hw, h => ⟨h.1, hQ _ _ hw h.2⟩
  | fuel + 1, _, _, _, hw, h => ⟨fun h0 => hQ _ _ hw (h.1 h0), fun i hi => wpOpInR_of_qOp hd hw (fun a' w' hw' => wpAnyInR_of_quiet hd hQ fuel _ a' w' hw') (h.2 i hi)⟩
end

/-- no operation defers -/
def noDefer (l : List Oper) : Bool := l.all fun o => match o.op with | .defer _ => false | _ => true
theorem noDefer_spec {l : List Oper} (h : noDefer l = true) : ∀ (i : Nat) (o : Oper), l.toArray[i]? = some o → ∀ c, o.op ≠ .defer c := by
  intro i o ho c hc
  have := List.all_eq_true.1 h o (by rw [List.getElem?_toArray] at ho; exact List.mem_of_getElem? ho)
  rw [hc] at this
  cases this

theorem wpIn_region_low {P : Program} {id n r : Nat} {Q : Exit → Act → World → Prop} {a : Act} {B : Nat} {w : World} {l : List Oper} (hm : P.follows .mixedOrders = true) (hB : Region.lexB .any l.toArray = true) (hd : noDefer l = true)
    (h : wpQuiet P l.toArray (fun w' => ∃ p : BW B w, w' = p.v) (fun a' => ∀ w', (∃ p : BW B w, w' = p.v) → Q .normal a' w') l a) : (Code.region id l.toArray true).wpIn (Fence.wide.inRound r) n P Q a w := by
  simp only [Region.lexB, Bool.and_eq_true] at hB
  refine wpIn_region_any hm (wpAnyInR_of_quiet (C := fun w' => ∃ p : BW B w, w' = p.v) (Q := fun a' => ∀ w', (∃ p : BW B w, w' = p.v) → Q .normal a' w') (noDefer_spec hd) (fun _ w' hw' h => h w' hw') _ _ _ _ ⟨⟨w.drewN 1, below_drewN (Below.refl _ _) 1⟩, rfl⟩ ?_)
  have := wpAnyQ_lex (C := fun w' => ∃ p : BW B w, w' = p.v) (md := .any) hB.1 l 0 (Array.replicate l.length false) a (by simp) (by simpa using hB.2) h
  simpa using this
end
section
open Go.ChangeShapes Go.WideShapes Go.ChangeAt Go.RowKit
set_option linter.unusedVariables false
section
variable {H : Type} {enc : TypeId × Value → H} {P : Program} {w : World} {base : Nat} {spare : Nat → Bool} {held : Bool}
/-- a field out of a struct's row of cells -/
theorem field_part {fs : Array Field} {t : TypeId} {fuel : Nat} {cs : List Value} {x : DataW H × List MemPlace} (ht : P.underlying t = some (.struct fs)) (h : DataW.trod enc P w base spare held fuel t cs = some x)
    {i o c : Nat} {f : Field} (hf : fs[i]? = some f) (ho : f.offset = o) (hc : P.cellsOf f.type = c) : ∃ (n : Nat) (y : DataW H × List MemPlace), DataW.trod enc P w base spare held n f.type ((cs.drop o).take c) = some y := by
  obtain ⟨xs, n, _, _, _, hxl, hel⟩ := DataW.trod_struct ht h
  have e := hel i f hf
  have hi : i < fs.size := (Array.getElem?_eq_some_iff.1 hf).1
  have hx : xs[i]? = some (xs[i]'(by omega)) := List.getElem?_eq_getElem _
  rw [hx, hc, ho] at e
  exact ⟨_, _, e⟩
/-- a slice's one cell -/
theorem part_slice {t e : TypeId} {fuel : Nat} {cs : List Value} {x : DataW H × List MemPlace} (ht : P.underlying t = some (.slice e)) (h : DataW.trod enc P w base spare held fuel t cs = some x) : ∃ (a : Option Addr) (n c : Nat), cs = [.slice a n c] := by
  rcases Go.Deep.open_slice ht h with ⟨rfl, _⟩ | ⟨a, len, cap, m, n, D, Pl, rfl, _⟩
  · exact ⟨none, 0, 0, rfl⟩
  · exact ⟨some a, len, cap, rfl⟩
theorem take1_get {cs : List Value} {o : Nat} {v : Value} (h : (cs.drop o).take 1 = [v]) : cs[o]? = some v := by
  have h1 : ((cs.drop o).take 1)[0]? = some v := by rw [h]; rfl
  rw [List.getElem?_take] at h1
  simpa using h1
end
/-- an event of an argument, cell by cell -/
structure EvL where
  ca : Int
  iv : Int
  rs : Int
  st : Int
  er : Int
  vl : Nat
  la : Option Addr
  nl : Nat
  cl : Nat
  ka : Option Addr
  nk : Nat
  ck : Nat
def EvL.vs (x : EvL) : List Value := [.int .i64 x.ca, .int .i64 x.iv, .int .i64 x.rs, .int .i64 x.st, .int .i64 x.er, .int .u64 (x.vl : Int), .slice x.la x.nl x.cl, .slice x.ka x.nk x.ck]
def EvL.ok (x : EvL) : Prop := (-9223372036854775808 ≤ x.ca ∧ x.ca ≤ 9223372036854775807) ∧ (-9223372036854775808 ≤ x.iv ∧ x.iv ≤ 9223372036854775807) ∧ (-9223372036854775808 ≤ x.rs ∧ x.rs ≤ 9223372036854775807) ∧ (-9223372036854775808 ≤ x.st ∧ x.st ≤ 9223372036854775807) ∧ (-9223372036854775808 ≤ x.er ∧ x.er ≤ 9223372036854775807) ∧ x.vl < 18446744073709551616
/-- events lie in a row -/
def EvsAt (w : World) (b o : Nat) (l : List EvL) : Prop := ∀ (i : Nat) (x : EvL), l[i]? = some x → (∀ j, j < 8 → w.cell? ⟨b, o + i * 8 + j, none⟩ = x.vs[j]?) ∧ x.ok
theorem EvsAt.stays {w wr : World} {b o B : Nat} {l : List EvL} (h : EvsAt w b o l) (hb : Below B w wr) (hB : 0 < l.length → b < B) : EvsAt wr b o l := by
  intro i x hx
  have hl : 0 < l.length := by have := (List.getElem?_eq_some_iff.1 hx).1; omega
  obtain ⟨h1, h2⟩ := h i x hx
  exact ⟨fun j hj => (hb.cell (p := ⟨b, _, none⟩) (hB hl)).trans (h1 j hj), h2⟩
/-- the eight cells of one of them -/
theorem EvsAt.cells {w : World} {b o : Nat} {l : List EvL} (h : EvsAt w b o l) {i : Nat} {x : EvL} (hx : l[i]? = some x) :
    w.cell? ⟨b, o + i * 8, none⟩ = some (.int .i64 x.ca) ∧ w.cell? ⟨b, o + i * 8 + 1, none⟩ = some (.int .i64 x.iv) ∧ w.cell? ⟨b, o + i * 8 + 2, none⟩ = some (.int .i64 x.rs) ∧ w.cell? ⟨b, o + i * 8 + 3, none⟩ = some (.int .i64 x.st) ∧
    w.cell? ⟨b, o + i * 8 + 4, none⟩ = some (.int .i64 x.er) ∧ w.cell? ⟨b, o + i * 8 + 5, none⟩ = some (.int .u64 (x.vl : Int)) ∧ w.cell? ⟨b, o + i * 8 + 6, none⟩ = some (.slice x.la x.nl x.cl) ∧ w.cell? ⟨b, o + i * 8 + 7, none⟩ = some (.slice x.ka x.nk x.ck) := by
  obtain ⟨h1, _⟩ := h i x hx
  exact ⟨h1 0 (by omega), h1 1 (by omega), h1 2 (by omega), h1 3 (by omega), h1 4 (by omega), h1 5 (by omega), h1 6 (by omega), h1 7 (by omega)⟩
set_option maxRecDepth 100000 in
theorem slice_events {H : Type} {enc : TypeId × Value → H} {w : World} {base : Nat} {spare : Nat → Bool} {held : Bool} {fuel : Nat} {ao : Option Addr} {n cap : Nat} {x : DataW H × List MemPlace}
    (h : DataW.trod enc Tryz.prog w base spare held fuel 27 [.slice ao n cap] = some x) :
    ∃ (b off : Nat) (l : List EvL), n = l.length ∧ l.length ≤ maxLen ∧ (0 < l.length → ao = some ⟨b, off, none⟩) ∧ (0 < l.length → b < w.heap.size) ∧ EvsAt w b off l := by
  obtain ⟨ao', b, off, len, cap', hcs, hl, ha, hi⟩ := slice_cells Tryz.underlying27 (sz := 8) (by kernel_rfl) (by omega) h
  simp only [List.cons.injEq, Value.slice.injEq, and_true] at hcs
  obtain ⟨rfl, rfl, rfl⟩ := hcs
  have := list_of (n := n) (Q := fun i (x : EvL) => (∀ j, j < 8 → w.cell? ⟨b, off + i * 8 + j, none⟩ = x.vs[j]?) ∧ x.ok) (fun i hil => by
    obtain ⟨cs', y, n', hcl, htr, hat⟩ := hi i hil
    obtain ⟨ca, h0, w0⟩ := field_cell Tryz.underlying61 htr (i := 0) (o := 0) rfl rfl (by kernel_rfl) Tryz.underlying3
    obtain ⟨iv, h1, w1⟩ := field_cell Tryz.underlying61 htr (i := 1) (o := 1) rfl rfl (by kernel_rfl) Tryz.underlying3
    obtain ⟨rs, h2, w2⟩ := field_cell Tryz.underlying61 htr (i := 2) (o := 2) rfl rfl (by kernel_rfl) Tryz.underlying3
    obtain ⟨st, h3, w3⟩ := field_cell Tryz.underlying61 htr (i := 3) (o := 3) rfl rfl (by kernel_rfl) Tryz.underlying3
    obtain ⟨m4, y4, p4⟩ := field_part Tryz.underlying61 htr (i := 4) (o := 4) (c := 3) rfl rfl (by kernel_rfl)
    obtain ⟨er, h4, w4⟩ := field_cell Tryz.underlying57 p4 (i := 0) (o := 0) rfl rfl (by kernel_rfl) Tryz.underlying32
    obtain ⟨vl, h5, w5⟩ := field_cell Tryz.underlying57 p4 (i := 1) (o := 1) rfl rfl (by kernel_rfl) Tryz.underlying55
    obtain ⟨m6, y6, p6⟩ := field_part Tryz.underlying57 p4 (i := 2) (o := 2) (c := 1) rfl rfl (by kernel_rfl)
    obtain ⟨la, nl, cl, h6⟩ := part_slice Tryz.underlying37 p6
    obtain ⟨m7, y7, p7⟩ := field_part Tryz.underlying61 htr (i := 5) (o := 7) (c := 1) rfl rfl (by kernel_rfl)
    obtain ⟨ka, nk, ck, h7⟩ := part_slice Tryz.underlying24 p7
    have bv := u64_bounds w5
    obtain ⟨vl, rfl⟩ : ∃ t : Nat, vl = t := ⟨vl.toNat, by omega⟩
    have g4 : cs'[4]? = some (.int .i64 er) := by
      rw [List.getElem?_take] at h4; simpa using h4
    have g5 : cs'[5]? = some (.int .u64 (vl : Int)) := by
      rw [List.getElem?_take] at h5; simpa using h5
    have g6 : cs'[6]? = some (.slice la nl cl) := by
      have := take1_get h6
      rw [List.getElem?_take] at this; simpa using this
    have g7 := take1_get h7
    refine ⟨⟨ca, iv, rs, st, er, vl, la, nl, cl, ka, nk, ck⟩, fun j hj => ?_, i64_bounds w0, i64_bounds w1, i64_bounds w2, i64_bounds w3, i64_bounds w4, by show vl < _; omega⟩
    rw [hat j hj]
    match j, hj with
    | 0, _ => exact h0
    | 1, _ => exact h1
    | 2, _ => exact h2
    | 3, _ => exact h3
    | 4, _ => exact g4
    | 5, _ => exact g5
    | 6, _ => exact g6
    | 7, _ => exact g7)
  obtain ⟨l, rfl, hq⟩ := this
  exact ⟨b, off, l, rfl, hl, fun h => (ha h).1, fun h => (ha h).2, hq⟩
end
section
open Go.ChangeShapes Go.WideShapes Go.ChangeAt Go.RowKit Go.Maps

/-- an element as it lies -/
def rawEl (v : Value) : Option (DataW Value × List MemPlace) := some (.held v, [])

def updF {α : Type} (f : Int → α) (a : Int) (v : α) : Int → α := fun x => if x = a then v else f x
theorem updF_same {α : Type} (f : Int → α) (a : Int) (v : α) : updF f a v a = v := by simp [updF]
theorem updF_other {α : Type} (f : Int → α) {a b : Int} (v : α) (h : b ≠ a) : updF f a v b = f b := by simp [updF, h]

/-- block b is a map of at most n entries, whose keys are in K0, whose element at a is f a, z where there is none -/
def MapIs (P : Program) (k : TypeId) (w : World) (b n : Nat) (z : Value) (f : Int → Value) : Prop :=
  ∃ D : DataW Value, w.ownsMap P k rawEl b n D ∧ (∀ a, D.atKey (.int .i64 a) (.held z) = .held (f a)) ∧ ∀ a, Maps.has D (.int .i64 a) = true → 0 ≤ a ∧ a < 16

section
variable {P : Program} {k t e : TypeId} {w w' : World} {b r n : Nat} {z : Value} {f : Int → Value} {left : Int → Bool}

theorem MapIs.made (P : Program) (k : TypeId) (w : World) (z : Value) : MapIs P k (w.alloc (.map #[] 0)) w.heap.size 0 z (fun _ => z) :=
  ⟨.map [], World.ownsMap_made w P k rawEl, fun _ => rfl, fun a h => by simp [Maps.has] at h⟩

theorem MapIs.lt (h : MapIs P k w b n z f) : b < w.heap.size := by obtain ⟨D, h, _⟩ := h; exact h.lt
theorem MapIs.kept {row : Option Nat} (h : MapIs P k w b n z f) (hg : w.grownBy w' row) (hne : some b ≠ row) : MapIs P k w' b n z f := by
  obtain ⟨D, h, h2⟩ := h; exact ⟨D, h.kept hg hne, h2⟩
theorem MapIs.alloc (h : MapIs P k w b n z f) (o : Obj) : MapIs P k (w.alloc o) b n z f := h.kept (World.grownBy_alloc w o none) (by simp)
theorem MapIs.drew (h : MapIs P k w b n z f) : MapIs P k w.drew b n z f := h
theorem MapIs.drewN (h : MapIs P k w b n z f) (m : Nat) : MapIs P k (w.drewN m) b n z f := h
theorem MapIs.below (h : MapIs P k w b n z f) {B : Nat} (hb : Below B w w') (hB : b < B) : MapIs P k w' b n z f := by
  obtain ⟨D, ⟨es, c, h0, h1⟩, h2⟩ := h
  exact ⟨D, ⟨es, c, (hb.block b hB).trans h0, h1⟩, h2⟩
theorem MapIs.mono (h : MapIs P k w b n z f) {n' : Nat} (hn : n ≤ n') : MapIs P k w b n' z f := by obtain ⟨D, h, h2⟩ := h; exact ⟨D, h.mono hn, h2⟩
theorem MapIs.setCell (h : MapIs P k w b n z f) {a : Addr} (ha : b ≠ a.block) (u : Value) : MapIs P k (w.setCell a u) b n z f := by
  obtain ⟨D, h, h2⟩ := h; exact ⟨D, h.setCell ha u, h2⟩
/-- block b holds no cells -/
theorem MapIs.no_cells (h : MapIs P k w b n z f) {c : Array Value} {ty : TypeId} {fr : Nat × Nat} : w.heap[b]? ≠ some (.cells c ty fr) := by
  obtain ⟨D, ⟨es, cl, h0, _⟩, _⟩ := h
  rw [h0]; simp
theorem MapIs.no_cell (h : MapIs P k w b n z f) (p : Addr) (hp : p.block = b) : w.cell? p = none := by
  obtain ⟨D, ⟨es, cl, h0, _⟩, _⟩ := h
  subst hp
  unfold World.cell?
  simp only [h0]

theorem MapIs.look (h : MapIs P k w b n z f) (hk : P.underlying k = some (.int .i64)) (ht : P.underlying t = some (.map k e)) (hz : (zeroValue e).run P w = .ok z w) {a : Int} (ha : (Lit.int .i64 a).wf = true) :
    (Instr.lookup t (.map (some b)) (.int .i64 a) false).run P w = .ok (f a) w := by
  obtain ⟨D, h, h2, _⟩ := h
  obtain ⟨v, ps, hr, hv⟩ := h.lookup (int_keyed hk) ht hz (zd := .held z) (zp := []) rfl (keyOf_int_mk hk ha)
  rw [h2 a] at hv
  simp only [rawEl, Option.some.injEq, Prod.mk.injEq, DataW.held.injEq] at hv
  rw [hr, hv.1]

theorem isKey_int (a : Int) : WideAt.IsKeyLit (.int .i64 a) := by simp [WideAt.IsKeyLit]

theorem MapIs.store (h : MapIs P k w b n z f) (hk : P.underlying k = some (.int .i64)) (ht : P.underlying t = some (.map k e)) (hn : n < maxLen) {a : Int} (ha : 0 ≤ a ∧ a < 16) (v : Value) :
    ∃ w', (Instr.mapUpdate t (.map (some b)) (.int .i64 a) v).run P w = .ok () w' ∧ MapIs P k w' b (n + 1) z (updF f a v) ∧ w.mapTurned w' b := by
  obtain ⟨D, h, h2, h3⟩ := h
  have wf : (Lit.int .i64 a).wf = true := WalkArith.wf_i64 (by omega)
  obtain ⟨w', hr, ho, hm⟩ := h.store (int_keyed hk) ht hn (val := v) (d := .held v) (ps := []) (keyOf_int_mk hk wf) rfl
  refine ⟨w', hr, ⟨_, ho, fun x => ?_, fun x hx => ?_⟩, hm⟩
  · by_cases hxa : x = a
    · subst hxa
      rw [atKey_put_same h.isMap (isKey_int _), updF_same]
    · rw [atKey_put_other (by simp [hxa]), h2, updF_other _ _ hxa]
  · by_cases hxa : x = a
    · subst hxa; exact ha
    · rw [has_put_other (by simp [hxa])] at hx
      exact h3 x hx

theorem MapIs.drop (h : MapIs P k w b n z f) (hk : P.underlying k = some (.int .i64)) (ht : P.underlying t = some (.map k e)) {a : Int} (ha : 0 ≤ a ∧ a < 16) (ty : TypeId) :
    ∃ w', (Builtin.delete_ #[t, k] ty #[.map (some b), .int .i64 a]).run P w = .ok (.tuple #[]) w' ∧ MapIs P k w' b n z (updF f a z) ∧ w.mapTurned w' b := by
  obtain ⟨D, h, h2, h3⟩ := h
  have wf : (Lit.int .i64 a).wf = true := WalkArith.wf_i64 (by omega)
  obtain ⟨w', hr, ho, hm⟩ := h.drop (int_keyed hk) ht (keyOf_int_mk hk wf) ty
  refine ⟨w', hr, ⟨_, ho, fun x => ?_, fun x hx => ?_⟩, hm⟩
  · by_cases hxa : x = a
    · subst hxa
      rw [atKey_del_same, updF_same]
    · rw [atKey_del_other (by simp [hxa]), h2, updF_other _ _ hxa]
  · by_cases hxa : x = a
    · subst hxa; exact ha
    · rw [has_del_other (by simp [hxa])] at hx
      exact h3 x hx

/-- ranging over such a map: block r tells who is left -/
def RangeIs (P : Program) (k : TypeId) (w : World) (b r n : Nat) (z : Value) (f : Int → Value) (left : Int → Bool) : Prop :=
  ∃ (D : DataW Value) (lf : Lit → Bool) (cnt : Nat), w.ranges P k rawEl b r n D lf cnt ∧ (∀ a, D.atKey (.int .i64 a) (.held z) = .held (f a)) ∧ (∀ a, Maps.has D (.int .i64 a) = true → 0 ≤ a ∧ a < 16) ∧ (∀ a, lf (.int .i64 a) = left a) ∧
    (∀ a, left a = true → 0 ≤ a ∧ a < 16)

theorem MapIs.range (h : MapIs P k w b n z f) (hk : P.underlying k = some (.int .i64)) (ht : P.underlying t = some (.map k e)) :
    ∃ w' left, (Instr.range t (.map (some b))).run P w = .ok (.pointer (some ⟨w.heap.size, 0, none⟩)) w' ∧ RangeIs P k w' b w.heap.size n z f left ∧ w.grownBy w' none ∧ w'.heap.size = w.heap.size + 1 ∧ ∀ a, left a = false → f a = z := by
  obtain ⟨D, h, h2, h3⟩ := h
  obtain ⟨w', hr, hg, h4, h5⟩ := h.range (int_keyed hk) ht
  refine ⟨w', fun a => Maps.has D (.int .i64 a), hr, ⟨D, _, _, hg, h2, h3, fun _ => rfl, h3⟩, h4, h5, fun a ha => ?_⟩
  have := h2 a
  rw [atKey_of_not_has ha] at this
  simpa using this.symm

theorem RangeIs.next (h : RangeIs P k w b r n z f left) (hk : P.underlying k = some (.int .i64)) (ty : TypeId) :
    ((∀ a, left a = false) ∧ (Instr.next (.pointer (some ⟨r, 0, none⟩)) false ty).run P w = .ok (.tuple #[.bool false]) w) ∨
    ∃ a w', left a = true ∧ (0 ≤ a ∧ a < 16) ∧ (Instr.next (.pointer (some ⟨r, 0, none⟩)) false ty).run P w = .ok (.tuple #[.bool true, .int .i64 a, f a]) w' ∧ RangeIs P k w' b r n z f (updF left a false) ∧ w.grownBy w' (some r) ∧ w'.heap.size = w.heap.size ∧ w'.rangeLeft b r < w.rangeLeft b r ∧
      (Instr.entry (.pointer (some ⟨r, 0, none⟩))).run P w' = .ok (.tuple #[.int .i64 a, f a]) w' := by
  obtain ⟨D, lf, cnt, h, h2, h3, h4, h5⟩ := h
  rcases h.next (int_keyed hk) ty with ⟨_, hl, hr⟩ | ⟨key, v, kl, y, w', cnt', hkey, hlk, hv, hat, hrun, hrg, hclt, hgr, hsz, hen⟩
  · exact .inl ⟨fun a => by rw [← h4 a]; exact hl _, hr⟩
  · right
    obtain ⟨a, rfl, rfl, hw⟩ := keyOf_int_inv hk hkey
    have hf : v = f a := by
      have e1 := h2 a
      rw [hat] at e1
      simp only [rawEl, Option.some.injEq] at hv
      rw [← hv] at e1
      simpa using e1
    subst hf
    refine ⟨a, w', by rw [← h4 a]; exact hlk, h5 a (by rw [← h4 a]; exact hlk), hrun, ⟨D, _, _, hrg, h2, h3, fun x => ?_, fun x hx => ?_⟩, hgr, hsz, by rw [hrg.left_eq, h.left_eq]; exact hclt, hen⟩
    · by_cases hx : x = a
      · subst hx; simp [updF_same, Lit.sameKey]
      · rw [updF_other _ _ hx, ← h4 x]; simp [Lit.sameKey, hx]
    · by_cases hxa : x = a
      · subst hxa; rw [updF_same] at hx; cases hx
      · rw [updF_other _ _ hxa] at hx; exact h5 x hx
theorem RangeIs.map (h : RangeIs P k w b r n z f left) : MapIs P k w b n z f := by
  obtain ⟨D, lf, cnt, h, h2, h3, _⟩ := h
  exact ⟨D, h.owns, h2, h3⟩
theorem RangeIs.kept {row : Option Nat} (h : RangeIs P k w b r n z f left) (hg : w.grownBy w' row) (hb' : some b ≠ row) (hr' : some r ≠ row) : RangeIs P k w' b r n z f left := by
  obtain ⟨D, lf, cnt, h, h2⟩ := h
  exact ⟨D, lf, cnt, h.kept hg hb' hr', h2⟩
end
end
end Go.Proofs.YtjjleghalajidaaGreat
