/- Over any program: a map of the call's own, by numbers from 0 to 15, whose elements are known as the values that they are. | Plain: which call a thread is at, by which ones are finished; whose turn picks give. | Walks of pick: Now, steps; the reference's Wrong and Now. | Walks of pick: Finish, Left. | Walk of pick: New. | Blocks of the call's own, cell by cell; make of numbers and of bools. -/
import Derived.Test.YtpoebpnmbogmnaaGK
import Derived.Maps.OwnSet
import Derived.Maps.RangeWalk
import Derived.Maps.AppendAt
import Derived.Test.YtpoebpnmbogmnaaProg
import Derived.Test.YtpoebpnmbogmnaaGN
import Derived.WalkLawsBesides
import Derived.Deep.RegionLaw
import Derived.BigRegion
import Derived.Laws.MakeOwn
import Derived.Laws.OwnMore
namespace Go.Proofs.Ytpoebpnmbogmnaa
section
open Go.ChangeShapes Go.WideShapes Go.ChangeAt Go.RowKit Go.Maps

/-- an element as it lies -/
def rawEl (v : Value) : Option (DataW Value × List MemPlace) := some (.held v, [])

def updF {α : Type} (f : Int → α) (a : Int) (v : α) : Int → α := fun x => if x = a then v else f x
theorem updF_same {α : Type} (f : Int → α) (a : Int) (v : α) : updF f a v a = v := by simp [updF]
theorem updF_other {α : Type} (f : Int → α) {a b : Int} (v : α) (h : b ≠ a) : updF f a v b = f b := by simp [updF, h]

/-- block b is a map of at most n entries, whose keys are in K0, whose element at a is f a, z where there is none -/
def MapIs (P : Program) (k : TypeId) (w : World) (b n : Nat) (z : Value) (f : Int → Value) : Prop :=
  ∃ D : DataW Value, w.ownsMap P k rawEl b n D ∧ (∀ a, D.atKey (.int .i64 a) (.held z) = .held (f a)) ∧ ∀ a, Maps.has D (.int .i64 a) = true → 0 ≤ a ∧ a < 16

section
variable {P : Program} {k t e : TypeId} {w w' : World} {b r n : Nat} {z : Value} {f : Int → Value} {left : Int → Bool}

theorem MapIs.made (P : Program) (k : TypeId) (w : World) (z : Value) : MapIs P k (w.alloc (.map #[] 0)) w.heap.size 0 z (fun _ => z) :=
  ⟨.map [], World.ownsMap_made w P k rawEl, fun _ => rfl, fun a h => by simp [Maps.has] at h⟩

theorem MapIs.lt (h : MapIs P k w b n z f) : b < w.heap.size := by obtain ⟨D, h, _⟩ := h; exact h.lt
theorem MapIs.kept {row : Option Nat} (h : MapIs P k w b n z f) (hg : w.grownBy w' row) (hne : some b ≠ row) : MapIs P k w' b n z f := by
  obtain ⟨D, h, h2⟩ := h; exact ⟨D, h.kept hg hne, h2⟩
theorem MapIs.alloc (h : MapIs P k w b n z f) (o : Obj) : MapIs P k (w.alloc o) b n z f := h.kept (World.grownBy_alloc w o none) (by simp)
theorem MapIs.drew (h : MapIs P k w b n z f) : MapIs P k w.drew b n z f := h
theorem MapIs.drewN (h : MapIs P k w b n z f) (m : Nat) : MapIs P k (w.drewN m) b n z f := h
theorem MapIs.below (h : MapIs P k w b n z f) {B : Nat} (hb : Below B w w') (hB : b < B) : MapIs P k w' b n z f := by
  obtain ⟨D, ⟨es, c, h0, h1⟩, h2⟩ := h
  exact ⟨D, ⟨es, c, (hb.block b hB).trans h0, h1⟩, h2⟩
theorem MapIs.mono (h : MapIs P k w b n z f) {n' : Nat} (hn : n ≤ n') : MapIs P k w b n' z f := by obtain ⟨D, h, h2⟩ := h; exact ⟨D, h.mono hn, h2⟩
theorem MapIs.setCell (h : MapIs P k w b n z f) {a : Addr} (ha : b ≠ a.block) (u : Value) : MapIs P k (w.setCell a u) b n z f := by
  obtain ⟨D, h, h2⟩ := h; exact ⟨D, h.setCell ha u, h2⟩
/-- block b holds no cells -/
theorem MapIs.no_cells (h : MapIs P k w b n z f) {c : Array Value} {ty : TypeId} {fr : Nat × Nat} : w.heap[b]? ≠ some (.cells c ty fr) := by
  obtain ⟨D, ⟨es, cl, h0, _⟩, _⟩ := h
  rw [h0]; simp
theorem MapIs.no_cell (h : MapIs P k w b n z f) (p : Addr) (hp : p.block = b) : w.cell? p = none := by
  obtain ⟨D, ⟨es, cl, h0, _⟩, _⟩ := h
  subst hp
  unfold World.cell?
  simp only [h0]

theorem MapIs.look (h : MapIs P k w b n z f) (hk : P.underlying k = some (.int .i64)) (ht : P.underlying t = some (.map k e)) (hz : (zeroValue e).run P w = .ok z w) {a : Int} (ha : (Lit.int .i64 a).wf = true) :
    (Instr.lookup t (.map (some b)) (.int .i64 a) false).run P w = .ok (f a) w := by
  obtain ⟨D, h, h2, _⟩ := h
  obtain ⟨v, ps, hr, hv⟩ := h.lookup (int_keyed hk) ht hz (zd := .held z) (zp := []) rfl (keyOf_int_mk hk ha)
  rw [h2 a] at hv
  simp only [rawEl, Option.some.injEq, Prod.mk.injEq, DataW.held.injEq] at hv
  rw [hr, hv.1]

theorem isKey_int (a : Int) : WideAt.IsKeyLit (.int .i64 a) := by simp [WideAt.IsKeyLit]

theorem MapIs.store (h : MapIs P k w b n z f) (hk : P.underlying k = some (.int .i64)) (ht : P.underlying t = some (.map k e)) (hn : n < maxLen) {a : Int} (ha : 0 ≤ a ∧ a < 16) (v : Value) :
    ∃ w', (Instr.mapUpdate t (.map (some b)) (.int .i64 a) v).run P w = .ok () w' ∧ MapIs P k w' b (n + 1) z (updF f a v) ∧ w.mapTurned w' b := by
  obtain ⟨D, h, h2, h3⟩ := h
  have wf : (Lit.int .i64 a).wf = true := WalkArith.wf_i64 (by omega)
  obtain ⟨w', hr, ho, hm⟩ := h.store (int_keyed hk) ht hn (val := v) (d := .held v) (ps := []) (keyOf_int_mk hk wf) rfl
  refine ⟨w', hr, ⟨_, ho, fun x => ?_, fun x hx => ?_⟩, hm⟩
  · by_cases hxa : x = a
    · subst hxa
      rw [atKey_put_same h.isMap (isKey_int _), updF_same]
    · rw [atKey_put_other (by simp [hxa]), h2, updF_other _ _ hxa]
  · by_cases hxa : x = a
    · subst hxa; exact ha
    · rw [has_put_other (by simp [hxa])] at hx
      exact h3 x hx

theorem MapIs.drop (h : MapIs P k w b n z f) (hk : P.underlying k = some (.int .i64)) (ht : P.underlying t = some (.map k e)) {a : Int} (ha : 0 ≤ a ∧ a < 16) (ty : TypeId) :
    ∃ w', (Builtin.delete_ #[t, k] ty #[.map (some b), .int .i64 a]).run P w = .ok (.tuple #[]) w' ∧ MapIs P k w' b n z (updF f a z) ∧ w.mapTurned w' b := by
  obtain ⟨D, h, h2, h3⟩ := h
  have wf : (Lit.int .i64 a).wf = true := WalkArith.wf_i64 (by omega)
  obtain ⟨w', hr, ho, hm⟩ := h.drop (int_keyed hk) ht (keyOf_int_mk hk wf) ty
  refine ⟨w', hr, ⟨_, ho, fun x => ?_, fun x hx => ?_⟩, hm⟩
  · by_cases hxa : x = a
    · subst hxa
      rw [atKey_del_same, updF_same]
    · rw [atKey_del_other (by simp [hxa]), h2, updF_other _ _ hxa]
  · by_cases hxa : x = a
    · subst hxa; exact ha
    · rw [has_del_other (by simp [hxa])] at hx
      exact h3 x hx

/-- ranging over such a map: block r tells who is left -/
def RangeIs (P : Program) (k : TypeId) (w : World) (b r n : Nat) (z : Value) (f : Int → Value) (left : Int → Bool) : Prop :=
  ∃ (D : DataW Value) (lf : Lit → Bool) (cnt : Nat), w.ranges P k rawEl b r n D lf cnt ∧ (∀ a, D.atKey (.int .i64 a) (.held z) = .held (f a)) ∧ (∀ a, Maps.has D (.int .i64 a) = true → 0 ≤ a ∧ a < 16) ∧ (∀ a, lf (.int .i64 a) = left a) ∧
    (∀ a, left a = true → 0 ≤ a ∧ a < 16)

theorem MapIs.range (h : MapIs P k w b n z f) (hk : P.underlying k = some (.int .i64)) (ht : P.underlying t = some (.map k e)) :
    ∃ w' left, (Instr.range t (.map (some b))).run P w = .ok (.pointer (some ⟨w.heap.size, 0, none⟩)) w' ∧ RangeIs P k w' b w.heap.size n z f left ∧ w.grownBy w' none ∧ w'.heap.size = w.heap.size + 1 ∧ ∀ a, left a = false → f a = z := by
  obtain ⟨D, h, h2, h3⟩ := h
  obtain ⟨w', hr, hg, h4, h5⟩ := h.range (int_keyed hk) ht
  refine ⟨w', fun a => Maps.has D (.int .i64 a), hr, ⟨D, _, _, hg, h2, h3, fun _ => rfl, h3⟩, h4, h5, fun a ha => ?_⟩
  have := h2 a
  rw [atKey_of_not_has ha] at this
  simpa using this.symm

theorem RangeIs.next (h : RangeIs P k w b r n z f left) (hk : P.underlying k = some (.int .i64)) (ty : TypeId) :
    ((∀ a, left a = false) ∧ (Instr.next (.pointer (some ⟨r, 0, none⟩)) false ty).run P w = .ok (.tuple #[.bool false]) w) ∨
    ∃ a w', left a = true ∧ (0 ≤ a ∧ a < 16) ∧ (Instr.next (.pointer (some ⟨r, 0, none⟩)) false ty).run P w = .ok (.tuple #[.bool true, .int .i64 a, f a]) w' ∧ RangeIs P k w' b r n z f (updF left a false) ∧ w.grownBy w' (some r) ∧ w'.heap.size = w.heap.size ∧ w'.rangeLeft b r < w.rangeLeft b r ∧
      (Instr.entry (.pointer (some ⟨r, 0, none⟩))).run P w' = .ok (.tuple #[.int .i64 a, f a]) w' := by
  obtain ⟨D, lf, cnt, h, h2, h3, h4, h5⟩ := h
  rcases h.next (int_keyed hk) ty with ⟨_, hl, hr⟩ | ⟨key, v, kl, y, w', cnt', hkey, hlk, hv, hat, hrun, hrg, hclt, hgr, hsz, hen⟩
  · exact .inl ⟨fun a => by rw [← h4 a]; exact hl _, hr⟩
  · right
    obtain ⟨a, rfl, rfl, hw⟩ := keyOf_int_inv hk hkey
    have hf : v = f a := by
      have e1 := h2 a
      rw [hat] at e1
      simp only [rawEl, Option.some.injEq] at hv
      rw [← hv] at e1
      simpa using e1
    subst hf
    refine ⟨a, w', by rw [← h4 a]; exact hlk, h5 a (by rw [← h4 a]; exact hlk), hrun, ⟨D, _, _, hrg, h2, h3, fun x => ?_, fun x hx => ?_⟩, hgr, hsz, by rw [hrg.left_eq, h.left_eq]; exact hclt, hen⟩
    · by_cases hx : x = a
      · subst hx; simp [updF_same, Lit.sameKey]
      · rw [updF_other _ _ hx, ← h4 x]; simp [Lit.sameKey, hx]
    · by_cases hxa : x = a
      · subst hxa; rw [updF_same] at hx; cases hx
      · rw [updF_other _ _ hxa] at hx; exact h5 x hx
theorem RangeIs.map (h : RangeIs P k w b r n z f left) : MapIs P k w b n z f := by
  obtain ⟨D, lf, cnt, h, h2, h3, _⟩ := h
  exact ⟨D, h.owns, h2, h3⟩
theorem RangeIs.kept {row : Option Nat} (h : RangeIs P k w b r n z f left) (hg : w.grownBy w' row) (hb' : some b ≠ row) (hr' : some r ≠ row) : RangeIs P k w' b r n z f left := by
  obtain ⟨D, lf, cnt, h, h2⟩ := h
  exact ⟨D, lf, cnt, h.kept hg hb' hr', h2⟩
end
end
section

/-- call i is of thread p, and not finished -/
def openB (ts : List Int) (fin : List Bool) (p : Int) (i : Nat) : Bool := ts[i]? == some p && fin[i]? == some false
def ownL (ts : List Int) (fin : List Bool) (p : Int) : List Nat := (List.range ts.length).filter (openB ts fin p)
def nowOf (ts : List Int) (fin : List Bool) (p : Int) : Option Nat := (ownL ts fin p).head?
def nowI (ts : List Int) (fin : List Bool) (p : Int) : Int := match nowOf ts fin p with | some i => (i : Int) | none => -1

theorem own_mem {ts : List Int} {fin : List Bool} {p : Int} {i : Nat} : i ∈ ownL ts fin p ↔ i < ts.length ∧ openB ts fin p i = true := by
  unfold ownL; rw [List.mem_filter, List.mem_range]
theorem own_sorted (ts : List Int) (fin : List Bool) (p : Int) : (ownL ts fin p).Pairwise (· < ·) := List.Pairwise.filter _ List.pairwise_lt_range
theorem openB_iff {ts : List Int} {fin : List Bool} {p : Int} {i : Nat} : openB ts fin p i = true ↔ ts[i]? = some p ∧ fin[i]? = some false := by
  unfold openB; rw [Bool.and_eq_true, beq_iff_eq, beq_iff_eq]
theorem now_cons {ts : List Int} {fin : List Bool} {p : Int} {i : Nat} (h : nowOf ts fin p = some i) : ownL ts fin p = i :: (ownL ts fin p).tail := by
  unfold nowOf at h
  cases ho : ownL ts fin p with
  | nil => rw [ho] at h; cases h
  | cons a r => rw [ho] at h; simp at h; subst h; rfl
theorem now_nil {ts : List Int} {fin : List Bool} {p : Int} : nowOf ts fin p = none ↔ ownL ts fin p = [] := by
  unfold nowOf; exact List.head?_eq_none_iff
theorem now_open {ts : List Int} {fin : List Bool} {p : Int} {i : Nat} (h : nowOf ts fin p = some i) : i < ts.length ∧ ts[i]? = some p ∧ fin[i]? = some false := by
  have : i ∈ ownL ts fin p := by rw [now_cons h]; exact List.mem_cons_self
  obtain ⟨h1, h2⟩ := own_mem.1 this
  exact ⟨h1, openB_iff.1 h2⟩
theorem now_first {ts : List Int} {fin : List Bool} {p : Int} {j : Nat} (hj : j < ts.length) (h : ∀ i, i < j → openB ts fin p i = false) (ho : openB ts fin p j = true) : nowOf ts fin p = some j := by
  unfold nowOf ownL
  rw [List.head?_filter, List.find?_range_eq_some]
  exact ⟨ho, by simpa using hj, fun i hi => by simp [h i hi]⟩
theorem now_none {ts : List Int} {fin : List Bool} {p : Int} (h : ∀ i, i < ts.length → openB ts fin p i = false) : nowOf ts fin p = none := by
  rw [now_nil, List.eq_nil_iff_forall_not_mem]
  intro i hi
  obtain ⟨h1, h2⟩ := own_mem.1 hi
  rw [h i h1] at h2; cases h2
theorem openB_set {ts : List Int} {fin : List Bool} {p : Int} {i j : Nat} : openB ts (fin.set i true) p j = (openB ts fin p j && !(j == i)) := by
  unfold openB
  rw [List.getElem?_set]
  by_cases h : i = j
  · subst h
    simp
  · have : (j == i) = false := by simp; omega
    simp [h, this]
theorem filter_ne_tail : ∀ {l : List Nat} {i : Nat}, l.Pairwise (· < ·) → l.head? = some i → l.filter (fun j => !(j == i)) = l.tail := by
  intro l i hl hh
  cases l with
  | nil => cases hh
  | cons a r =>
    simp at hh
    subst hh
    rw [List.filter_cons]
    simp
    intro x hx
    have := (List.pairwise_cons.1 hl).1 x hx
    omega
theorem own_set_same {ts : List Int} {fin : List Bool} {p : Int} {i : Nat} (h : nowOf ts fin p = some i) : ownL ts (fin.set i true) p = (ownL ts fin p).tail := by
  rw [← filter_ne_tail (own_sorted ts fin p) h]
  unfold ownL
  rw [List.filter_filter]
  apply List.filter_congr
  intro j _
  rw [openB_set, Bool.and_comm]
theorem own_set_other {ts : List Int} {fin : List Bool} {p q : Int} {i : Nat} (h : nowOf ts fin p = some i) (hq : q ≠ p) : ownL ts (fin.set i true) q = ownL ts fin q := by
  unfold ownL
  apply List.filter_congr
  intro j _
  rw [openB_set]
  by_cases hj : j = i
  · subst hj
    have : openB ts fin q j = false := by
      cases ho : openB ts fin q j with
      | false => rfl
      | true =>
        have h1 := (openB_iff.1 ho).1
        rw [(now_open h).2.1] at h1
        exact absurd (Option.some.inj h1).symm hq
    rw [this]; rfl
  · have : (j == i) = false := by simp [hj]
    rw [this]; simp
theorem own_set_fun {ts : List Int} {fin : List Bool} {p : Int} {i : Nat} (h : nowOf ts fin p = some i) : ownL ts (fin.set i true) = updF (ownL ts fin) p (ownL ts fin p).tail := by
  funext q
  by_cases hq : q = p
  · subst hq; rw [own_set_same h, updF_same]
  · rw [own_set_other h hq, updF_other _ _ hq]

/-- what a line has, of the first j calls -/
def ownU (ts : List Int) (j : Nat) (p : Int) : List Nat := (List.range j).filter (fun i => ts[i]? == some p)
theorem ownU_zero (ts : List Int) : ownU ts 0 = fun _ => [] := rfl
theorem ownU_succ {ts : List Int} {j : Nat} {t : Int} (h : ts[j]? = some t) : ownU ts (j + 1) = updF (ownU ts j) t (ownU ts j t ++ [j]) := by
  funext p
  unfold ownU
  rw [List.range_succ, List.filter_append, List.filter_cons]
  by_cases hp : p = t
  · subst hp; rw [updF_same, h]; simp
  · rw [updF_other _ _ hp, h]
    have : (some t == some p) = false := by simp; exact fun e => hp e.symm
    rw [this]; simp
theorem ownU_all (ts : List Int) : ownU ts ts.length = ownL ts (List.replicate ts.length false) := by
  funext p
  unfold ownU ownL
  apply List.filter_congr
  intro i hi
  rw [List.mem_range] at hi
  unfold openB
  rw [List.getElem?_replicate, if_pos hi]
  simp
theorem ownU_len (ts : List Int) (j : Nat) (p : Int) : (ownU ts j p).length ≤ j := by
  have := List.length_filter_le (fun i => ts[i]? == some p) (List.range j)
  rw [List.length_range] at this
  exact this

/-- sums over threads -/
def sumN (n : Nat) (g : Int → Nat) : Nat := ((List.range n).map (fun k : Nat => g (k : Int))).sum
theorem sumN_succ (n : Nat) (g : Int → Nat) : sumN (n + 1) g = sumN n g + g n := by
  unfold sumN; rw [List.range_succ]; simp
theorem sumN_congr {n : Nat} {g h : Int → Nat} (e : ∀ a : Int, 0 ≤ a → a < n → g a = h a) : sumN n g = sumN n h := by
  unfold sumN
  congr 1
  apply List.map_congr_left
  intro k hk
  rw [List.mem_range] at hk
  exact e k (by omega) (by omega)
theorem sumN_upd {n : Nat} {g : Int → Nat} {a : Int} (h0 : 0 ≤ a) (h1 : a < n) (v : Nat) : sumN n (updF g a v) + g a = sumN n g + v := by
  induction n with
  | zero => omega
  | succ n ih =>
    rw [sumN_succ, sumN_succ]
    by_cases ha : a = n
    · subst ha
      rw [updF_same, sumN_congr (h := g) (fun x _ hx => updF_other _ _ (by omega))]
      omega
    · rw [updF_other _ _ (fun e => ha e.symm)]
      have := ih (by omega)
      omega
theorem sumN_zero (n : Nat) : sumN n (fun _ => 0) = 0 := by
  induction n with
  | zero => rfl
  | succ n ih => rw [sumN_succ, ih]
theorem sumN_ownU {ts : List Int} (hts : ∀ t ∈ ts, 0 ≤ t ∧ t < 16) : ∀ j, j ≤ ts.length → sumN 16 (fun p => (ownU ts j p).length) = j := by
  intro j
  induction j with
  | zero => intro _; exact sumN_zero 16
  | succ j ih =>
    intro hj
    have hx : ts[j]? = some ts[j] := List.getElem?_eq_getElem (by omega)
    have ht := hts ts[j] (List.getElem_mem _)
    rw [ownU_succ hx]
    have e : (fun p => (updF (ownU ts j) ts[j] (ownU ts j ts[j] ++ [j]) p).length) = updF (fun p => (ownU ts j p).length) ts[j] ((ownU ts j ts[j]).length + 1) := by
      funext p
      by_cases hp : p = ts[j]
      · subst hp; rw [updF_same, updF_same]; simp
      · rw [updF_other _ _ hp, updF_other _ _ hp]
    rw [e]
    have h1 := sumN_upd (g := fun p => (ownU ts j p).length) ht.1 ht.2 ((ownU ts j ts[j]).length + 1)
    have h2 := ih (by omega)
    simp only at h1
    omega

/-- why there is no line -/
def wrongL (n : Int) (ts : List Int) : Nat := if n < 1 ∨ 16 < n then 1 else if 1000 < ts.length then 3 else if ts.any (fun t => decide (t < 0 ∨ n ≤ t)) then 1 else 0
theorem wrongL_n {n : Int} {ts : List Int} (h : n < 1 ∨ 16 < n) : wrongL n ts = 1 := by unfold wrongL; rw [if_pos h]
theorem wrongL_long {n : Int} {ts : List Int} (h : ¬ (n < 1 ∨ 16 < n)) (h1 : 1000 < ts.length) : wrongL n ts = 3 := by unfold wrongL; rw [if_neg h, if_pos h1]
theorem wrongL_bad {n : Int} {ts : List Int} (h : ¬ (n < 1 ∨ 16 < n)) (h1 : ¬ 1000 < ts.length) {j : Nat} {t : Int} (hj : ts[j]? = some t) (ht : t < 0 ∨ n ≤ t) : wrongL n ts = 1 := by
  unfold wrongL; rw [if_neg h, if_neg h1, if_pos]
  exact List.any_eq_true.2 ⟨t, List.mem_of_getElem? hj, by simpa using ht⟩
theorem wrongL_ok {n : Int} {ts : List Int} (h : ¬ (n < 1 ∨ 16 < n)) (h1 : ¬ 1000 < ts.length) (hj : ∀ t ∈ ts, 0 ≤ t ∧ t < n) : wrongL n ts = 0 := by
  unfold wrongL; rw [if_neg h, if_neg h1, if_neg]
  rw [List.any_eq_true]
  rintro ⟨t, ht, h⟩
  have := hj t ht
  simp at h
  omega
theorem wrongL_inv {n : Int} {ts : List Int} (h : wrongL n ts = 0) : (1 ≤ n ∧ n ≤ 16) ∧ ts.length ≤ 1000 ∧ ∀ t ∈ ts, 0 ≤ t ∧ t < n := by
  unfold wrongL at h
  by_cases h1 : n < 1 ∨ 16 < n
  · rw [if_pos h1] at h; cases h
  · rw [if_neg h1] at h
    by_cases h2 : 1000 < ts.length
    · rw [if_pos h2] at h; cases h
    · rw [if_neg h2] at h
      by_cases h3 : ts.any (fun t => decide (t < 0 ∨ n ≤ t)) = true
      · rw [if_pos h3] at h; cases h
      · refine ⟨by omega, by omega, fun t ht => ?_⟩
        rw [List.any_eq_true] at h3
        apply Classical.byContradiction
        intro hc
        exact h3 ⟨t, ht, by simp; omega⟩
theorem wrongL_cases (n : Int) (ts : List Int) : wrongL n ts = 0 ∨ wrongL n ts = 1 ∨ wrongL n ts = 3 := by
  unfold wrongL
  split
  · exact .inr (.inl rfl)
  · split
    · exact .inr (.inr rfl)
    · split
      · exact .inr (.inl rfl)
      · exact .inl rfl

/-- how many steps a call needs -/
def mostOf (need : List Int) (i : Nat) : Int := match need[i]? with | some x => max x 1 | none => 1
/-- the turns, and how many picks are idle -/
def turnsGo (ts need : List Int) : List Int → List Bool → List Int → List Nat × Nat
  | [], _, _ => ([], 0)
  | p :: ps, fin, made => match nowOf ts fin p with
    | none => ((turnsGo ts need ps fin made).1, (turnsGo ts need ps fin made).2 + 1)
    | some i =>
      let m := made.getD i 0 + 1
      let r := turnsGo ts need ps (if mostOf need i ≤ m then fin.set i true else fin) (made.set i m)
      (i :: r.1, r.2)
theorem turnsGo_idle {ts need ps : List Int} {p : Int} {fin : List Bool} {made : List Int} (h : nowOf ts fin p = none) : turnsGo ts need (p :: ps) fin made = ((turnsGo ts need ps fin made).1, (turnsGo ts need ps fin made).2 + 1) := by
  rw [turnsGo, h]
theorem turnsGo_last {ts need ps : List Int} {p m : Int} {fin : List Bool} {made : List Int} {i : Nat} (h : nowOf ts fin p = some i) (hm : made[i]? = some m) (hl : mostOf need i ≤ m + 1) :
    turnsGo ts need (p :: ps) fin made = (i :: (turnsGo ts need ps (fin.set i true) (made.set i (m + 1))).1, (turnsGo ts need ps (fin.set i true) (made.set i (m + 1))).2) := by
  have e : made.getD i 0 = m := by rw [List.getD_eq_getElem?_getD, hm]; rfl
  rw [turnsGo, h]
  simp only [e, if_pos hl]
theorem turnsGo_more {ts need ps : List Int} {p m : Int} {fin : List Bool} {made : List Int} {i : Nat} (h : nowOf ts fin p = some i) (hm : made[i]? = some m) (hl : ¬ mostOf need i ≤ m + 1) :
    turnsGo ts need (p :: ps) fin made = (i :: (turnsGo ts need ps fin (made.set i (m + 1))).1, (turnsGo ts need ps fin (made.set i (m + 1))).2) := by
  have e : made.getD i 0 = m := by rw [List.getD_eq_getElem?_getD, hm]; rfl
  rw [turnsGo, h]
  simp only [e, if_neg hl]
theorem turnsGo_len (ts need : List Int) : ∀ (ps : List Int) (fin : List Bool) (made : List Int), (turnsGo ts need ps fin made).1.length + (turnsGo ts need ps fin made).2 = ps.length
  | [], _, _ => rfl
  | p :: ps, fin, made => by
    rw [turnsGo]
    cases h : nowOf ts fin p with
    | none => have := turnsGo_len ts need ps fin made; simp; omega
    | some i =>
      have := turnsGo_len ts need ps (if mostOf need i ≤ made.getD i 0 + 1 then fin.set i true else fin) (made.set i (made.getD i 0 + 1))
      simp only [List.length_cons]
      omega

/-- turns are of calls that there are, and no thread goes back -/
def rowsGo (ts : List Int) : List Nat → (Int → Nat) → Prop
  | [], _ => True
  | i :: r, last => ∃ t, ts[i]? = some t ∧ last t ≤ i ∧ rowsGo ts r (updF last t i)
theorem rows_turns (ts need : List Int) : ∀ (ps : List Int) (fin : List Bool) (made : List Int) (last : Int → Nat), (∀ p i, nowOf ts fin p = some i → last p ≤ i) → rowsGo ts (turnsGo ts need ps fin made).1 last
  | [], _, _, _, _ => trivial
  | p :: ps, fin, made, last, hl => by
    rw [turnsGo]
    cases h : nowOf ts fin p with
    | none => exact rows_turns ts need ps fin made last hl
    | some i =>
      refine ⟨p, (now_open h).2.1, hl p i h, ?_⟩
      apply rows_turns
      intro q k hk
      by_cases hf : mostOf need i ≤ made.getD i 0 + 1
      · rw [if_pos hf] at hk
        by_cases hq : q = p
        · subst hq
          rw [updF_same]
          unfold nowOf at hk
          rw [own_set_same h] at hk
          have hs := own_sorted ts fin q
          rw [now_cons h] at hs
          have := (List.pairwise_cons.1 hs).1 k (List.mem_of_mem_head? (by rw [hk]; rfl))
          omega
        · rw [updF_other _ _ hq]
          unfold nowOf at hk
          rw [own_set_other h hq] at hk
          exact hl q k hk
      · rw [if_neg hf] at hk
        by_cases hq : q = p
        · subst hq
          rw [h] at hk
          rw [updF_same]; cases hk; omega
        · rw [updF_other _ _ hq]; exact hl q k hk
end
section
open Go.RowKit

/-- numbers of calls lie in a row, below 'top' -/
def NumsAt (w : World) (top : Nat) (v : Value) (l : List Nat) : Prop :=
  ∃ (ao : Option Addr) (b o cap : Nat), v = .slice ao l.length cap ∧ (0 < l.length → ao = some ⟨b, o, none⟩ ∧ b < top) ∧ l.length ≤ cap ∧ cap ≤ 9223372036854775807 ∧ ∀ (i x : Nat), l[i]? = some x → w.cell? ⟨b, o + i, none⟩ = some (.int .i64 (x : Int))
theorem NumsAt.nil (w : World) (top : Nat) : NumsAt w top (.slice none 0 0) [] := ⟨none, 0, 0, 0, rfl, fun h => absurd h (by simp), by simp, by omega, fun i x h => by simp at h⟩
theorem NumsAt.stays {w w' : World} {top : Nat} {v : Value} {l : List Nat} (h : NumsAt w top v l) (hb : ∀ k, k < top → w'.heap[k]? = w.heap[k]?) : NumsAt w' top v l := by
  obtain ⟨ao, b, o, cap, rfl, ha, hc, hm, hx⟩ := h
  refine ⟨ao, b, o, cap, rfl, ha, hc, hm, fun i x h => ?_⟩
  have hl : 0 < l.length := by have := (List.getElem?_eq_some_iff.1 h).1; omega
  rw [← hx i x h]
  unfold World.cell?
  rw [hb b (ha hl).2]

/-- a line: its struct's block, its map's; what each thread has left -/
structure LineIs (w : World) (top lb mb n : Nat) (f : Int → Value) (own : Int → List Nat) : Prop where
  cell : w.cell? ⟨lb, 0, none⟩ = some (.map (some mb))
  map : MapIs Try.prog 3 w mb n (.slice none 0 0) f
  rows : ∀ p, NumsAt w top (f p) (own p)
  dom : ∀ p, own p ≠ [] → 0 ≤ p ∧ p < 16
  lt1 : lb < top
  lt2 : mb < top

theorem LineIs.ne {w : World} {top lb mb n : Nat} {f : Int → Value} {own : Int → List Nat} (h : LineIs w top lb mb n f own) : lb ≠ mb := by
  intro e
  have h1 := h.map.no_cell ⟨lb, 0, none⟩ e
  rw [h.cell] at h1; cases h1
theorem LineIs.stays {w w' : World} {top lb mb n : Nat} {f : Int → Value} {own : Int → List Nat} (h : LineIs w top lb mb n f own) {B : Nat} (hb : Below B w w') (hB : top ≤ B) : LineIs w' top lb mb n f own :=
  ⟨(hb.cell (p := ⟨lb, 0, none⟩) (Nat.lt_of_lt_of_le h.lt1 hB)).trans h.cell, h.map.below hb (Nat.lt_of_lt_of_le h.lt2 hB), fun p => (h.rows p).stays (fun k hk => hb.block k (Nat.lt_of_lt_of_le hk hB)), h.dom, h.lt1, h.lt2⟩
theorem LineIs.drewN {w : World} {top lb mb n : Nat} {f : Int → Value} {own : Int → List Nat} (h : LineIs w top lb mb n f own) (k : Nat) : LineIs (w.drewN k) top lb mb n f own := ⟨h.cell, h.map.drewN k, h.rows, h.dom, h.lt1, h.lt2⟩
theorem LineIs.drew {w : World} {top lb mb n : Nat} {f : Int → Value} {own : Int → List Nat} (h : LineIs w top lb mb n f own) : LineIs w.drew top lb mb n f own := ⟨h.cell, h.map.drew, h.rows, h.dom, h.lt1, h.lt2⟩

theorem zeroSl (w : World) : (zeroValue 24).run Try.prog w = .ok (.slice none 0 0) w := by kernel_rfl
theorem LineIs.look {w : World} {top lb mb n : Nat} {f : Int → Value} {own : Int → List Nat} (h : LineIs w top lb mb n f own) {p : Int} (hp : -9223372036854775808 ≤ p ∧ p ≤ 9223372036854775807) :
    (Instr.lookup 126 (.map (some mb)) (.int .i64 p) false).run Try.prog w = .ok (f p) w :=
  h.map.look Try.underlying3 Try.underlying126 (zeroSl w) (WalkArith.wf_i64 hp)

theorem now_nilptr (p : Int) (w : World) : Calls Try.prog 53 #[.pointer none, .int .i64 p] w fun e w' => e = .returned (.tuple #[.int .i64 0, .bool false]) ∧ w = w' := by
  go_enter Try.func53, Try.ntmps53
  go_wp2
  go_ret2
  exact ⟨rfl, rfl⟩

theorem now_done {top lb mb n : Nat} {f : Int → Value} {own : Int → List Nat} (p : Int) (w : World) (h : LineIs w top lb mb n f own) (hp : -9223372036854775808 ≤ p ∧ p ≤ 9223372036854775807) (ho : own p = []) :
    Calls Try.prog 53 #[.pointer (some ⟨lb, 0, none⟩), .int .i64 p] w fun e w' => e = .returned (.tuple #[.int .i64 0, .bool false]) ∧ w = w' := by
  have c0 := h.cell
  have hlk := h.look hp
  obtain ⟨ao, b, o, cap, hv, _, _, _, _⟩ := h.rows p
  rw [ho] at hv
  rw [hv] at hlk
  clear hv h
  go_enter Try.func53, Try.ntmps53
  go_wp2
  go_ret2
  exact ⟨rfl, rfl⟩

set_option maxRecDepth 20000 in
theorem now_at {top lb mb n : Nat} {f : Int → Value} {own : Int → List Nat} (p : Int) (w : World) (h : LineIs w top lb mb n f own) (hp : -9223372036854775808 ≤ p ∧ p ≤ 9223372036854775807) {i : Nat} {r : List Nat} (ho : own p = i :: r) :
    Calls Try.prog 53 #[.pointer (some ⟨lb, 0, none⟩), .int .i64 p] w fun e w' => e = .returned (.tuple #[.int .i64 (i : Int), .bool true]) ∧ w = w' := by
  have c0 := h.cell
  have hlk := h.look hp
  obtain ⟨ao, b, o, cap, hv, ha, hc, hm, hx⟩ := h.rows p
  rw [ho] at hv ha hx hc
  rw [hv] at hlk
  obtain ⟨rfl, _⟩ := ha (by simp)
  have c1 := hx 0 i rfl
  rw [Nat.add_zero] at c1
  obtain ⟨m, hml, hm0⟩ : ∃ m, (i :: r).length = m ∧ 0 < m := ⟨_, rfl, by simp⟩
  rw [hml] at hc hlk
  have hr : m ≤ 9223372036854775807 := by omega
  clear hv h ha hx hml ho hc hm
  go_enter Try.func53, Try.ntmps53
  have i1 : (0 : Int) < (m : Int) := by omega
  go_wp2
  go_ret2
  exact ⟨rfl, rfl⟩

/-- calls lie in a row -/
structure CallV where
  t : Int
  o : Int
  k : Int
  a : Nat
  b : Nat
  c : Nat
def CallsAt (w : World) (b o : Nat) (l : List CallV) : Prop :=
  ∀ (i : Nat) (x : CallV), l[i]? = some x → w.cell? ⟨b, o + i * 6, none⟩ = some (.int .i64 x.t) ∧ w.cell? ⟨b, o + i * 6 + 1, none⟩ = some (.int .i64 x.o) ∧ w.cell? ⟨b, o + i * 6 + 2, none⟩ = some (.int .i64 x.k) ∧
    w.cell? ⟨b, o + i * 6 + 3, none⟩ = some (.int .u64 (x.a : Int)) ∧ w.cell? ⟨b, o + i * 6 + 4, none⟩ = some (.int .u64 (x.b : Int)) ∧ w.cell? ⟨b, o + i * 6 + 5, none⟩ = some (.int .u64 (x.c : Int)) ∧
    (-9223372036854775808 ≤ x.t ∧ x.t ≤ 9223372036854775807) ∧ (-9223372036854775808 ≤ x.o ∧ x.o ≤ 9223372036854775807) ∧ (-9223372036854775808 ≤ x.k ∧ x.k ≤ 9223372036854775807) ∧ x.a < 18446744073709551616 ∧ x.b < 18446744073709551616 ∧ x.c < 18446744073709551616
theorem CallsAt.stays {w wr : World} {b o B : Nat} {l : List CallV} (h : CallsAt w b o l) (hb : Below B w wr) (hB : 0 < l.length → b < B) : CallsAt wr b o l := by
  intro i x hx
  have hl : 0 < l.length := by have := (List.getElem?_eq_some_iff.1 hx).1; omega
  obtain ⟨h1, h2, h3, h4, h5, h6, h7⟩ := h i x hx
  have e := fun o => hb.cell (p := ⟨b, o, none⟩) (hB hl)
  exact ⟨(e _).trans h1, (e _).trans h2, (e _).trans h3, (e _).trans h4, (e _).trans h5, (e _).trans h6, h7⟩
def thr (l : List CallV) : List Int := l.map CallV.t
theorem thr_get {l : List CallV} {i : Nat} {x : CallV} (h : l[i]? = some x) : (thr l)[i]? = some x.t := by unfold thr; rw [List.getElem?_map, h]; rfl
theorem thr_len (l : List CallV) : (thr l).length = l.length := by unfold thr; simp

/-- bools lie in a row -/
def BoolsAt (w : World) (b o : Nat) (l : List Bool) : Prop := ∀ (i : Nat) (x : Bool), l[i]? = some x → w.cell? ⟨b, o + i, none⟩ = some (.bool x)

theorem nowI_some {ts : List Int} {fin : List Bool} {p : Int} {i : Nat} (h : nowOf ts fin p = some i) : nowI ts fin p = i := by unfold nowI; rw [h]
theorem nowI_none {ts : List Int} {fin : List Bool} {p : Int} (h : nowOf ts fin p = none) : nowI ts fin p = -1 := by unfold nowI; rw [h]

end
section
open Go.RowKit

theorem NumsAt.staysBut {w w' : World} {top mb : Nat} {v : Value} {l : List Nat} (h : NumsAt w top v l) (hm : ∀ p : Addr, p.block = mb → w.cell? p = none) (hb : ∀ k, k < top → k ≠ mb → w'.heap[k]? = w.heap[k]?) : NumsAt w' top v l := by
  obtain ⟨ao, b, o, cap, rfl, ha, hc, hcm, hx⟩ := h
  refine ⟨ao, b, o, cap, rfl, ha, hc, hcm, fun i x h => ?_⟩
  have hl : 0 < l.length := by have := (List.getElem?_eq_some_iff.1 h).1; omega
  have hc0 := hx i x h
  rw [← hc0]
  have hne : b ≠ mb := by
    intro e
    rw [hm ⟨b, o + i, none⟩ e] at hc0
    cases hc0
  unfold World.cell?
  rw [hb b (ha hl).2 hne]

theorem LineIs.stored {w w' : World} {top lb mb n : Nat} {f : Int → Value} {own : Int → List Nat} (h : LineIs w top lb mb n f own) {p : Int} {v : Value} {r : List Nat} (hM : MapIs Try.prog 3 w' mb (n + 1) (.slice none 0 0) (updF f p v))
    (hp : 0 ≤ p ∧ p < 16) (hb : ∀ k, k < w.heap.size → k ≠ mb → w'.heap[k]? = w.heap[k]?) (ht : top ≤ w.heap.size) (hv : NumsAt w top v r) : LineIs w' top lb mb (n + 1) (updF f p v) (updF own p r) := by
  have hb' : ∀ k, k < top → k ≠ mb → w'.heap[k]? = w.heap[k]? := fun k hk => hb k (Nat.lt_of_lt_of_le hk ht)
  refine ⟨?_, hM, fun q => ?_, fun q hq => ?_, h.lt1, h.lt2⟩
  · have := h.cell
    unfold World.cell? at this ⊢
    rw [hb' lb h.lt1 h.ne]
    exact this
  · by_cases hq : q = p
    · subst hq
      rw [updF_same, updF_same]
      exact hv.staysBut (fun p hp => h.map.no_cell p hp) hb'
    · rw [updF_other _ _ hq, updF_other _ _ hq]
      exact (h.rows q).staysBut (fun p hp => h.map.no_cell p hp) hb'
  · by_cases hqp : q = p
    · subst hqp; exact hp
    · rw [updF_other _ _ hqp] at hq; exact h.dom q hq

theorem finish_nil (p : Int) (w : World) : Calls Try.prog 56 #[.pointer none, .int .i64 p] w fun e w' => e = .returned (.int .i64 2) ∧ w = w' := by
  go_enter Try.func56, Try.ntmps56
  go_wp2
  go_ret
  exact ⟨rfl, rfl⟩

theorem finish_done {top lb mb n : Nat} {f : Int → Value} {own : Int → List Nat} (p : Int) (w : World) (h : LineIs w top lb mb n f own) (hp : -9223372036854775808 ≤ p ∧ p ≤ 9223372036854775807) (ho : own p = []) :
    Calls Try.prog 56 #[.pointer (some ⟨lb, 0, none⟩), .int .i64 p] w fun e w' => e = .returned (.int .i64 8) ∧ w = w' := by
  have H := Lib.hid h
  clear h
  go_enter Try.func56, Try.ntmps56
  go_wp2_with fail
  refine (now_done p _ H.out hp ho).mono ?_
  rintro e w1 ⟨rfl, rfl⟩
  go_wp2_with fail
  go_ret
  exact ⟨rfl, rfl⟩

theorem stores {w : World} {mb n : Nat} {f : Int → Value} (h : MapIs Try.prog 3 w mb n (.slice none 0 0) f) (hn : n < maxLen) {p : Int} (hp : 0 ≤ p ∧ p < 16) :
    ∃ g : Value → World, (∀ v, (Instr.mapUpdate 126 (.map (some mb)) (.int .i64 p) v).run Try.prog w = .ok () (g v)) ∧ ∀ v, MapIs Try.prog 3 (g v) mb (n + 1) (.slice none 0 0) (updF f p v) ∧ w.mapTurned (g v) mb :=
  ⟨fun v => Classical.choose (h.store Try.underlying3 Try.underlying126 hn hp v), fun v => (Classical.choose_spec (h.store Try.underlying3 Try.underlying126 hn hp v)).1,
    fun v => (Classical.choose_spec (h.store Try.underlying3 Try.underlying126 hn hp v)).2⟩

set_option maxRecDepth 20000 in
set_option maxHeartbeats 1000000 in
theorem finish_at {top lb mb n : Nat} {f : Int → Value} {own : Int → List Nat} (p : Int) (w : World) (h : LineIs w top lb mb n f own) (ht : top ≤ w.heap.size) (hn : n < maxLen) {i : Nat} {r : List Nat} (ho : own p = i :: r) :
    Calls Try.prog 56 #[.pointer (some ⟨lb, 0, none⟩), .int .i64 p] w fun e w' => e = .returned (.int .i64 0) ∧ (∃ f', LineIs w' top lb mb (n + 1) f' (updF own p r)) ∧ But mb mb w w' := by
  have hpr := h.dom p (by rw [ho]; simp)
  have hp : -9223372036854775808 ≤ p ∧ p ≤ 9223372036854775807 := by omega
  have H := Lib.hid h
  have HO := Lib.hid ho
  have c0 := h.drew.cell
  have hlk := h.drew.look hp
  obtain ⟨g, hst, hg⟩ := stores h.map.drew hn hpr
  have HG := Lib.hid hg
  obtain ⟨ao, b, o, cap, hv, ha, hc, hm, hx⟩ := h.rows p
  rw [ho] at hv ha hx hc
  rw [hv] at hlk
  obtain ⟨rfl, hbt⟩ := ha (by simp)
  obtain ⟨m, hml, hm0⟩ : ∃ m, (i :: r).length = m ∧ 0 < m := ⟨_, rfl, by simp⟩
  have HX : Hid (∀ (j x : Nat), r[j]? = some x → w.cell? ⟨b, o + (j + 1), none⟩ = some (.int .i64 (x : Int))) := Lib.hid (fun j x hj => hx (j + 1) x (by simpa using hj))
  have HML : Hid (r.length + 1 = m) := Lib.hid (by rw [← hml]; simp)
  rw [hml] at hc hlk
  have hr : m ≤ 9223372036854775807 := by omega
  have i1 : (0 : Int) < (m : Int) := by omega
  have i2 : (1 : Int) ≤ (m : Int) := by omega
  have i3 : (m : Int) ≤ (cap : Int) := by omega
  have i4 : (1 : Int) ≤ (cap : Int) := by omega
  clear hv h ha hx hml ho hg
  go_enter Try.func56, Try.ntmps56
  go_wp2_with fail
  refine (now_at p _ H.out hp HO.out).mono ?_
  rintro e w1 ⟨rfl, rfl⟩
  go_wp2_with fail
  go_region
  generalize hvv : Value.slice (if cap = 1 then some { block := b, off := o } else some { block := b, off := o + 1 }) (m - 1) (cap - 1) = vv
  have HVV := Lib.hid hvv
  clear hvv
  go_wp2
  go_ret
  obtain ⟨hM, hT⟩ := HG.out vv
  have hgr := hT.grown
  have e1 : r.length = m - 1 := by have := HML.out; omega
  refine ⟨rfl, ⟨_, H.out.stored hM hpr (fun k hk hne => hgr.block k hk (by simp [hne])) ht ?_⟩, ⟨hgr.os, hgr.tape, hgr.output, hgr.size, fun k hk hne _ => hgr.block k hk (by simp [hne])⟩⟩
  refine ⟨_, b, o + 1, cap - 1, by rw [← HVV.out, e1], fun h0 => ⟨by rw [if_neg (by omega)], hbt⟩, by omega, by omega, fun j x hj => ?_⟩
  rw [Nat.add_assoc, Nat.add_comm 1 j]
  exact HX.out j x hj

/-- how many calls a line has left -/
def leftOf' (own : Int → List Nat) : Nat := sumN 16 (fun p => (own p).length)
def leftSum (own : Int → List Nat) (left : Int → Bool) : Nat := sumN 16 (fun a => if left a then (own a).length else 0)
theorem leftSum_all {own : Int → List Nat} {left : Int → Bool} (h : ∀ a, left a = false → own a = []) : leftSum own left = leftOf' own := by
  unfold leftSum leftOf'
  apply sumN_congr
  intro a _ _
  cases hl : left a with
  | true => simp
  | false => simp [h a hl]
theorem leftSum_none {own : Int → List Nat} {left : Int → Bool} (h : ∀ a, left a = false) : leftSum own left = 0 := by
  unfold leftSum
  rw [sumN_congr (h := fun _ => 0) (fun a _ _ => by simp [h a])]
  exact sumN_zero 16
theorem leftSum_upd {own : Int → List Nat} {left : Int → Bool} {a : Int} (h0 : 0 ≤ a ∧ a < 16) (h : left a = true) : leftSum own (updF left a false) + (own a).length = leftSum own left := by
  unfold leftSum
  have e : (fun x => if updF left a false x = true then (own x).length else 0) = updF (fun x => if left x = true then (own x).length else 0) a 0 := by
    funext x
    by_cases hx : x = a
    · subst hx; rw [updF_same, updF_same]; simp
    · rw [updF_other _ _ hx, updF_other _ _ hx]
  rw [e]
  have := sumN_upd (g := fun x => if left x = true then (own x).length else 0) h0.1 h0.2 0
  simp only [h, if_true] at this
  omega

end
section
open Go.RowKit

/-- append of one number, where it must be known in which block what comes of it lies -/
theorem step_append_at {P : Program} {w : World} {ops : Array Oper} {o : Oper} {a : Act} {K : Act → World → Prop} {Q : Exit → Act → World → Prop} {E : Prop} (hgd : o.guard = none) (s x : Operand) (t : TypeId)
    (ho : o.op = .call { callee := .builtin .append, args := #[s, x], argTypes := #[t, t] })
    (base : Nat) (e : TypeId) (i : TypeInfo) (z : Value) (ht : P.underlying t = some (.slice e)) (hi : P.info? e = some i) (hz : i.zero = some z)
    (hsize : i.size = 1) (hby : i.bytes = 8) (hzs : z.cells.size = 1)
    (v : Value) (n : Nat) (xs : List Value) (hs : a.eval s = v) (hown : w.ownsRow base e 1 v n xs)
    (u : Value) (bx : Nat) (hx : a.eval x = .slice (some ⟨bx, 0, none⟩) 1 1) (hc : w.cell? ⟨bx, 0, none⟩ = some u) (h1 : u.oneCell' = true)
    (hn : n ≤ 4294967296) (hbase : base ≤ w.heap.size)
    (h : ∀ v' w', w'.ownsRow base e 1 v' (n + 1) (xs ++ [u]) → w.grownBy w' v.ownBlock → (v'.ownBlock = v.ownBlock ∨ v'.ownBlock = some w.heap.size) → K (a.put o.dst v') w') :
    if Region.wanted o (yielded ops a.tmps) = true then Oper.wp P o a w K Q else E := by
  have hw : Region.wanted o (yielded ops a.tmps) = true := by simp [Region.wanted, hgd]
  rw [if_pos hw]
  obtain ⟨v', w', hr, h2, h3, _, h5⟩ := run_append_own_at (P := P) w base t o.type e i z 1 8 ht hi hz hsize hby hzs (by omega) v n xs hown ⟨bx, 0, none⟩ 1 1 [u] rfl
    (fun j y hj => by
      match j, hj with
      | 0, hj => simp at hj; subst hj; simpa [Addr.add] using hc) (by simpa using h1) (by unfold maxLen; omega) (by omega) hbase
  unfold Oper.wp execOp
  simp only [ho, resolve, invoke, builtin, Sem.run_bind, Sem.run_pure, Result.andThen_ok, List.map_toArray, List.map_cons, List.map_nil, hs, hx, hr]
  exact h v' w' h2 h3 h5

/-- the rows of a line that is being made: each of its own block -/
def nums (l : List Nat) : List Value := l.map fun x : Nat => Value.int .i64 (x : Int)
theorem nums_len (l : List Nat) : (nums l).length = l.length := by unfold nums; simp
structure RowsIs (w : World) (B : Nat) (f : Int → Value) (own : Int → List Nat) : Prop where
  row : ∀ p, w.ownsRow B 3 1 (f p) (own p).length (nums (own p))
  apart : ∀ p q, p ≠ q → (f p).ownBlock = none ∨ (f p).ownBlock ≠ (f q).ownBlock

theorem RowsIs.kept {w w' : World} {B : Nat} {f : Int → Value} {own : Int → List Nat} (h : RowsIs w B f own) {row : Option Nat} (hg : w.grownBy w' row) (hr : ∀ k, row = some k → k < B ∨ w.heap.size ≤ k) : RowsIs w' B f own := by
  refine ⟨fun p => (h.row p).kept hg ?_, h.apart⟩
  cases hb : (f p).ownBlock with
  | none => exact .inl rfl
  | some g =>
    right
    intro e
    have := (h.row p).lt g hb
    have := hr g e.symm
    omega
theorem RowsIs.alloc {w : World} {B : Nat} {f : Int → Value} {own : Int → List Nat} (h : RowsIs w B f own) (o : Obj) : RowsIs (w.alloc o) B f own := h.kept (World.grownBy_alloc w o none) (fun k hk => by cases hk)
theorem RowsIs.drew {w : World} {B : Nat} {f : Int → Value} {own : Int → List Nat} (h : RowsIs w B f own) : RowsIs w.drew B f own := ⟨h.row, h.apart⟩
theorem below_drew {B : Nat} {a w : World} (h : Below B a w) : Below B a w.drew := ⟨h.os, h.tape, h.output, h.size, h.block⟩
theorem RowsIs.put {w w1 : World} {B : Nat} {f : Int → Value} {own : Int → List Nat} (h : RowsIs w B f own) {p : Int} {v : Value} {i : Nat} (hg : w.grownBy w1 (f p).ownBlock) (hv : w1.ownsRow B 3 1 v ((own p).length + 1) (nums (own p) ++ [.int .i64 (i : Int)]))
    (hb : v.ownBlock = (f p).ownBlock ∨ v.ownBlock = some w.heap.size) : RowsIs w1 B (updF f p v) (updF own p (own p ++ [i])) := by
  have hq : ∀ q, q ≠ p → (f q).ownBlock = none ∨ (f q).ownBlock ≠ v.ownBlock := by
    intro q hq
    rcases hb with hb | hb
    · rw [hb]; exact h.apart q p hq
    · cases hg : (f q).ownBlock with
      | none => exact .inl rfl
      | some g =>
        right
        intro e
        rw [hb] at e
        cases e
        have := ((h.row q).lt _ hg).2
        omega
  refine ⟨fun q => ?_, fun q r hqr => ?_⟩
  · by_cases hqp : q = p
    · subst hqp
      rw [updF_same, updF_same]
      have e : nums (own q ++ [i]) = nums (own q) ++ [.int .i64 (i : Int)] := by unfold nums; simp
      rw [e, List.length_append]
      exact hv
    · rw [updF_other _ _ hqp, updF_other _ _ hqp]
      exact (h.row q).kept hg (h.apart q p hqp)
  · by_cases hqp : q = p
    · subst hqp
      rw [updF_same, updF_other _ _ (fun e => hqr e.symm)]
      rcases hq r (fun e => hqr e.symm) with h1 | h1
      · cases hv' : v.ownBlock with
        | none => exact .inl rfl
        | some g => right; rw [h1]; exact fun e => by cases e
      · exact .inr (fun e => h1 e.symm)
    · rw [updF_other _ _ hqp]
      by_cases hrp : r = p
      · subst hrp; rw [updF_same]; exact hq q hqp
      · rw [updF_other _ _ hrp]; exact h.apart q r hqr

theorem RowsIs.nums {w : World} {B top : Nat} {f : Int → Value} {own : Int → List Nat} (h : RowsIs w B f own) (ht : w.heap.size ≤ top) (p : Int) : NumsAt w top (f p) (own p) := by
  have hrow := h.row p
  obtain ⟨_, ⟨hv, h0⟩ | ⟨g, cap, cur, hv, hg, hh, hc, hm, hs, htk⟩⟩ := hrow
  · rw [hv, List.eq_nil_of_length_eq_zero h0]; exact NumsAt.nil _ _
  · have hcell := World.ownsRow.cells (g := g) (h.row p) (by rw [hv]; rfl)
    refine ⟨_, g, 0, cap, hv, fun _ => ⟨rfl, ?_⟩, hc, by unfold maxLen at hm; omega, fun i x hx => ?_⟩
    · have := ((h.row p).lt g (by rw [hv]; rfl)).2
      omega
    · have := hcell i (.int .i64 (x : Int)) (by unfold Go.Proofs.Ytpoebpnmbogmnaa.nums; rw [List.getElem?_map, hx]; rfl)
      rw [addr_add _ i g 0 rfl] at this
      exact this

/-- what New gives -/
def LinePost (n : Int) (cs : List CallV) (w : World) (e : Ending) (w' : World) : Prop :=
  (wrongL n (thr cs) ≠ 0 → e = .returned (.tuple #[.pointer none, .int .i64 (wrongL n (thr cs) : Nat)])) ∧
  (wrongL n (thr cs) = 0 → ∃ lb mb f, e = .returned (.tuple #[.pointer (some ⟨lb, 0, none⟩), .int .i64 0]) ∧ w.heap.size ≤ lb ∧ w.heap.size ≤ mb ∧ LineIs w' w'.heap.size lb mb cs.length f (ownL (thr cs) (List.replicate cs.length false))) ∧ Below w.heap.size w w'

theorem new_wrong {n : Int} {cs : List CallV} {w w' : World} {k : Nat} (h : wrongL n (thr cs) = k) (hk : k ≠ 0) (hb : Below w.heap.size w w') : LinePost n cs w (.returned (.tuple #[.pointer none, .int .i64 (k : Nat)])) w' :=
  ⟨fun _ => by rw [h], fun h0 => absurd (h.symm.trans h0) hk, hb⟩

theorem infoIu : (Try.prog.info? 3).map (fun i => (i.zero, i.size, i.bytes)) = some (some (.int .i64 0), 1, 8) := by kernel_rfl

set_option maxRecDepth 20000 in
set_option maxHeartbeats 2000000 in
theorem new_any (n : Int) (ao : Option Addr) (b o cap : Nat) (cs : List CallV) (w : World) (ha : 0 < cs.length → ao = some ⟨b, o, none⟩) (hb : 0 < cs.length → b < w.heap.size) (hc : CallsAt w b o cs) :
    Calls Try.prog 49 #[.int .i64 n, .slice ao cs.length cap] w (LinePost n cs w) := by
  have HC := Lib.hid hc
  have HA := Lib.hid ha
  have HB := Lib.hid hb
  clear hc ha hb
  by_cases hn : n < 1 ∨ 16 < n
  · have HR := Lib.hid (wrongL_n (ts := thr cs) hn)
    have HE := Lib.hid (new_wrong (w := w) HR.out (by omega) (Below.refl _ _))
    go_enter Try.func49, Try.ntmps49
    by_cases h1 : n < 1
    · go_wp2
      go_ret2
      exact HE.out
    · have h2 : 16 < n := by omega
      go_wp2
      go_ret2
      exact HE.out
  · have h1 : ¬ n < 1 := by omega
    have h2 : ¬ 16 < n := by omega
    have HN := Lib.hid hn
    clear hn
    by_cases h3 : 1000 < cs.length
    · have HR := Lib.hid (wrongL_long HN.out (ts := thr cs) (by rw [thr_len]; exact h3))
      have HE := Lib.hid (new_wrong (w := w) HR.out (by omega) (Below.refl _ _))
      go_enter Try.func49, Try.ntmps49
      go_wp2
      go_ret2
      exact HE.out
    · obtain ⟨iI, ia, ib, ic, id⟩ := info_parts infoIu
      have hmm := @run_makeMap Try.prog
      go_enter Try.func49, Try.ntmps49
      go_wp2
      go_loopw [21] (fun k wr => ∃ (j : Nat) (f : Int → Value), j ≤ cs.length ∧ k = .int .i64 j ∧ Hid (∀ (i : Nat) (x : CallV), i < j → cs[i]? = some x → 0 ≤ x.t ∧ x.t < n) ∧ Hid (MapIs Try.prog 3 wr w.heap.size j (.slice none 0 0) f) ∧
        Hid (RowsIs wr (w.heap.size + 1) f (ownU (thr cs) j)) ∧ Hid (Below w.heap.size w wr) ∧ w.heap.size + 1 ≤ wr.heap.size) (fun k _ => cs.length - (intOf k).toNat)
      case atStart => exact ⟨0, fun _ => .slice none 0 0, Nat.zero_le _, rfl, Lib.hid (fun i x h => absurd h (by omega)), Lib.hid (MapIs.made _ _ _ _), Lib.hid ⟨fun p => World.ownsRow_nil _ _ _ _, fun p q _ => .inl rfl⟩, Lib.hid ((Below.refl _ _).alloc (Nat.le_refl _) _), by simp⟩
      case round =>
        obtain ⟨j, f, hj, rfl, hp, hM, hRw, hBl, hsz⟩ := hrel
        by_cases hlt : j < cs.length
        · obtain rfl := HA.out (by omega)
          obtain ⟨x, hx⟩ : ∃ x, cs[j]? = some x := ⟨cs[j], List.getElem?_eq_getElem (by omega)⟩
          obtain ⟨c0, c1, c2, c3, c4, c5, hxt, _⟩ := (HC.out.stays hBl.out HB.out) j _ hx
          have HX := Lib.hid hx
          clear hx
          by_cases h4 : x.t < 0
          · have HR := Lib.hid (wrongL_bad HN.out (ts := thr cs) (by rw [thr_len]; exact h3) (thr_get HX.out) (.inl h4))
            go_wp2
            go_ret2
            exact new_wrong (k := 1) HR.out (by decide) (hBl.out.alloc (by omega) _)
          · by_cases h5 : n ≤ x.t
            · have HR := Lib.hid (wrongL_bad HN.out (ts := thr cs) (by rw [thr_len]; exact h3) (thr_get HX.out) (.inr h5))
              go_wp2
              go_ret2
              exact new_wrong (k := 1) HR.out (by decide) (hBl.out.alloc (by omega) _)
            · have HP : Hid (∀ (i : Nat) (x : CallV), i < j + 1 → cs[i]? = some x → 0 ≤ x.t ∧ x.t < n) := Lib.hid (fun i y hi hy => by
                by_cases he : i = j
                · subst he
                  rw [HX.out] at hy
                  cases hy
                  omega
                · exact hp.out i y (by omega) hy)
              have hxt0 : 0 ≤ x.t ∧ x.t < 16 := by omega
              go_wp2
              have HMa : Hid (MapIs Try.prog 3 (wr.alloc (.cells #[.int .i64 x.t, .int .i64 x.o, .int .i64 x.k, .int .u64 x.a, .int .u64 x.b, .int .u64 x.c] 43)) w.heap.size j (.slice none 0 0) f) := Lib.hid (hM.out.alloc _)
              have HRa : Hid (RowsIs (wr.alloc (.cells #[.int .i64 x.t, .int .i64 x.o, .int .i64 x.k, .int .u64 x.a, .int .u64 x.b, .int .u64 x.c] 43)) (w.heap.size + 1) f (ownU (thr cs) j)) := Lib.hid (hRw.out.alloc _)
              have HBa : Hid (Below w.heap.size w (wr.alloc (.cells #[.int .i64 x.t, .int .i64 x.o, .int .i64 x.k, .int .u64 x.a, .int .u64 x.b, .int .u64 x.c] 43))) := Lib.hid (hBl.out.alloc (by omega) _)
              have hcx : (wr.alloc (.cells #[.int .i64 x.t, .int .i64 x.o, .int .i64 x.k, .int .u64 x.a, .int .u64 x.b, .int .u64 x.c] 43)).drew.cell? ⟨wr.heap.size, 0, none⟩ = some (.int .i64 x.t) := by
                show (wr.alloc _).cell? _ = _
                rw [World.cell?_alloc_at _ _ _ _ rfl]; rfl
              have hsa : w.heap.size + 1 ≤ (wr.alloc (.cells #[.int .i64 x.t, .int .i64 x.o, .int .i64 x.k, .int .u64 x.a, .int .u64 x.b, .int .u64 x.c] 43)).heap.size := by simp; omega
              have hsb : wr.heap.size < (wr.alloc (.cells #[.int .i64 x.t, .int .i64 x.o, .int .i64 x.k, .int .u64 x.a, .int .u64 x.b, .int .u64 x.c] 43)).heap.size := by simp
              have HFB : Hid (∀ g, (f x.t).ownBlock = some g → g < wr.heap.size) := Lib.hid (fun g hg => ((hRw.out.row x.t).lt g hg).2)
              clear c0 c1 c2 c3 c4 c5 hM hRw hBl hsz
              generalize wr.alloc (.cells #[.int .i64 x.t, .int .i64 x.o, .int .i64 x.k, .int .u64 x.a, .int .u64 x.b, .int .u64 x.c] 43) = W1 at HMa HRa HBa hcx hsa hsb ⊢
              have hcx0 : W1.cell? ⟨wr.heap.size, 0, none⟩ = some (.int .i64 x.t) := hcx
              have hlk1 := HMa.out.drew.look (t := 126) (e := 24) (a := x.t) Try.underlying3 Try.underlying126 (zeroSl _) (WalkArith.wf_i64 hxt)
              have HMb : Hid (MapIs Try.prog 3 (W1.alloc (.cells #[.int .i64 (j : Int)] 3)).drew w.heap.size j (.slice none 0 0) f) := Lib.hid (HMa.out.alloc _).drew
              have hlk2 := HMb.out.look (t := 126) (e := 24) (a := x.t) Try.underlying3 Try.underlying126 (zeroSl _) (WalkArith.wf_i64 hxt)
              have HRb : Hid (RowsIs (W1.alloc (.cells #[.int .i64 (j : Int)] 3)).drew (w.heap.size + 1) f (ownU (thr cs) j)) := Lib.hid (HRa.out.alloc _).drew
              have HBb : Hid (Below w.heap.size w (W1.alloc (.cells #[.int .i64 (j : Int)] 3)).drew) := Lib.hid (below_drew (HBa.out.alloc (by omega) _))
              have hcb : (W1.alloc (.cells #[.int .i64 (j : Int)] 3)).drew.cell? ⟨W1.heap.size, 0, none⟩ = some (.int .i64 (j : Int)) := by
                show (W1.alloc _).cell? _ = _
                rw [World.cell?_alloc_at _ _ _ _ rfl]; rfl
              have hsc : w.heap.size + 1 ≤ (W1.alloc (.cells #[.int .i64 (j : Int)] 3)).drew.heap.size := by
                show w.heap.size + 1 ≤ (W1.alloc _).heap.size
                simp; omega
              have HU := Lib.hid (ownU_succ (thr_get HX.out))
              have hol : (ownU (thr cs) j x.t).length ≤ 4294967296 := by have := ownU_len (thr cs) j x.t; omega
              have hjm : j < maxLen := by unfold maxLen; omega
              go_region_law (refine step_append_at rfl _ _ 24 rfl (w.heap.size + 1) 3 iI (.int .i64 0) Try.underlying24 ia ib ic id rfl (f x.t) _ _ rfl (HRb.out.row x.t) (.int .i64 (j : Int)) W1.heap.size rfl hcb rfl hol hsc ?_
                             intro v1 w1 ho1 hg1 hl1
                             have hcx1 : w1.cell? ⟨wr.heap.size, 0, none⟩ = some (.int .i64 x.t) := by
                               have e0 : (W1.alloc (.cells #[.int .i64 (j : Int)] 3)).drew.cell? ⟨wr.heap.size, 0, none⟩ = some (.int .i64 x.t) := by
                                 show (W1.alloc _).cell? _ = _
                                 rw [World.cell?_alloc_past _ _ _ hsb]; exact hcx0
                               rw [← e0]
                               unfold World.cell?
                               rw [hg1.block wr.heap.size (by show wr.heap.size < (W1.alloc _).heap.size; simp; omega) (fun e => by have := HFB.out _ e.symm; omega)]
                             obtain ⟨w2, hst, hM2, hT2⟩ := MapIs.store (HMb.out.kept hg1 (fun e => by have := ((HRb.out.row x.t).lt _ e.symm).1; omega)) (t := 126) (e := 24) Try.underlying3 Try.underlying126 hjm hxt0 v1)
              all_goals
                have HM3 := Lib.hid hM2
                have HR3 : Hid (RowsIs w2 (w.heap.size + 1) (updF f x.t v1) (ownU (thr cs) (j + 1))) := Lib.hid (by
                  rw [HU.out]
                  exact (HRb.out.put hg1 ho1 hl1).kept hT2.grown (fun k hk => by cases hk; omega))
                have hs1 := hg1.size
                have hs2 := hT2.grown.size
                have HB3 : Hid (Below w.heap.size w w2) := Lib.hid ((HBb.out.grown hg1 (by omega) (fun k hk => by have := ((HRb.out.row x.t).lt _ hk).1; omega)).grown hT2.grown (by omega) (fun k hk => by cases hk; omega))
                have hs3 : w.heap.size + 1 ≤ w2.heap.size := by omega
                clear hM2 ho1 hg1 hl1 hT2 hst hs1 hs2 hlk1 hlk2 hcb hsc hcx hcx0 hsa hsb hcx1
                go_wp2
                go_roundw
                case rel => exact ⟨j + 1, updF f x.t v1, by omega, by go_num, HP, HM3, HR3, HB3, hs3⟩
                case measure => simp [intOf]; omega
        · have : j = cs.length := by omega
          subst this
          have HR := Lib.hid (wrongL_ok HN.out (ts := thr cs) (by rw [thr_len]; exact h3) (fun t ht => by
            unfold thr at ht
            obtain ⟨x, hx, rfl⟩ := List.mem_map.1 ht
            obtain ⟨i, hi⟩ := List.mem_iff_getElem?.1 hx
            exact hp.out i x (List.getElem?_eq_some_iff.1 hi).1 hi))
          have HM4 := Lib.hid (hM.out.alloc (.cells #[.map (some w.heap.size)] 128))
          have HR4 := Lib.hid (hRw.out.alloc (.cells #[.map (some w.heap.size)] 128))
          have HB4 := Lib.hid (hBl.out.alloc (by omega) (.cells #[.map (some w.heap.size)] 128))
          have HTS : Hid (∀ t ∈ thr cs, 0 ≤ t ∧ t < n) := Lib.hid (wrongL_inv HR.out).2.2
          go_wp2
          go_ret2
          refine ⟨fun h => absurd HR.out h, fun _ => ⟨wr.heap.size, w.heap.size, f, rfl, by omega, Nat.le_refl _, ⟨?_, HM4.out, fun p => ?_, fun p hp => ?_, by simp, by simp; omega⟩⟩, HB4.out⟩
          · rw [World.cell?_alloc_at _ _ _ _ rfl]; rfl
          · have := HR4.out.nums (Nat.le_refl _) p
            rw [← thr_len, ownU_all, thr_len] at this
            exact this
          · rw [← thr_len, ← ownU_all] at hp
            obtain ⟨i, hi⟩ := List.exists_mem_of_ne_nil _ hp
            unfold ownU at hi
            rw [List.mem_filter, beq_iff_eq] at hi
            have := HTS.out p (List.mem_of_getElem? hi.2)
            omega
end
section
open Go.RowKit

/-- block g has just these cells -/
def RowBlk (t : TypeId) (w : World) (g : Nat) (vs : List Value) : Prop := w.heap[g]? = some (.cells vs.toArray t (0, 0))
section
variable {t : TypeId} {w w' : World} {g i : Nat} {vs : List Value} {v : Value}
theorem RowBlk.cell (h : RowBlk t w g vs) (hi : vs[i]? = some v) : w.cell? ⟨g, i, none⟩ = some v := by
  rw [cell_of_row w g i vs.toArray _ (0, 0) h]; simpa using hi
theorem RowBlk.free (h : RowBlk t w g vs) : w.frozen? ⟨g, i, none⟩ = false := by
  unfold RowBlk at h; simp [World.frozen?, h]
theorem RowBlk.put (h : RowBlk t w g vs) (i : Nat) (v : Value) : RowBlk t (w.setCell ⟨g, i, none⟩ v) g (vs.set i v) := by
  unfold RowBlk at h ⊢; simp [World.setCell, Array.getElem?_modify, h]
theorem RowBlk.lt (h : RowBlk t w g vs) : g < w.heap.size := blk_lt h
theorem RowBlk.same (h : RowBlk t w g vs) (e : w'.heap[g]? = w.heap[g]?) : RowBlk t w' g vs := e.trans h
theorem RowBlk.alloc (h : RowBlk t w g vs) (o : Obj) : RowBlk t (w.alloc o) g vs := h.same (Below.heap_alloc _ _ _ h.lt)
theorem RowBlk.drew (h : RowBlk t w g vs) : RowBlk t w.drew g vs := h
theorem RowBlk.drewN (h : RowBlk t w g vs) (n : Nat) : RowBlk t (w.drewN n) g vs := h
theorem RowBlk.other (h : RowBlk t w g vs) {a : Addr} (ha : g ≠ a.block) (v : Value) : RowBlk t (w.setCell a v) g vs := h.same (Below.heap_setCell _ _ _ _ ha)
theorem RowBlk.new (w : World) (vs : List Value) (t : TypeId) : RowBlk t (w.alloc (.cells vs.toArray t)) w.heap.size vs := heap_alloc_new w _
end
theorem owns_mono {w : World} {B B' : Nat} {e : TypeId} {s n : Nat} {v : Value} {xs : List Value} (h : w.ownsRow B e s v n xs) (hB : B' ≤ B) : w.ownsRow B' e s v n xs := by
  obtain ⟨h1, h2 | ⟨g, cap, cur, hv, hg, r⟩⟩ := h
  · exact ⟨h1, .inl h2⟩
  · exact ⟨h1, .inr ⟨g, cap, cur, hv, Nat.le_trans hB hg, r⟩⟩
theorem owns_set {w : World} {B : Nat} {e : TypeId} {s n : Nat} {v : Value} {xs : List Value} (h : w.ownsRow B e s v n xs) {a : Addr} (ha : a.block < B) (u : Value) : (w.setCell a u).ownsRow B e s v n xs := by
  refine h.kept (row := some a.block) ⟨rfl, rfl, rfl, by simp [World.setCell], fun k hk hne => Below.heap_setCell _ _ _ _ (fun e => hne (by rw [e]))⟩ ?_
  cases hb : v.ownBlock with
  | none => exact .inl rfl
  | some g => right; intro e; cases e; have := (h.lt _ hb).1; omega
theorem below_set {B : Nat} {a w : World} (h : Below B a w) {x : Addr} (hx : B ≤ x.block) (v : Value) : Below B a (w.setCell x v) := h.setCell hx v

theorem infoB : (Try.prog.info? 4).map (fun i => (i.zero, i.size, i.bytes)) = some (some (.bool false), 1, 1) := by kernel_rfl
def boolVs (l : List Bool) : List Value := l.map Value.bool
def intVs (l : List Int) : List Value := l.map (Value.int .i64)
theorem boolVs_get {l : List Bool} {i : Nat} {x : Bool} (h : l[i]? = some x) : (boolVs l)[i]? = some (.bool x) := by unfold boolVs; rw [List.getElem?_map, h]; rfl
theorem intVs_get {l : List Int} {i : Nat} {x : Int} (h : l[i]? = some x) : (intVs l)[i]? = some (.int .i64 x) := by unfold intVs; rw [List.getElem?_map, h]; rfl
theorem boolVs_set (l : List Bool) (i : Nat) (x : Bool) : (boolVs l).set i (.bool x) = boolVs (l.set i x) := by unfold boolVs; rw [List.map_set]
theorem intVs_set (l : List Int) (i : Nat) (x : Int) : (intVs l).set i (.int .i64 x) = intVs (l.set i x) := by unfold intVs; rw [List.map_set]
theorem run_mkI (n : Nat) (hn : n ≤ 4294967296) (w : World) : (Instr.makeSlice 24 (.int .i64 (n : Int)) (.int .i64 (n : Int))).run Try.prog w = .ok (.slice (some ⟨w.heap.size, 0, none⟩) n n) (w.alloc (.cells (intVs (List.replicate n 0)).toArray 3)) := by
  obtain ⟨i0, hi, hz0, hz1, hz2⟩ := info_parts infoIu
  have h := run_make (P := Try.prog) w 24 3 i0 (.int .i64 0) Try.underlying24 hi hz0 .i64 .i64 n n (by omega) (by omega) (by rw [hz2]; omega) (by omega)
  simp only [Int.toNat_natCast] at h
  unfold intVs
  rw [h, hz1, Nat.mul_one, List.map_replicate, ← toList_madeCells_one, Array.toArray_toList]
  rfl
theorem RowBlk.bools {w : World} {g : Nat} {l : List Bool} (h : RowBlk 4 w g (boolVs l)) : BoolsAt w g 0 l := fun i x hx => by rw [Nat.zero_add]; exact h.cell (boolVs_get hx)

/-- a call that only draws keeps what holds whatever is drawn -/
theorem call_quiet {P : Program} {f : FuncId} {args : Array Value} {W : World} {v : Value} {p : World → Prop} (hp : ∀ m, p (W.drewN m)) (c : Calls P f args W fun e w' => e = .returned v ∧ ∃ m, w' = W.drewN m) :
    Calls P f args W fun e w' => e = .returned v ∧ p w' := c.mono fun _ _ ⟨he, m, hm⟩ => ⟨he, hm ▸ hp m⟩
end
end Go.Proofs.Ytpoebpnmbogmnaa
