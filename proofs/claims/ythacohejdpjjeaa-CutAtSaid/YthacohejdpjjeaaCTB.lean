/- Plain: the first event of a call; the ticks of a play. -/
import Derived.Test.YthacohejdpjjeaaU2
import Derived.Test.YthacohejdpjjeaaMA
namespace Go.Proofs.Ythacohejdpjjeaa

/-- the first event of a call -/
def evI (l : List EvX) (c : Int) : Option Nat := l.findIdx? (fun x => decide (x.ca = c))
theorem evI_nil (c : Int) : evI [] c = none := rfl
theorem evI_snoc (l : List EvX) (x : EvX) (c : Int) : evI (l ++ [x]) c = (evI l c).or (if x.ca = c then some l.length else none) := by
  unfold evI
  rw [List.findIdx?_append, List.findIdx?_singleton]
  by_cases h : x.ca = c
  · simp [h]
  · simp [h]
theorem evI_some {l : List EvX} {c : Int} {j : Nat} (h : evI l c = some j) : ∃ x, l[j]? = some x ∧ x.ca = c := by
  unfold evI at h
  rw [List.findIdx?_eq_some_iff_getElem] at h
  obtain ⟨hj, h1, _⟩ := h
  exact ⟨_, List.getElem?_eq_getElem hj, by simpa using h1⟩
theorem evI_first {l : List EvX} {c : Int} {j : Nat} {x : EvX} (hx : l[j]? = some x) (hc : x.ca = c) (h : evI (l.take j) c = none) : evI l c = some j := by
  unfold evI at h ⊢
  rw [List.findIdx?_eq_none_iff] at h
  rw [List.findIdx?_eq_some_iff_getElem]
  obtain ⟨hj, hx⟩ := List.getElem?_eq_some_iff.1 hx
  refine ⟨hj, by rw [hx]; simpa using hc, fun i hi => ?_⟩
  have := h (l[i]'(by omega)) (by rw [List.mem_take_iff_getElem]; exact ⟨i, by omega, rfl⟩)
  simpa using this
def evN (l : List EvX) (c : Int) : Int := match evI l c with | some j => (j : Int) | none => -1
theorem evN_some {l : List EvX} {c : Int} {j : Nat} (h : evI l c = some j) : evN l c = j := by unfold evN; rw [h]
theorem evN_none {l : List EvX} {c : Int} (h : evI l c = none) : evN l c = -1 := by unfold evN; rw [h]
def eX0 : EvX := ⟨0, 0, 0, 0, 0, 0, [], []⟩
def firstT (l : List EvX) (i k : Nat) : Bool := match evI l i with | none => false | some j => decide ((l.getD j eX0).iv = (k : Int))
def lastT (l : List EvX) (i k : Nat) : Bool := match evI l i with | none => false | some j => decide ((l.getD j eX0).rs = (k : Int))
theorem firstT_none {l : List EvX} {i k : Nat} (h : evI l i = none) : firstT l i k = false := by unfold firstT; rw [h]
theorem lastT_none {l : List EvX} {i k : Nat} (h : evI l i = none) : lastT l i k = false := by unfold lastT; rw [h]
theorem firstT_some {l : List EvX} {i k j : Nat} {x : EvX} (h : evI l i = some j) (hx : l[j]? = some x) : firstT l i k = decide (x.iv = (k : Int)) := by
  unfold firstT
  rw [h]
  show decide ((l.getD j eX0).iv = (k : Int)) = _
  rw [List.getD_eq_getElem?_getD, hx]; rfl
theorem lastT_some {l : List EvX} {i k j : Nat} {x : EvX} (h : evI l i = some j) (hx : l[j]? = some x) : lastT l i k = decide (x.rs = (k : Int)) := by
  unfold lastT
  rw [h]
  show decide ((l.getD j eX0).rs = (k : Int)) = _
  rw [List.getD_eq_getElem?_getD, hx]; rfl

/-- the calls that have the ticks, from the picks on -/
def tickGo (ts : List Int) (l : List EvX) : List Int → List Bool → Nat → List Nat
  | [], _, _ => []
  | p :: ps, fin, k => match nowOf ts fin p with
    | none => tickGo ts l ps fin k
    | some i => i :: tickGo ts l ps (if lastT l i (k + 1) = true then fin.set i true else fin) (k + 1)
theorem tickGo_none {ts : List Int} {l : List EvX} {p : Int} {ps : List Int} {fin : List Bool} {k : Nat} (h : nowOf ts fin p = none) : tickGo ts l (p :: ps) fin k = tickGo ts l ps fin k := by rw [tickGo, h]
theorem tickGo_some {ts : List Int} {l : List EvX} {p : Int} {ps : List Int} {fin : List Bool} {k i : Nat} (h : nowOf ts fin p = some i) : tickGo ts l (p :: ps) fin k = i :: tickGo ts l ps (if lastT l i (k + 1) = true then fin.set i true else fin) (k + 1) := by rw [tickGo, h]
def ticksOf (ts : List Int) (l : List EvX) (ps : List Int) : List Nat := tickGo ts l ps (List.replicate ts.length false) 0
theorem tickGo_len (ts : List Int) (l : List EvX) : ∀ (ps : List Int) (fin : List Bool) (k : Nat), (tickGo ts l ps fin k).length ≤ ps.length
  | [], _, _ => Nat.le_refl _
  | p :: ps, fin, k => by
    cases h : nowOf ts fin p with
    | none => rw [tickGo_none h, List.length_cons]; have := tickGo_len ts l ps fin k; omega
    | some i => rw [tickGo_some h, List.length_cons, List.length_cons]; have := tickGo_len ts l ps (if lastT l i (k + 1) = true then fin.set i true else fin) (k + 1); omega
theorem tickGo_lt (ts : List Int) (l : List EvX) : ∀ (ps : List Int) (fin : List Bool) (k : Nat), ∀ i ∈ tickGo ts l ps fin k, i < ts.length
  | [], _, _, i, h => by simp [tickGo] at h
  | p :: ps, fin, k, i, h => by
    cases hn : nowOf ts fin p with
    | none => rw [tickGo_none hn] at h; exact tickGo_lt ts l ps fin k i h
    | some j =>
      rw [tickGo_some hn] at h
      rcases List.mem_cons.1 h with rfl | h
      · exact (now_open hn).1
      · exact tickGo_lt ts l ps _ _ i h

/-- a tick's cells; those of ticks, from a number on -/
def tkVs (ts : List Int) (l : List EvX) (k i : Nat) : List Value := [.int .i64 (ts.getD i 0), .int .i64 (i : Int), .bool (firstT l i (k + 1)), .bool (lastT l i (k + 1))]
def tkRows (ts : List Int) (l : List EvX) : Nat → List Nat → List Value
  | _, [] => []
  | k, i :: r => tkVs ts l k i ++ tkRows ts l (k + 1) r
theorem tkRows_snoc (ts : List Int) (l : List EvX) (i : Nat) : ∀ (acc : List Nat) (k : Nat), tkRows ts l k (acc ++ [i]) = tkRows ts l k acc ++ tkVs ts l (k + acc.length) i
  | [], k => by simp [tkRows]
  | a :: acc, k => by
    rw [List.cons_append, tkRows, tkRows, tkRows_snoc ts l i acc (k + 1), List.append_assoc, List.length_cons, Nat.add_assoc k 1, Nat.add_comm 1]
theorem tkRows_get (ts : List Int) (l : List EvX) : ∀ (acc : List Nat) (k j i : Nat), acc[j]? = some i → ∀ (m : Nat) (u : Value), (tkVs ts l (k + j) i)[m]? = some u → (tkRows ts l k acc)[j * 4 + m]? = some u
  | [], _, _, _, h => by simp at h
  | a :: acc, k, 0, i, h => by
    intro m u hu
    simp at h
    subst h
    have hm : m < 4 := (List.getElem?_eq_some_iff.1 hu).1
    rw [tkRows, Nat.zero_mul, Nat.zero_add, List.getElem?_append_left (by exact hm)]
    exact hu
  | a :: acc, k, j + 1, i, h => by
    intro m u hu
    rw [tkRows, List.getElem?_append_right (by show 4 ≤ _; omega)]
    show (tkRows ts l (k + 1) acc)[(j + 1) * 4 + m - 4]? = _
    rw [show (j + 1) * 4 + m - 4 = j * 4 + m by omega]
    exact tkRows_get ts l acc (k + 1) j i (by simpa using h) m u (by rw [show k + 1 + j = k + (j + 1) by omega]; exact hu)
theorem tkRows_len (ts : List Int) (l : List EvX) : ∀ (acc : List Nat) (k : Nat), (tkRows ts l k acc).length = acc.length * 4
  | [], _ => rfl
  | a :: acc, k => by rw [tkRows, List.length_append, tkRows_len ts l acc (k + 1), List.length_cons, Nat.succ_mul]; show 4 + _ = _; omega

/-- the error of a play -/
def wrongC (n : Int) (ts : List Int) (np : Nat) : Nat := if n < 1 ∨ 16 < n then 1 else if 65536 < np then 3 else wrongL n ts
theorem wrongC_long {n : Int} {ts : List Int} {np : Nat} (h : ¬ (n < 1 ∨ 16 < n)) (h2 : 1000 < ts.length) : wrongC n ts np = 3 := by
  unfold wrongC
  rw [if_neg h]
  split
  · rfl
  · exact wrongL_long h h2
end Go.Proofs.Ythacohejdpjjeaa
