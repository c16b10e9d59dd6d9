/- Lists of words: as arguments, in rows of the call's own; copies of them; that two are the same. -/
import Derived.Test.YtlcnhmijagddgaaChecked
import Derived.Test.YtlcnhmijagddgaaK4
import Derived.Test.YtlcnhmijagddgaaK5
import Derived.Test.YtlcnhmijagddgaaT
import Derived.Deep.QuietTactic
import Derived.BigQuiet
import Derived.Laws.IdiomArrays
import Derived.Laws.AppendOwnNone
import Derived.Laws.OwnMore
namespace Go.Proofs.Ytlcnhmijagddgaa
open Go.ChangeShapes Go.WideShapes Go.ChangeAt Go.RowKit
set_option linter.unusedVariables false

def wU (x : Nat) : Value := .int .u64 (x : Int)
theorem wU_one (l : List Nat) : (l.map wU).all (fun u => u.oneCell') = true := by
  rw [List.all_eq_true]; intro u hu; obtain ⟨x, _, rfl⟩ := List.mem_map.1 hu; rfl
theorem wU_one' (l : List Nat) : ∀ u ∈ l.map wU, u.oneCell' = true := fun u hu => List.all_eq_true.1 (wU_one l) u hu

/-- a slice whose words are l -/
def ArgW (w : World) (v : Value) (l : List Nat) : Prop :=
  ∃ (ao : Option Addr) (b o cap : Nat), v = .slice ao l.length cap ∧ (0 < l.length → ao = some ⟨b, o, none⟩) ∧ (ao = none → cap = 0) ∧ ∀ (i x : Nat), l[i]? = some x → w.cell? ⟨b, o + i, none⟩ = some (wU x)
/-- a slice of the call's own, or nil, whose words are l -/
def OwnW (w : World) (B : Nat) (v : Value) (l : List Nat) : Prop := w.ownsRow B 29 1 v l.length (l.map wU)

theorem ArgW.nil (w : World) : ArgW w (.slice none 0 0) [] := ⟨none, 0, 0, 0, rfl, fun h => absurd h (by simp), fun _ => rfl, fun i x h => by simp at h⟩
theorem ArgW.keep {w w' : World} {v : Value} {l : List Nat} (h : ArgW w v l) (hb : ∀ b, b < w.heap.size → w'.heap[b]? = w.heap[b]?) : ArgW w' v l := by
  obtain ⟨ao, b, o, cap, rfl, h1, h2, h3⟩ := h
  refine ⟨ao, b, o, cap, rfl, h1, h2, fun i x hx => ?_⟩
  have := h3 i x hx
  have hlt := World.block_lt_of_cell? w _ this
  rw [← this]
  unfold World.cell?
  rw [hb b hlt]
theorem ArgW.below {w w' : World} {v : Value} {l : List Nat} (h : ArgW w v l) (hb : Below w.heap.size w w') : ArgW w' v l := h.keep hb.block
theorem ArgW.alloc {w : World} {v : Value} {l : List Nat} (h : ArgW w v l) (o : Obj) : ArgW (w.alloc o) v l := h.keep (fun b hb => Below.heap_alloc w o b hb)
theorem ArgW.drewN {w : World} {v : Value} {l : List Nat} (h : ArgW w v l) (n : Nat) : ArgW (w.drewN n) v l := h
theorem ArgW.drew {w : World} {v : Value} {l : List Nat} (h : ArgW w v l) : ArgW w.drew v l := h
theorem ArgW.isSlice {w : World} {v : Value} {l : List Nat} (h : ArgW w v l) : ∃ ao cap, v = .slice ao l.length cap := by
  obtain ⟨ao, b, o, cap, e, _⟩ := h; exact ⟨ao, cap, e⟩

theorem OwnW.nil (w : World) (B : Nat) : OwnW w B (.slice none 0 0) [] := World.ownsRow_nil w B _ _
theorem OwnW.arg {w : World} {B : Nat} {v : Value} {l : List Nat} (h : OwnW w B v l) : ArgW w v l := by
  have h' := h
  obtain ⟨_, ⟨rfl, h0⟩ | ⟨g, cap, cur, rfl, hg, hb, h1, h2, h3, h4⟩⟩ := h
  · rw [List.length_eq_zero_iff.1 h0]; exact ArgW.nil w
  · refine ⟨_, g, 0, cap, rfl, fun _ => rfl, (fun h => by cases h), fun i x hx => ?_⟩
    have hi := (List.getElem?_eq_some_iff.1 hx).1
    rw [Nat.zero_add, World.ownsRow.cellAt h' i (by omega), List.getElem?_map, hx]; rfl
/-- what a row of the call's own is, where it is not empty -/
theorem OwnW.opened {w : World} {B : Nat} {v : Value} {l : List Nat} (h : OwnW w B v l) (hl : 0 < l.length) :
    ∃ g cap, v = .slice (some ⟨g, 0, none⟩) l.length cap ∧ B ≤ g ∧ g < w.heap.size ∧ (∀ (i x : Nat), l[i]? = some x → w.cell? ⟨g, i, none⟩ = some (.int .u64 (x : Int))) ∧ ∀ i, w.frozen? ⟨g, i, none⟩ = false := by
  have h' := h
  obtain ⟨_, ⟨rfl, h0⟩ | ⟨g, cap, cur, rfl, hg, hb, h1, h2, h3, h4⟩⟩ := h
  · omega
  · refine ⟨g, cap, rfl, hg, blk_lt hb, fun i x hx => ?_, fun i => World.ownsRow.frozenAt h' i⟩
    have hi := (List.getElem?_eq_some_iff.1 hx).1
    rw [World.ownsRow.cellAt h' i (by omega), List.getElem?_map, hx]; rfl
theorem OwnW.stored {w : World} {B g n cap : Nat} {l : List Nat} (h : OwnW w B (.slice (some ⟨g, 0, none⟩) n cap) l) (j x : Nat) : OwnW (w.setCell ⟨g, j, none⟩ (.int .u64 (x : Int))) B (.slice (some ⟨g, 0, none⟩) n cap) (l.set j x) := by
  unfold OwnW at *
  have hn : n = l.length := by
    obtain ⟨_, ⟨h0, _⟩ | ⟨g', cap', cur, h0, _⟩⟩ := h
    · cases h0
    · cases h0; rfl
  subst hn
  have := (World.ownsRow.stored h j (wU x)).1
  rw [List.map_set, List.length_set]
  exact this
theorem OwnW.mono {w : World} {B B' : Nat} {v : Value} {l : List Nat} (h : OwnW w B v l) (hb : B' ≤ B) : OwnW w B' v l := by
  obtain ⟨h0, h1 | ⟨g, cap, cur, hv, hg, r⟩⟩ := h
  · exact ⟨h0, .inl h1⟩
  · exact ⟨h0, .inr ⟨g, cap, cur, hv, by omega, r⟩⟩
theorem OwnW.below {w w' : World} {B : Nat} {v : Value} {l : List Nat} (h : OwnW w B v l) (hb : Below w.heap.size w w') : OwnW w' B v l := owns_below h hb
theorem OwnW.alloc {w : World} {B : Nat} {v : Value} {l : List Nat} (h : OwnW w B v l) (o : Obj) : OwnW (w.alloc o) B v l := World.ownsRow.alloc h o
theorem OwnW.drewN {w : World} {B : Nat} {v : Value} {l : List Nat} (h : OwnW w B v l) (n : Nat) : OwnW (w.drewN n) B v l := h
theorem OwnW.other {w : World} {B : Nat} {v : Value} {l : List Nat} (h : OwnW w B v l) {a : Addr} (u : Value) (ha : v.ownBlock ≠ some a.block) : OwnW (w.setCell a u) B v l := ownsRow_setCell_other h ha u
theorem OwnW.lt {w : World} {B : Nat} {v : Value} {l : List Nat} (h : OwnW w B v l) {a : Addr} (ha : a.block < B) : v.ownBlock ≠ some a.block := fun e => by
  have := (World.ownsRow.lt h _ e).1; omega

/-- append of a whole slice onto an empty one that was just made: a row of the call's own -/
theorem append_fresh_own {P : Program} {w : World} {ops : Array Oper} {rest : List Oper} {o : Oper} {a : Act} {Q : Exit → Act → World → Prop} (hgd : o.guard = none) (s x : Operand) (t : TypeId)
    (ho : o.op = .call { callee := .builtin .append, args := #[s, x], argTypes := #[t, t] })
    (e : TypeId) (i : TypeInfo) (z : Value) (bytes : Nat) (ht : P.underlying t = some (.slice e)) (hi : P.info? e = some i) (hz : i.zero = some z)
    (hsize : i.size = 1) (hby : i.bytes = bytes) (hzs : z.cells.size = 1) (hbs : bytes ≤ 4096)
    (g0 : Nat) (hg0 : g0 = w.heap.size) (hs : a.eval s = .slice (some ⟨g0, 0, none⟩) 0 0) (ao : Option Addr) (b off cap n : Nat) (us : List Value) (hx : a.eval x = .slice ao n cap) (hn : us.length = n)
    (ha : 0 < n → ao = some ⟨b, off, none⟩) (hc : ∀ (j : Nat) (u : Value), us[j]? = some u → w.cell? ⟨b, off + j, none⟩ = some u) (hcap : ao = none → cap = 0) (h1 : us.all (fun u => u.oneCell') = true) (hle : n ≤ 4294967296)
    (h : ∀ v' w', w'.ownsRow w.heap.size e 1 v' n us → (v' = .slice none 0 0 → False) → Below w.heap.size w w' → wpList P ops Q rest (a.put o.dst v') w') : wpList P ops Q (o :: rest) a (w.alloc (.cells #[] e)) := by
  subst hg0
  have hmade : (w.alloc (.cells #[] e)).ownsRow w.heap.size e 1 (.slice (some ⟨w.heap.size, 0, none⟩) 0 0) 0 [] :=
    World.ownsRow_made (base := w.heap.size) (e := e) (size := 1) w #[] 0 (Nat.le_refl _) (by unfold maxLen; omega) rfl
  cases ao with
  | none =>
    have hn0 : n = 0 := by
      cases n with
      | zero => rfl
      | succ n => exact absurd (ha (by omega)) (by simp)
    subst hn0
    obtain rfl : cap = 0 := hcap rfl
    obtain rfl : us = [] := List.length_eq_zero_iff.1 hn
    refine wpList_append_own_none hgd s x t ho w.heap.size e i 1 ht hi _ 0 [] hs hmade hx ?_
    exact h _ _ hmade (fun h => by cases h) ((Below.refl _ _).alloc (Nat.le_refl _) _)
  | some ad =>
    refine wpList_append_own _ hgd s x t ho w.heap.size e i z 1 bytes ht hi hz hsize hby hzs (by decide) _ 0 [] hs hmade ad n cap us hx (by rw [hn, Nat.mul_one]) ?_ (by simpa using h1) (by unfold maxLen; omega) ?_ (by simp) ?_
    · intro j u hj
      have hl : 0 < n := by have := (List.getElem?_eq_some_iff.1 hj).1; omega
      obtain rfl := Option.some.inj (ha hl)
      have hcj := hc j u hj
      have hlt := World.block_lt_of_cell? w ⟨b, off + j, none⟩ hcj
      rw [addr_add _ j b off rfl, World.cell?_alloc_past _ _ _ hlt]
      exact hcj
    · have : (0 + n) * bytes ≤ 4294967296 * 4096 := Nat.mul_le_mul (by omega) hbs
      omega
    · intro v' w' hown hg hnn
      have hvn : v' ≠ .slice none 0 0 := fun h => by
        have h2 := (hnn.1 h).1
        cases h2
      refine h v' w' (by simpa using hown) hvn (((Below.refl _ _).alloc (Nat.le_refl _) _).grown hg (by simp) (fun k hk => by simp [Value.ownBlock] at hk; omega))

/-- what a call gives: a row of the call's own -/
def GivesW (l : List Nat) (w : World) (e : Ending) (w' : World) : Prop := ∃ v, e = .returned v ∧ OwnW w' w.heap.size v l ∧ Below w.heap.size w w'

set_option maxHeartbeats 1000000 in
theorem clone_own (v : Value) (l : List Nat) (w : World) (h : ArgW w v l) (hl : l.length ≤ 4294967296) :
    Calls Try.prog 21 #[v] w (GivesW l w) := by
  have qT : ∀ (w : World) (a : Option Addr) (n c n' c' : Nat), (binOp .eql 22 (.slice a n c) (.slice none n' c')).run Try.prog w = .ok (.bool a.isNone) w := fun w a n c n' c' => Lib.run_eql_slice_nil w _ _ a n c n' c' Try.underlying22
  obtain ⟨ao, b, o, cap, rfl, ha, hn, hc⟩ := h
  cases ao with
  | none =>
    have h0 : l = [] := by
      cases l with
      | nil => rfl
      | cons x l => exact absurd (ha (by simp)) (by simp)
    subst h0
    clear ha hc hn
    go_enter Try.func21, Try.ntmps21
    go_wp2
    go_ret
    exact ⟨_, rfl, OwnW.nil _ _, Below.refl _ _⟩
  | some ad =>
    obtain ⟨iI, ia, ib, ic, id⟩ := info_parts info22
    have HA := Lib.hid ha
    have HS : Hid (∀ (j : Nat) (u : Value), (l.map wU)[j]? = some u → w.cell? ⟨b, o + j, none⟩ = some u) := Lib.hid (fun j u hu => by
      rw [List.getElem?_map] at hu
      obtain ⟨x, hx, rfl⟩ := Option.map_eq_some_iff.1 hu
      exact hc j x hx)
    have HONE := Lib.hid (wU_one l)
    have HLEN : Hid ((l.map wU).length = l.length) := Lib.hid (by simp)
    clear ha hc hn
    go_enter Try.func21, Try.ntmps21
    go_wp2_with (at_builtin; refine append_fresh_own rfl _ _ 22 rfl 29 iI (.int .u64 0) 8 Try.underlying22 ia ib ic id rfl (by decide) w.heap.size rfl rfl (some ad) b o cap l.length (l.map wU) rfl HLEN.out HA.out HS.out (fun h => by cases h) HONE.out hl ?_)
    intro v' w1 how hnn hbl
    have HO : Hid (OwnW w1 w.heap.size v' l) := Lib.hid how
    have HB := Lib.hid hbl
    clear how hnn hbl
    go_wp2
    go_ret
    exact ⟨_, rfl, HO.out, HB.out⟩

set_option maxHeartbeats 400000 in
theorem sameW (v1 v2 : Value) (l : List Nat) (w : World) (hl : l.length ≤ 4294967296) (h1 : ArgW w v1 l) (h2 : ArgW w v2 l) :
    Calls Try.prog 8 #[v1, v2] w fun e w' => e = .returned (.bool true) ∧ ∃ m, w' = w.drewN m := by
  obtain ⟨ao1, b1, o1, c1, rfl, ha1, hn1, hc1⟩ := h1
  obtain ⟨ao2, b2, o2, c2, rfl, ha2, hn2, hc2⟩ := h2
  unfold wU at hc1 hc2
  have HA1 := Lib.hid ha1
  have HA2 := Lib.hid ha2
  have HC1 := Lib.hid hc1
  have HC2 := Lib.hid hc2
  clear ha1 ha2 hc1 hc2 hn1 hn2
  go_enter Try.func8, Try.ntmps8
  go_wp2
  go_loopw [13] (fun k wr => ∃ j m : Nat, j ≤ l.length ∧ k = .int .i64 j ∧ wr = w.drewN m) (fun k _ => l.length - (intOf k).toNat)
  case atStart => exact ⟨0, 0, Nat.zero_le _, rfl, rfl⟩
  case round =>
    obtain ⟨j, m, hj, rfl, rfl⟩ := hrel
    by_cases hlt : j < l.length
    · obtain rfl := HA1.out (by omega)
      obtain rfl := HA2.out (by omega)
      obtain ⟨x, hx⟩ : ∃ x, l[j]? = some x := ⟨l[j], List.getElem?_eq_getElem hlt⟩
      have d1 := HC1.out j x hx
      have d2 := HC2.out j x hx
      clear hx
      go_wp2_with fail
      go_quiet (fail)
      go_wp2
      go_roundw
      case rel => exact ⟨j + 1, _, by omega, by go_num, rfl⟩
      case measure => simp [intOf]; omega
    · go_wp2
      go_ret
      exact ⟨rfl, _, rfl⟩
end Go.Proofs.Ytlcnhmijagddgaa
