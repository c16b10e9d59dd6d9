/- Lists of words: as arguments, in rows of the call's own; copies of them; that two are the same. | The types of layer 17, plainly; the effects' walks. | The effects' walks, continued: adding and removing elements; sets; swappers; tables; numbers that are replaced. | The effects' walks, continued: the first element; tables; swappers; numbers that are replaced. | The effects' walks, ended: sets of numbers below 64. | The table of types: find; Kinds, New, Right; refuse. | The table of types: find. | Kinds, New, Right, refuse, effect. -/
import Derived.Test.YtjjleghalajidaaGreatChecked
import Derived.Test.YtjjleghalajidaaGreatGK
import Derived.Deep.QuietTactic
import Derived.BigQuiet
import Derived.Laws.IdiomArrays
import Derived.Laws.AppendOwnNone
import Derived.Laws.OwnMore
import Derived.Test.YtjjleghalajidaaGreatShelf
import Derived.Laws.EntriesVeiled
import Derived.Lib.OwnBridge
import Derived.Deep.AppendLies
import Derived.WalkLawsBesides
import Derived.WalkSmall
namespace Go.Proofs.YtjjleghalajidaaGreat
section
set_option maxRecDepth 100000
open Go.ChangeShapes Go.WideShapes Go.ChangeAt Go.RowKit
set_option linter.unusedVariables false

def wU (x : Nat) : Value := .int .u64 (x : Int)
theorem wU_one (l : List Nat) : (l.map wU).all (fun u => u.oneCell') = true := by
  rw [List.all_eq_true]; intro u hu; obtain ⟨x, _, rfl⟩ := List.mem_map.1 hu; rfl
theorem wU_one' (l : List Nat) : ∀ u ∈ l.map wU, u.oneCell' = true := fun u hu => List.all_eq_true.1 (wU_one l) u hu

/-- a slice whose words are l -/
def ArgW (w : World) (v : Value) (l : List Nat) : Prop :=
  ∃ (ao : Option Addr) (b o cap : Nat), v = .slice ao l.length cap ∧ (0 < l.length → ao = some ⟨b, o, none⟩) ∧ (ao = none → cap = 0) ∧ ∀ (i x : Nat), l[i]? = some x → w.cell? ⟨b, o + i, none⟩ = some (wU x)
/-- a slice of the call's own, or nil, whose words are l -/
def OwnW (w : World) (B : Nat) (v : Value) (l : List Nat) : Prop := w.ownsRow B 55 1 v l.length (l.map wU)

theorem ArgW.nil (w : World) : ArgW w (.slice none 0 0) [] := ⟨none, 0, 0, 0, rfl, fun h => absurd h (by simp), fun _ => rfl, fun i x h => by simp at h⟩
theorem ArgW.keep {w w' : World} {v : Value} {l : List Nat} (h : ArgW w v l) (hb : ∀ b, b < w.heap.size → w'.heap[b]? = w.heap[b]?) : ArgW w' v l := by
  obtain ⟨ao, b, o, cap, rfl, h1, h2, h3⟩ := h
  refine ⟨ao, b, o, cap, rfl, h1, h2, fun i x hx => ?_⟩
  have := h3 i x hx
  have hlt := World.block_lt_of_cell? w _ this
  rw [← this]
  unfold World.cell?
  rw [hb b hlt]
theorem ArgW.below {w w' : World} {v : Value} {l : List Nat} (h : ArgW w v l) (hb : Below w.heap.size w w') : ArgW w' v l := h.keep hb.block
theorem ArgW.alloc {w : World} {v : Value} {l : List Nat} (h : ArgW w v l) (o : Obj) : ArgW (w.alloc o) v l := h.keep (fun b hb => Below.heap_alloc w o b hb)
theorem ArgW.drewN {w : World} {v : Value} {l : List Nat} (h : ArgW w v l) (n : Nat) : ArgW (w.drewN n) v l := h
theorem ArgW.drew {w : World} {v : Value} {l : List Nat} (h : ArgW w v l) : ArgW w.drew v l := h
theorem ArgW.isSlice {w : World} {v : Value} {l : List Nat} (h : ArgW w v l) : ∃ ao cap, v = .slice ao l.length cap := by
  obtain ⟨ao, b, o, cap, e, _⟩ := h; exact ⟨ao, cap, e⟩

theorem OwnW.nil (w : World) (B : Nat) : OwnW w B (.slice none 0 0) [] := World.ownsRow_nil w B _ _
theorem OwnW.arg {w : World} {B : Nat} {v : Value} {l : List Nat} (h : OwnW w B v l) : ArgW w v l := by
  have h' := h
  obtain ⟨_, ⟨rfl, h0⟩ | ⟨g, cap, cur, rfl, hg, hb, h1, h2, h3, h4⟩⟩ := h
  · rw [List.length_eq_zero_iff.1 h0]; exact ArgW.nil w
  · refine ⟨_, g, 0, cap, rfl, fun _ => rfl, (fun h => by cases h), fun i x hx => ?_⟩
    have hi := (List.getElem?_eq_some_iff.1 hx).1
    rw [Nat.zero_add, World.ownsRow.cellAt h' i (by omega), List.getElem?_map, hx]; rfl
/-- what a row of the call's own is, where it is not empty -/
theorem OwnW.opened {w : World} {B : Nat} {v : Value} {l : List Nat} (h : OwnW w B v l) (hl : 0 < l.length) :
    ∃ g cap, v = .slice (some ⟨g, 0, none⟩) l.length cap ∧ B ≤ g ∧ g < w.heap.size ∧ (∀ (i x : Nat), l[i]? = some x → w.cell? ⟨g, i, none⟩ = some (.int .u64 (x : Int))) ∧ ∀ i, w.frozen? ⟨g, i, none⟩ = false := by
  have h' := h
  obtain ⟨_, ⟨rfl, h0⟩ | ⟨g, cap, cur, rfl, hg, hb, h1, h2, h3, h4⟩⟩ := h
  · omega
  · refine ⟨g, cap, rfl, hg, blk_lt hb, fun i x hx => ?_, fun i => World.ownsRow.frozenAt h' i⟩
    have hi := (List.getElem?_eq_some_iff.1 hx).1
    rw [World.ownsRow.cellAt h' i (by omega), List.getElem?_map, hx]; rfl
theorem OwnW.stored {w : World} {B g n cap : Nat} {l : List Nat} (h : OwnW w B (.slice (some ⟨g, 0, none⟩) n cap) l) (j x : Nat) : OwnW (w.setCell ⟨g, j, none⟩ (.int .u64 (x : Int))) B (.slice (some ⟨g, 0, none⟩) n cap) (l.set j x) := by
  unfold OwnW at *
  have hn : n = l.length := by
    obtain ⟨_, ⟨h0, _⟩ | ⟨g', cap', cur, h0, _⟩⟩ := h
    · cases h0
    · cases h0; rfl
  subst hn
  have := (World.ownsRow.stored h j (wU x)).1
  rw [List.map_set, List.length_set]
  exact this
theorem OwnW.mono {w : World} {B B' : Nat} {v : Value} {l : List Nat} (h : OwnW w B v l) (hb : B' ≤ B) : OwnW w B' v l := by
  obtain ⟨h0, h1 | ⟨g, cap, cur, hv, hg, r⟩⟩ := h
  · exact ⟨h0, .inl h1⟩
  · exact ⟨h0, .inr ⟨g, cap, cur, hv, by omega, r⟩⟩
theorem OwnW.below {w w' : World} {B : Nat} {v : Value} {l : List Nat} (h : OwnW w B v l) (hb : Below w.heap.size w w') : OwnW w' B v l := owns_below h hb
theorem OwnW.alloc {w : World} {B : Nat} {v : Value} {l : List Nat} (h : OwnW w B v l) (o : Obj) : OwnW (w.alloc o) B v l := World.ownsRow.alloc h o
theorem OwnW.drewN {w : World} {B : Nat} {v : Value} {l : List Nat} (h : OwnW w B v l) (n : Nat) : OwnW (w.drewN n) B v l := h
theorem OwnW.other {w : World} {B : Nat} {v : Value} {l : List Nat} (h : OwnW w B v l) {a : Addr} (u : Value) (ha : v.ownBlock ≠ some a.block) : OwnW (w.setCell a u) B v l := ownsRow_setCell_other h ha u
theorem OwnW.lt {w : World} {B : Nat} {v : Value} {l : List Nat} (h : OwnW w B v l) {a : Addr} (ha : a.block < B) : v.ownBlock ≠ some a.block := fun e => by
  have := (World.ownsRow.lt h _ e).1; omega

/-- append of a whole slice onto an empty one that was just made: a row of the call's own -/
theorem append_fresh_own {P : Program} {w : World} {ops : Array Oper} {rest : List Oper} {o : Oper} {a : Act} {Q : Exit → Act → World → Prop} (hgd : o.guard = none) (s x : Operand) (t : TypeId)
    (ho : o.op = .call { callee := .builtin .append, args := #[s, x], argTypes := #[t, t] })
    (e : TypeId) (i : TypeInfo) (z : Value) (bytes : Nat) (ht : P.underlying t = some (.slice e)) (hi : P.info? e = some i) (hz : i.zero = some z)
    (hsize : i.size = 1) (hby : i.bytes = bytes) (hzs : z.cells.size = 1) (hbs : bytes ≤ 4096)
    (g0 : Nat) (hg0 : g0 = w.heap.size) (hs : a.eval s = .slice (some ⟨g0, 0, none⟩) 0 0) (ao : Option Addr) (b off cap n : Nat) (us : List Value) (hx : a.eval x = .slice ao n cap) (hn : us.length = n)
    (ha : 0 < n → ao = some ⟨b, off, none⟩) (hc : ∀ (j : Nat) (u : Value), us[j]? = some u → w.cell? ⟨b, off + j, none⟩ = some u) (hcap : ao = none → cap = 0) (h1 : us.all (fun u => u.oneCell') = true) (hle : n ≤ 4294967296)
    (h : ∀ v' w', w'.ownsRow w.heap.size e 1 v' n us → (v' = .slice none 0 0 → False) → Below w.heap.size w w' → wpList P ops Q rest (a.put o.dst v') w') : wpList P ops Q (o :: rest) a (w.alloc (.cells #[] e)) := by
  subst hg0
  have hmade : (w.alloc (.cells #[] e)).ownsRow w.heap.size e 1 (.slice (some ⟨w.heap.size, 0, none⟩) 0 0) 0 [] :=
    World.ownsRow_made (base := w.heap.size) (e := e) (size := 1) w #[] 0 (Nat.le_refl _) (by unfold maxLen; omega) rfl
  cases ao with
  | none =>
    have hn0 : n = 0 := by
      cases n with
      | zero => rfl
      | succ n => exact absurd (ha (by omega)) (by simp)
    subst hn0
    obtain rfl : cap = 0 := hcap rfl
    obtain rfl : us = [] := List.length_eq_zero_iff.1 hn
    refine wpList_append_own_none hgd s x t ho w.heap.size e i 1 ht hi _ 0 [] hs hmade hx ?_
    exact h _ _ hmade (fun h => by cases h) ((Below.refl _ _).alloc (Nat.le_refl _) _)
  | some ad =>
    refine wpList_append_own _ hgd s x t ho w.heap.size e i z 1 bytes ht hi hz hsize hby hzs (by decide) _ 0 [] hs hmade ad n cap us hx (by rw [hn, Nat.mul_one]) ?_ (by simpa using h1) (by unfold maxLen; omega) ?_ (by simp) ?_
    · intro j u hj
      have hl : 0 < n := by have := (List.getElem?_eq_some_iff.1 hj).1; omega
      obtain rfl := Option.some.inj (ha hl)
      have hcj := hc j u hj
      have hlt := World.block_lt_of_cell? w ⟨b, off + j, none⟩ hcj
      rw [addr_add _ j b off rfl, World.cell?_alloc_past _ _ _ hlt]
      exact hcj
    · have : (0 + n) * bytes ≤ 4294967296 * 4096 := Nat.mul_le_mul (by omega) hbs
      omega
    · intro v' w' hown hg hnn
      have hvn : v' ≠ .slice none 0 0 := fun h => by
        have h2 := (hnn.1 h).1
        cases h2
      refine h v' w' (by simpa using hown) hvn (((Below.refl _ _).alloc (Nat.le_refl _) _).grown hg (by simp) (fun k hk => by simp [Value.ownBlock] at hk; omega))

/-- what a call gives: a row of the call's own -/
def GivesW (l : List Nat) (w : World) (e : Ending) (w' : World) : Prop := ∃ v, e = .returned v ∧ OwnW w' w.heap.size v l ∧ Below w.heap.size w w'

set_option maxHeartbeats 1000000 in
theorem clone_own (v : Value) (l : List Nat) (w : World) (h : ArgW w v l) (hl : l.length ≤ 4294967296) :
    Calls Tryz.prog 92 #[v] w (GivesW l w) := by
  have qT : ∀ (w : World) (a : Option Addr) (n c n' c' : Nat), (binOp .eql 37 (.slice a n c) (.slice none n' c')).run Tryz.prog w = .ok (.bool a.isNone) w := fun w a n c n' c' => Lib.run_eql_slice_nil w _ _ a n c n' c' Tryz.underlying37
  obtain ⟨ao, b, o, cap, rfl, ha, hn, hc⟩ := h
  cases ao with
  | none =>
    have h0 : l = [] := by
      cases l with
      | nil => rfl
      | cons x l => exact absurd (ha (by simp)) (by simp)
    subst h0
    clear ha hc hn
    go_enter Tryz.func92, Tryz.ntmps92
    go_wp2
    go_ret
    exact ⟨_, rfl, OwnW.nil _ _, Below.refl _ _⟩
  | some ad =>
    obtain ⟨iI, ia, ib, ic, id⟩ := info_parts info22
    have HA := Lib.hid ha
    have HS : Hid (∀ (j : Nat) (u : Value), (l.map wU)[j]? = some u → w.cell? ⟨b, o + j, none⟩ = some u) := Lib.hid (fun j u hu => by
      rw [List.getElem?_map] at hu
      obtain ⟨x, hx, rfl⟩ := Option.map_eq_some_iff.1 hu
      exact hc j x hx)
    have HONE := Lib.hid (wU_one l)
    have HLEN : Hid ((l.map wU).length = l.length) := Lib.hid (by simp)
    clear ha hc hn
    go_enter Tryz.func92, Tryz.ntmps92
    go_wp2_with (at_builtin; refine append_fresh_own rfl _ _ 37 rfl 55 iI (.int .u64 0) 8 Tryz.underlying37 ia ib ic id rfl (by decide) w.heap.size rfl rfl (some ad) b o cap l.length (l.map wU) rfl HLEN.out HA.out HS.out (fun h => by cases h) HONE.out hl ?_)
    intro v' w1 how hnn hbl
    have HO : Hid (OwnW w1 w.heap.size v' l) := Lib.hid how
    have HB := Lib.hid hbl
    clear how hnn hbl
    go_wp2
    go_ret
    exact ⟨_, rfl, HO.out, HB.out⟩

set_option maxHeartbeats 400000 in
theorem sameW (v1 v2 : Value) (l : List Nat) (w : World) (hl : l.length ≤ 4294967296) (h1 : ArgW w v1 l) (h2 : ArgW w v2 l) :
    Calls Tryz.prog 20 #[v1, v2] w fun e w' => e = .returned (.bool true) ∧ ∃ m, w' = w.drewN m := by
  obtain ⟨ao1, b1, o1, c1, rfl, ha1, hn1, hc1⟩ := h1
  obtain ⟨ao2, b2, o2, c2, rfl, ha2, hn2, hc2⟩ := h2
  unfold wU at hc1 hc2
  have HA1 := Lib.hid ha1
  have HA2 := Lib.hid ha2
  have HC1 := Lib.hid hc1
  have HC2 := Lib.hid hc2
  clear ha1 ha2 hc1 hc2 hn1 hn2
  go_enter Tryz.func20, Tryz.ntmps20
  go_wp2
  go_loopw [13] (fun k wr => ∃ j m : Nat, j ≤ l.length ∧ k = .int .i64 j ∧ wr = w.drewN m) (fun k _ => l.length - (intOf k).toNat)
  case atStart => exact ⟨0, 0, Nat.zero_le _, rfl, rfl⟩
  case round =>
    obtain ⟨j, m, hj, rfl, rfl⟩ := hrel
    by_cases hlt : j < l.length
    · obtain rfl := HA1.out (by omega)
      obtain rfl := HA2.out (by omega)
      obtain ⟨x, hx⟩ : ∃ x, l[j]? = some x := ⟨l[j], List.getElem?_eq_getElem hlt⟩
      have d1 := HC1.out j x hx
      have d2 := HC2.out j x hx
      clear hx
      go_wp2_with fail
      go_quiet (fail)
      go_wp2
      go_roundw
      case rel => exact ⟨j + 1, _, by omega, by go_num, rfl⟩
      case measure => simp [intOf]; omega
    · go_wp2
      go_ret
      exact ⟨rfl, _, rfl⟩
end
section
set_option maxRecDepth 100000
open Go.ChangeShapes Go.WideShapes Go.ChangeAt Go.RowKit
set_option linter.unusedVariables false

def sqIs (t : Int) : Bool := decide (0 ≤ t) && decide (t ≤ 7)
def sqLo (t : Nat) : Nat := if t = 2 ∨ t = 3 then 0 else if t = 7 then 8 else 1
def sqHi (t : Nat) : Nat := if t = 2 ∨ t = 3 ∨ t = 7 then 8 else 1
def sqN (t : Nat) : Nat := if t = 2 ∨ t = 3 ∨ t = 4 then 3 else 2
def sqOk (t n : Nat) : Prop := sqLo t ≤ n ∧ n ≤ sqHi t
/-- what an operation makes of a state: the state then, the number, and the error -/
def sqDo : Nat → Nat → List Nat → Nat → List Nat × Nat × Nat
  | 0, 0, l, _ => (l, l.headD 0, 0)
  | 0, _, l, a => ([a], l.headD 0, 0)
  | 1, 0, l, _ => (l, l.headD 0, 0)
  | 1, _, l, a => ([(l.headD 0 + a) % 18446744073709551616], l.headD 0, 0)
  | 2, 0, l, a => if 8 ≤ l.length then (l, 0, 6) else (l ++ [a], 0, 0)
  | 2, 1, l, _ => if l.length = 0 then (l, 0, 7) else (l.dropLast, l.getLastD 0, 0)
  | 2, _, l, _ => if l.length = 0 then (l, 0, 7) else (l, l.getLastD 0, 0)
  | 3, 0, l, a => if 8 ≤ l.length then (l, 0, 6) else (l ++ [a], 0, 0)
  | 3, 1, l, _ => if l.length = 0 then (l, 0, 7) else (l.tail, l.headD 0, 0)
  | 3, _, l, _ => if l.length = 0 then (l, 0, 7) else (l, l.headD 0, 0)
  | 4, 0, l, a => if 64 ≤ a then (l, 0, 10) else (l, l.headD 0 / 2 ^ a % 2, 0)
  | 4, 1, l, a => if 64 ≤ a then (l, 0, 10) else if l.headD 0 / 2 ^ a % 2 = 0 then ([l.headD 0 + 2 ^ a], 1, 0) else (l, 0, 0)
  | 4, _, l, a => if 64 ≤ a then (l, 0, 10) else if l.headD 0 / 2 ^ a % 2 = 1 then ([l.headD 0 - 2 ^ a], 1, 0) else (l, 0, 0)
  | 5, 0, l, _ => (l, l.headD 0, 0)
  | 5, _, l, a => if l.headD 0 < a then ([a], l.headD 0, 0) else (l, l.headD 0, 0)
  | 6, 0, l, _ => (l, l.headD 0, 0)
  | 6, _, l, a => if l.headD 0 = a / 65536 % 65536 then ([a % 65536], 1, 0) else (l, 0, 0)
  | _, 0, l, a => if 8 ≤ a then (l, 0, 10) else (l, l.getD a 0, 0)
  | _, _, l, a => if 8 ≤ a / 16777216 then (l, 0, 10) else (l.set (a / 16777216) (a % 16777216), l.getD (a / 16777216) 0, 0)

/-- what an effect leaves -/
def EffP (B : Nat) (W : World) (r : List Nat × Nat × Nat) (e : Ending) (w' : World) : Prop :=
  ∃ v', e = .returned (.tuple #[v', .int .u64 (r.2.1 : Int), .int .i64 (r.2.2 : Int)]) ∧ OwnW w' B v' r.1 ∧ Below B W w'

set_option maxHeartbeats 400000 in
theorem eff_look (v : Value) (x a B : Nat) (w : World) (h : OwnW w B v [x]) :
    Calls Tryz.prog 129 #[v, .int .u64 (a : Int)] w (EffP B w ([x], x, 0)) := by
  obtain ⟨g, cap, rfl, hg, hlt, hc, hf⟩ := h.opened (by simp)
  have HO := Lib.hid h
  have d0 := hc 0 x rfl
  clear h hc hf
  simp only [List.length_singleton] at *
  go_enter Tryz.func129, Tryz.ntmps129
  go_wp2_with fail
  go_quiet (fail)
  go_wp2
  go_ret3
  exact ⟨_, rfl, HO.out.drewN _, below_drewN (Below.refl _ _) _⟩

set_option maxHeartbeats 400000 in
theorem eff_showFirst (v : Value) (l : List Nat) (a B : Nat) (w : World) (h : OwnW w B v l) :
    Calls Tryz.prog 137 #[v, .int .u64 (a : Int)] w fun e w' => e = .returned (.tuple #[v, .int .u64 ((if l.length = 0 then 0 else l.headD 0 : Nat) : Int), .int .i64 ((if l.length = 0 then 7 else 0 : Nat) : Int)]) ∧ ∃ m, w' = w.drewN m := by
  rcases l with _ | ⟨x, l⟩
  · obtain ⟨ao, cap, rfl⟩ := h.arg.isSlice
    clear h
    go_enter Tryz.func137, Tryz.ntmps137
    go_wp2_with fail
    go_ret3
    exact ⟨rfl, 0, rfl⟩
  · obtain ⟨g, cap, rfl, hg, hlt, hc, hf⟩ := h.opened (by simp)
    have d0 := hc 0 x rfl
    clear h hc hf
    obtain ⟨n, hn⟩ : ∃ n, (x :: l).length = n + 1 := ⟨l.length, rfl⟩
    rw [hn]
    go_enter Tryz.func137, Tryz.ntmps137
    go_wp2_with fail
    go_quiet (fail)
    go_wp2
    go_ret3
    exact ⟨by simp, _, rfl⟩

set_option maxHeartbeats 400000 in
theorem eff_showLast (v : Value) (l : List Nat) (a B : Nat) (w : World) (h : OwnW w B v l) (hl : l.length ≤ 8) :
    Calls Tryz.prog 135 #[v, .int .u64 (a : Int)] w fun e w' => e = .returned (.tuple #[v, .int .u64 ((if l.length = 0 then 0 else l.getLastD 0 : Nat) : Int), .int .i64 ((if l.length = 0 then 7 else 0 : Nat) : Int)]) ∧ ∃ m, w' = w.drewN m := by
  rcases l with _ | ⟨x, l⟩
  · obtain ⟨ao, cap, rfl⟩ := h.arg.isSlice
    clear h
    go_enter Tryz.func135, Tryz.ntmps135
    go_wp2_with fail
    go_ret3
    exact ⟨rfl, 0, rfl⟩
  · obtain ⟨g, cap, rfl, hg, hlt, hc, hf⟩ := h.opened (by simp)
    have d0 := hc l.length ((x :: l).getLastD 0) (by rw [List.getLastD_eq_getLast?, List.getLast?_eq_getElem?]; simp)
    have HE : Hid ((if (x :: l).length = 0 then 0 else (x :: l).getLastD 0 : Nat) = (x :: l).getLastD 0) := Lib.hid (by simp)
    have HE2 : Hid ((if (x :: l).length = 0 then 7 else 0 : Nat) = 0) := Lib.hid (by simp)
    clear h hc hf
    generalize (x :: l).getLastD 0 = z at *
    generalize hI : (if (x :: l).length = 0 then 0 else z : Nat) = I1 at *
    generalize hI2 : (if (x :: l).length = 0 then 7 else 0 : Nat) = I2 at *
    clear hI hI2
    obtain ⟨n, hn⟩ : ∃ n, (x :: l).length = n + 1 := ⟨l.length, rfl⟩
    have hnl : l.length = n := by simpa using hn
    rw [hnl] at d0
    rw [hn] at hl ⊢
    clear hn hnl
    go_enter Tryz.func135, Tryz.ntmps135
    go_wp2_with fail
    go_quiet (fail)
    go_wp2
    go_ret3
    exact ⟨by rw [HE.out, HE2.out]; rfl, _, rfl⟩
end
section
set_option maxRecDepth 100000
open Go.ChangeShapes Go.WideShapes Go.ChangeAt Go.RowKit
set_option linter.unusedVariables false

theorem wU_snoc (l : List Nat) (a : Nat) : (l ++ [a]).map wU = l.map wU ++ [wU a] := by simp

set_option maxHeartbeats 400000 in
theorem eff_add (v : Value) (l : List Nat) (a B : Nat) (w : World) (h : OwnW w B v l) (hl : l.length ≤ 8) (hB : B ≤ w.heap.size) :
    Calls Tryz.prog 133 #[v, .int .u64 (a : Int)] w (EffP B w (if 8 ≤ l.length then (l, 0, 6) else (l ++ [a], 0, 0))) := by
  obtain ⟨iI, ia, ib, ic, id⟩ := info_parts info22
  obtain ⟨ao, cap, rfl⟩ := h.arg.isSlice
  have HO := Lib.hid h
  clear h
  by_cases h8 : 8 ≤ l.length
  · rw [if_pos h8]
    have e8 : l.length = 8 := by omega
    clear h8
    rw [e8]
    go_enter Tryz.func133, Tryz.ntmps133
    go_wp2_with fail
    go_ret3
    exact ⟨_, rfl, e8 ▸ HO.out, Below.refl _ _⟩
  · rw [if_neg h8]
    have h9 : l.length < 8 := by omega
    have HO0 : Hid (w.ownsRow B 55 1 (.slice ao l.length cap) l.length (l.map wU)) := Lib.hid HO.out
    have HM : Hid (List.map wU l ++ [Value.int .u64 (a : Int)] = (l ++ [a]).map wU) := Lib.hid (by rw [wU_snoc]; rfl)
    clear h8
    go_enter Tryz.func133, Tryz.ntmps133
    go_wp2_with (at_builtin; refine append_new rfl _ _ 37 rfl B 55 iI (.int .u64 0) 1 8 Tryz.underlying37 ia ib ic id rfl (by decide) (by decide) _ l.length _ rfl HO0.out [.int .u64 (a : Int)] rfl rfl rfl (by omega) hB ?_)
    intro v' w1 how hbl _ _
    rw [HM.out] at how
    have HO1 : Hid (OwnW w1 B v' (l ++ [a])) := Lib.hid (by unfold OwnW; rw [List.length_append]; exact how)
    have HB := Lib.hid hbl
    clear how hbl
    go_wp2
    go_ret3
    exact ⟨_, rfl, HO1.out, HB.out⟩

set_option maxHeartbeats 400000 in
theorem eff_removeLast (v : Value) (l : List Nat) (a B : Nat) (w : World) (h : OwnW w B v l) (hl : l.length ≤ 8) (hB : B ≤ w.heap.size) :
    Calls Tryz.prog 134 #[v, .int .u64 (a : Int)] w (EffP B w (if l.length = 0 then (l, 0, 7) else (l.dropLast, l.getLastD 0, 0))) := by
  have HC := Lib.hid (fun W (h1 : OwnW W B v l) => eff_showLast v l a B W h1 hl)
  by_cases h0 : l.length = 0
  · rw [if_pos h0]
    simp only [if_pos h0] at HC
    obtain rfl := List.length_eq_zero_iff.1 h0
    obtain ⟨ao, cap, rfl⟩ := h.arg.isSlice
    have HO := Lib.hid h
    clear h h0 hl
    go_enter Tryz.func134, Tryz.ntmps134
    go_wp2_with (go_at_call 135; refine (HC.out _ HO.out).mono ?_; rintro e w' ⟨rfl, m, rfl⟩)
    go_ret3
    exact ⟨_, rfl, HO.out.drewN _, below_drewN (Below.refl _ _) _⟩
  · rw [if_neg h0]
    simp only [if_neg h0] at HC
    obtain ⟨g, cap, rfl, hg, hlt, hc, hf⟩ := h.opened (by omega)
    obtain ⟨k, z, rfl⟩ : ∃ k z, l = k ++ [z] := ⟨l.dropLast, l.getLast (by intro e; simp [e] at h0), (List.dropLast_concat_getLast _).symm⟩
    have hz : (k ++ [z]).getLastD 0 = z := by simp
    rw [hz] at HC
    simp only [List.dropLast_concat, List.length_append, List.length_singleton] at *
    have HO := Lib.hid h
    have HO2 : Hid (OwnW w B (.slice (some ⟨g, 0, none⟩) k.length cap) k) := Lib.hid (by
      unfold OwnW at h ⊢
      rw [wU_snoc, List.length_append] at h
      exact ownsRow_pop (by simp) h)
    have hcap : k.length ≤ cap := by
      obtain ⟨_, ⟨e0, _⟩ | ⟨g', cap', cur, e0, _, _, h5, _⟩⟩ := h
      · cases e0
      · injection e0 with _ _ e3
        subst e3
        simp at h5; omega
    clear h hc hf h0 hz
    go_enter Tryz.func134, Tryz.ntmps134
    go_wp2_with (go_at_call 135; refine (HC.out _ HO.out).mono ?_; rintro e w' ⟨rfl, m, rfl⟩)
    go_ret3
    exact ⟨_, by simp, HO2.out.drewN _, below_drewN (Below.refl _ _) _⟩

theorem wU_oneCell : OneCell wU := fun _ => rfl
theorem wU_zero (w : World) : (zeroValue 55).run Tryz.prog w = .ok (wU 0) w := by
  have := Tryz.zeroValue55 w
  exact this

set_option maxHeartbeats 400000 in
theorem delete_first (g cap B x : Nat) (l : List Nat) (w : World) (h : OwnW w B (.slice (some ⟨g, 0, none⟩) (l.length + 1) cap) (x :: l)) (hB : B ≤ w.heap.size) :
    Calls Tryz.prog 172 #[.slice (some ⟨g, 0, none⟩) (l.length + 1) cap, .int .i64 0, .int .i64 1] w fun e w' => ∃ v', e = .returned v' ∧ OwnW w' B v' l ∧ Below B w w' := by
  obtain ⟨i0, hi0, hz0, hz1, hz2⟩ := info_parts info22
  have h1 := h
  unfold OwnW at h1
  have hlen : (x :: l).length = l.length + 1 := rfl
  obtain ⟨g', cap', e0, hg, hlt, hn, hm, hl, hH⟩ := Lib.holds_of_ownsRow h1 (by simp)
  cases e0
  have hsz : (x :: l).toArray.size = l.length + 1 := by simp
  have hC := Tryz.slices_Delete wU wU_oneCell 0 wU_zero i0 hi0 hz1 g 0 cap 0 1 (x :: l).toArray w hH (by rw [hsz]; omega) (by unfold maxLen at hm; omega) (by omega) (by rw [hsz]; omega)
  rw [hsz] at hC
  refine hC.mono ?_
  rintro e w' ⟨rfl, q, rfl⟩
  have e1 : l.length + 1 - (1 - 0) = l.length := by omega
  rw [e1]
  refine ⟨_, rfl, ?_, ?_⟩
  · have h2 := Lib.ownsRow_putRow (q := q) (k := l.length) (ys := ((x :: l).toArray.toList.take 0 ++ (x :: l).toArray.toList.drop 1 ++ List.replicate (1 - 0) 0)) h1 (by simp) (by simp)
    have e2 : ((x :: l).toArray.toList.take 0 ++ (x :: l).toArray.toList.drop 1 ++ List.replicate (1 - 0) 0).take l.length = l := by simp
    rw [e2] at h2
    exact h2
  · exact Lib.below_putRow (Below.refl _ _ |>.mono hB) hg
end
section
set_option maxRecDepth 100000
open Go.ChangeShapes Go.WideShapes Go.ChangeAt Go.RowKit
set_option linter.unusedVariables false

set_option maxHeartbeats 400000 in
theorem eff_removeFirst (v : Value) (l : List Nat) (a B : Nat) (w : World) (h : OwnW w B v l) (hl : l.length ≤ 8) (hB : B ≤ w.heap.size) :
    Calls Tryz.prog 136 #[v, .int .u64 (a : Int)] w (EffP B w (if l.length = 0 then (l, 0, 7) else (l.tail, l.headD 0, 0))) := by
  have HC := Lib.hid (fun W (h1 : OwnW W B v l) => eff_showFirst v l a B W h1)
  rcases l with _ | ⟨x, l⟩
  · obtain ⟨ao, cap, rfl⟩ := h.arg.isSlice
    have HO := Lib.hid h
    clear h hl
    go_enter Tryz.func136, Tryz.ntmps136
    go_wp2_with (go_at_call 137; refine (HC.out _ HO.out).mono ?_; rintro e w' ⟨rfl, m, rfl⟩)
    go_ret3
    exact ⟨_, rfl, HO.out.drewN _, below_drewN (Below.refl _ _) _⟩
  · obtain ⟨g, cap, rfl, hg, hlt, hc, hf⟩ := h.opened (by simp)
    have hlen : (x :: l).length = l.length + 1 := rfl
    rw [hlen] at h hl HC ⊢
    have HO := Lib.hid h
    have HD := Lib.hid (fun W (h1 : OwnW W B (.slice (some ⟨g, 0, none⟩) (l.length + 1) cap) (x :: l)) (hB : B ≤ W.heap.size) => delete_first g cap B x l W h1 hB)
    have hB2 := Lib.hid hB
    clear h hc hf hlen
    simp only [Nat.add_eq_zero_iff, Nat.succ_ne_self, and_false, if_false, List.headD_cons, List.tail_cons] at HC ⊢
    go_enter Tryz.func136, Tryz.ntmps136
    go_wp2_with (first
      | (go_at_call 137; refine (HC.out _ HO.out).mono ?_; rintro e w' ⟨rfl, m, rfl⟩)
      | (go_at_call 172; refine (HD.out _ (HO.out.drewN _) hB2.out).mono ?_; rintro e w5 ⟨v5, rfl, ho5, hb5⟩; (have HO5 := Lib.hid ho5); (have HB5 := Lib.hid hb5); clear ho5 hb5))
    go_ret3
    exact ⟨_, rfl, HO5.out, (below_drewN (Below.refl _ _) _).trans HB5.out⟩

set_option maxHeartbeats 400000 in
theorem lookUp_any (v : Value) (l : List Nat) (a B : Nat) (w : World) (h : OwnW w B v l) (hl : l.length = 8) (ha : a < 18446744073709551616) :
    Calls Tryz.prog 143 #[v, .int .u64 (a : Int)] w fun e w' => e = .returned (.tuple #[v, .int .u64 ((if 8 ≤ a then 0 else l.getD a 0 : Nat) : Int), .int .i64 ((if 8 ≤ a then 10 else 0 : Nat) : Int)]) ∧ ∃ m, w' = w.drewN m := by
  obtain ⟨g, cap, rfl, hg, hlt, hc, hf⟩ := h.opened (by omega)
  by_cases h8 : 8 ≤ a
  · rw [if_pos h8, if_pos h8]
    clear h hc hf
    go_enter Tryz.func143, Tryz.ntmps143
    go_wp2_with fail
    go_ret3
    exact ⟨rfl, 0, rfl⟩
  · rw [if_neg h8, if_neg h8]
    have d0 := hc a (l.getD a 0) (by rw [List.getD_eq_getElem?_getD, List.getElem?_eq_getElem (by omega)]; rfl)
    generalize l.getD a 0 = z at *
    clear h hc hf
    have h9 : a < 8 := by omega
    clear h8
    go_enter Tryz.func143, Tryz.ntmps143
    go_wp2_with fail
    go_quiet (fail)
    go_wp2
    go_ret3
    exact ⟨rfl, _, rfl⟩

set_option maxHeartbeats 400000 in
theorem eff_store (v : Value) (l : List Nat) (a B : Nat) (w : World) (h : OwnW w B v l) (hl : l.length = 8) (ha : a < 18446744073709551616) (hB : B ≤ w.heap.size) :
    Calls Tryz.prog 144 #[v, .int .u64 (a : Int)] w (EffP B w (if 8 ≤ a / 16777216 then (l, 0, 10) else (l.set (a / 16777216) (a % 16777216), l.getD (a / 16777216) 0, 0))) := by
  have hq1 : (a : Int) / 16777216 = ((a / 16777216 : Nat) : Int) := by omega
  have hr1 : (a : Int) % 16777216 = ((a % 16777216 : Nat) : Int) := by omega
  have hq : a / 16777216 < 18446744073709551616 := by omega
  have hr : a % 16777216 < 16777216 := by omega
  have HC := Lib.hid (fun W (h1 : OwnW W B v l) => lookUp_any v l (a / 16777216) B W h1 hl hq)
  obtain ⟨g, cap, rfl, hg, hlt, hc, hf⟩ := h.opened (by omega)
  rw [hl] at h HC ⊢
  have HO := Lib.hid h
  have f0 := hf (a / 16777216)
  have d0 := fun (h9 : a / 16777216 < 8) => hc (a / 16777216) (l.getD (a / 16777216) 0) (by rw [List.getD_eq_getElem?_getD, List.getElem?_eq_getElem (by omega)]; rfl)
  clear h hc hf
  generalize a / 16777216 = b at *
  generalize a % 16777216 = r at *
  by_cases h8 : 8 ≤ b
  · simp only [if_pos h8] at HC ⊢
    clear f0 d0 hg hB
    go_enter Tryz.func144, Tryz.ntmps144
    go_wp2_with (go_at_call 143; refine (HC.out _ HO.out).mono ?_; rintro e w' ⟨rfl, m, rfl⟩)
    go_ret3
    exact ⟨_, rfl, HO.out.drewN _, below_drewN (Below.refl _ _) _⟩
  · simp only [if_neg h8] at HC ⊢
    have h9 : b < 8 := by omega
    have d1 := d0 h9
    generalize l.getD b 0 = z at *
    clear d0 h8
    go_enter Tryz.func144, Tryz.ntmps144
    go_wp2_with (go_at_call 143; refine (HC.out _ HO.out).mono ?_; rintro e w' ⟨rfl, m, rfl⟩)
    go_ret3
    exact ⟨_, rfl, (HO.out.drewN _).stored _ _, (below_drewN (Below.refl _ _) _).setCell hg _⟩

set_option maxHeartbeats 400000 in
theorem eff_swap (v : Value) (x a B : Nat) (w : World) (h : OwnW w B v [x]) (ha : a < 18446744073709551616) (hB : B ≤ w.heap.size) :
    Calls Tryz.prog 142 #[v, .int .u64 (a : Int)] w (EffP B w (if x = a / 65536 % 65536 then ([a % 65536], 1, 0) else ([x], 0, 0))) := by
  obtain ⟨g, cap, rfl, hg, hlt, hc, hf⟩ := h.opened (by simp)
  have HO := Lib.hid h
  have d0 := hc 0 x rfl
  have f0 := hf 0
  simp only [List.length_singleton] at *
  have hm : a % 65536 < 18446744073709551616 := by omega
  clear h hc hf
  by_cases he : x = a / 65536 % 65536
  · rw [if_pos he]
    go_enter Tryz.func142, Tryz.ntmps142
    go_wp2_with fail
    go_ret3
    exact ⟨_, rfl, HO.out.stored _ _, (Below.refl _ _).setCell hg _⟩
  · rw [if_neg he]
    go_enter Tryz.func142, Tryz.ntmps142
    go_wp2_with fail
    go_ret3
    exact ⟨_, rfl, HO.out, Below.refl _ _⟩

/-- a number that is replaced: what is called for the next one gives z -/
def NextP (f : FuncId) (z : Nat → Nat → Nat) : Prop :=
  (∀ (args : Array Value) (w : World), (callFunc f args).run Tryz.prog w = .ok (.enter f args) w) ∧
  ∀ (x a : Nat) (w : World), x < 18446744073709551616 → a < 18446744073709551616 → Calls Tryz.prog f #[.int .u64 (x : Int), .int .u64 (a : Int)] w fun e w' => e = .returned (.int .u64 (z x a : Int)) ∧ w' = w

theorem next_replaced : NextP 131 (fun _ a => a) := by
  refine ⟨fun args w => by kernel_rfl, fun x a w hx ha => ?_⟩
  go_enter Tryz.func131, Tryz.ntmps131
  go_wp2_with fail
  go_ret
  exact ⟨rfl, rfl⟩
theorem next_increased : NextP 132 (fun x a => (x + a) % 18446744073709551616) := by
  refine ⟨fun args w => by kernel_rfl, fun x a w hx ha => ?_⟩
  go_enter Tryz.func132, Tryz.ntmps132
  go_wp2_with fail
  go_ret
  exact ⟨ret_int (by simp [IntKind.wrap, IntKind.signed, IntKind.bits]), rfl⟩
theorem next_raised : NextP 141 (fun x a => if x < a then a else x) := by
  refine ⟨fun args w => by kernel_rfl, fun x a w hx ha => ?_⟩
  by_cases h : x < a
  · go_enter Tryz.func141, Tryz.ntmps141
    go_wp2_with fail
    go_ret
    exact ⟨ret_int (by omega), rfl⟩
  · go_enter Tryz.func141, Tryz.ntmps141
    go_wp2_with fail
    go_ret
    exact ⟨ret_int (by omega), rfl⟩

set_option maxHeartbeats 400000 in
theorem eff_update (v : Value) (x a B q f : Nat) (z : Nat → Nat → Nat) (hz : NextP f z) (w : World) (h : OwnW w B v [x]) (hx : x < 18446744073709551616) (ha : a < 18446744073709551616) (hq : w.cell? ⟨q, 0, none⟩ = some (.func (.func f) #[] #[])) (hqB : q < B) (hB : B ≤ w.heap.size) :
    Calls Tryz.prog 171 #[v, .int .u64 (a : Int), .pointer (some ⟨q, 0, none⟩)] w (EffP B w ([z x a], x, 0)) := by
  obtain ⟨hen, hC⟩ := hz
  obtain ⟨g, cap, rfl, hg, hlt, hc, hf⟩ := h.opened (by simp)
  have HO := Lib.hid h
  have HC := Lib.hid (hC x a w hx ha)
  have d0 := hc 0 x rfl
  have f0 := hf 0
  simp only [List.length_singleton] at *
  clear h hc hf hC
  go_enter Tryz.func171, Tryz.ntmps171
  go_wp2_with (refine HC.out.mono ?_; rintro e w' ⟨rfl, rfl⟩)
  go_ret3
  exact ⟨_, rfl, HO.out.stored _ _, (Below.refl _ _).setCell hg _⟩
end
section
set_option maxRecDepth 100000
open Go.ChangeShapes Go.WideShapes Go.ChangeAt Go.RowKit
set_option linter.unusedVariables false

theorem bit_le (a : Nat) (ha : a < 64) : 2 ^ a ≤ 9223372036854775808 := by
  have := Nat.pow_le_pow_right (n := 2) (by decide) (show a ≤ 63 by omega)
  omega
theorem or_bit0 (x a : Nat) (h : x / 2 ^ a % 2 = 0) : x ||| 2 ^ a = x + 2 ^ a := by
  have hp := Nat.two_pow_pos a
  obtain ⟨p, hp2⟩ : ∃ p, x / 2 ^ a = 2 * p := ⟨x / 2 ^ a / 2, by omega⟩
  have hr := Nat.mod_lt x hp
  have hx : 2 ^ a * (2 * p) + x % 2 ^ a = x := by rw [← hp2]; exact Nat.div_add_mod x (2 ^ a)
  have e1 : 2 ^ a * (2 * p) = 2 ^ (a + 1) * p := by rw [Nat.pow_succ, Nat.mul_assoc]
  have e2 : 2 ^ a * (2 * p + 1) = 2 ^ (a + 1) * p + 2 ^ a := by rw [Nat.mul_add, e1, Nat.mul_one]
  have h1 := Nat.two_pow_add_eq_or_of_lt hr (2 * p)
  have h2 := Nat.two_pow_add_eq_or_of_lt hr (2 * p + 1)
  have h3 := Nat.two_pow_add_eq_or_of_lt (i := a + 1) (b := 2 ^ a) (by rw [Nat.pow_succ]; omega) p
  have e3 : x + 2 ^ a = 2 ^ a * (2 * p + 1) + x % 2 ^ a := by rw [e2, ← e1]; omega
  rw [e3, h2, e2, h3]
  conv => lhs; rw [← hx, h1, e1]
  rw [Nat.or_assoc, Nat.or_assoc, Nat.or_comm (x % 2 ^ a)]
theorem bit_set (x a : Nat) : (x / 2 ^ a % 2 = 1) ↔ x.testBit a = true := by
  rw [← Nat.toNat_testBit]; cases x.testBit a <;> simp
theorem or_bit1 (x a : Nat) (h : x / 2 ^ a % 2 = 1) : x ||| 2 ^ a = x := by
  apply Nat.eq_of_testBit_eq
  intro j
  rw [Nat.testBit_or, Nat.testBit_two_pow]
  by_cases hj : a = j
  · subst hj; rw [(bit_set x a).1 h]; simp
  · simp [hj]
theorem not_bit (a j : Nat) (ha : a < 64) (hj : j < 64) : (18446744073709551615 - 2 ^ a).testBit j = !decide (a = j) := by
  have hb := bit_le a ha
  have e : 18446744073709551615 - 2 ^ a = 2 ^ 64 - (2 ^ a + 1) := by omega
  rw [e, Nat.testBit_two_pow_sub_succ (by omega), Nat.testBit_two_pow]
  simp [hj]
theorem andn_bit0 (x a : Nat) (ha : a < 64) (hx : x < 18446744073709551616) (h : x / 2 ^ a % 2 = 0) : x &&& (18446744073709551615 - 2 ^ a) = x := by
  apply Nat.eq_of_testBit_eq
  intro j
  rw [Nat.testBit_and]
  by_cases hj : j < 64
  · rw [not_bit a j ha hj]
    by_cases h2 : a = j
    · subst h2
      have : x.testBit a = false := by
        cases hb : x.testBit a with
        | false => rfl
        | true => have := (bit_set x a).2 hb; omega
      rw [this]; rfl
    · simp [h2]
  · have : x.testBit j = false := Nat.testBit_lt_two_pow (Nat.lt_of_lt_of_le hx (Nat.pow_le_pow_right (n := 2) (i := 64) (j := j) (by decide) (by omega)))
    rw [this]; rfl
theorem andn_bit1 (x a : Nat) (ha : a < 64) (hx : x < 18446744073709551616) (h : x / 2 ^ a % 2 = 1) : x &&& (18446744073709551615 - 2 ^ a) = x - 2 ^ a := by
  have hp := Nat.two_pow_pos a
  have hle : 2 ^ a ≤ x := by
    rcases Nat.lt_or_ge x (2 ^ a) with h2 | h2
    · rw [Nat.div_eq_of_lt h2] at h; omega
    · exact h2
  obtain ⟨y, rfl⟩ : ∃ y, x = y + 2 ^ a := ⟨x - 2 ^ a, by omega⟩
  have hy : y / 2 ^ a % 2 = 0 := by
    rw [Nat.add_div_right _ hp] at h; omega
  have e := or_bit0 y a hy
  have hb : y.testBit a = false := by
    cases hb : y.testBit a with
    | false => rfl
    | true => have := (bit_set y a).2 hb; omega
  have e3 : y + 2 ^ a - 2 ^ a = y := by omega
  rw [e3, ← e]
  apply Nat.eq_of_testBit_eq
  intro j
  rw [Nat.testBit_and, Nat.testBit_or, Nat.testBit_two_pow]
  by_cases hj : j < 64
  · rw [not_bit a j ha hj]
    by_cases h2 : a = j
    · subst h2; rw [hb]; simp
    · simp [h2]
  · have : y.testBit j = false := Nat.testBit_lt_two_pow (Nat.lt_of_lt_of_le (show y < 2 ^ 64 by omega) (Nat.pow_le_pow_right (n := 2) (i := 64) (j := j) (by decide) (by omega)))
    rw [this]
    have : ¬ a = j := by omega
    simp [this]

set_option maxHeartbeats 400000 in
theorem has_any (v : Value) (x a B : Nat) (w : World) (h : OwnW w B v [x]) (hx : x < 18446744073709551616) (ha : a < 18446744073709551616) :
    Calls Tryz.prog 138 #[v, .int .u64 (a : Int)] w fun e w' => e = .returned (.tuple #[v, .int .u64 ((if 64 ≤ a then 0 else x / 2 ^ a % 2 : Nat) : Int), .int .i64 ((if 64 ≤ a then 10 else 0 : Nat) : Int)]) ∧ ∃ m, w' = w.drewN m := by
  obtain ⟨g, cap, rfl, hg, hlt, hc, hf⟩ := h.opened (by simp)
  have d0 := hc 0 x rfl
  simp only [List.length_singleton] at *
  by_cases h8 : 64 ≤ a
  · rw [if_pos h8, if_pos h8]
    clear h hc hf
    go_enter Tryz.func138, Tryz.ntmps138
    go_wp2_with fail
    go_ret3
    exact ⟨rfl, 0, rfl⟩
  · rw [if_neg h8, if_neg h8]
    have h9 : a < 64 := by omega
    have HA : Hid (bits .and .u64 ((x : Int) / 2 ^ a) 1 = ((x / 2 ^ a % 2 : Nat) : Int)) := Lib.hid (by
      have e : (x : Int) / 2 ^ a = ((x / 2 ^ a : Nat) : Int) := by rw [Int.natCast_ediv, Int.natCast_pow]; rfl
      have h2 : x / 2 ^ a ≤ x := Nat.div_le_self _ _
      have h3 := u64_and_nat (x / 2 ^ a) 1 (by omega) (by omega)
      rw [e]
      rw [Nat.and_one_is_mod] at h3
      exact h3)
    clear h hc hf h8
    go_enter Tryz.func138, Tryz.ntmps138
    go_wp2_with fail
    go_quiet (fail)
    go_wp2
    go_ret3
    exact ⟨by rw [HA.out]; rfl, _, rfl⟩
set_option maxHeartbeats 400000 in
theorem eff_include (v : Value) (x a B : Nat) (w : World) (h : OwnW w B v [x]) (hx : x < 18446744073709551616) (ha : a < 18446744073709551616) (hB : B ≤ w.heap.size) :
    Calls Tryz.prog 139 #[v, .int .u64 (a : Int)] w (EffP B w (if 64 ≤ a then ([x], 0, 10) else if x / 2 ^ a % 2 = 0 then ([x + 2 ^ a], 1, 0) else ([x], 0, 0))) := by
  have HC := Lib.hid (fun W (h1 : OwnW W B v [x]) => has_any v x a B W h1 hx ha)
  obtain ⟨g, cap, rfl, hg, hlt, hc, hf⟩ := h.opened (by simp)
  have HO := Lib.hid h
  have d0 := hc 0 x rfl
  have f0 := hf 0
  clear h hc hf
  simp only [List.length_singleton] at *
  by_cases h8 : 64 ≤ a
  · simp only [if_pos h8] at HC ⊢
    go_enter Tryz.func139, Tryz.ntmps139
    go_wp2_with (go_at_call 138; refine (HC.out _ HO.out).mono ?_; rintro e w' ⟨rfl, m, rfl⟩)
    go_ret3
    exact ⟨_, rfl, HO.out.drewN _, below_drewN (Below.refl _ _) _⟩
  · simp only [if_neg h8] at HC ⊢
    have h9 : a < 64 := by omega
    have hb2 := bit_le a h9
    have HS : Hid (bits .or .u64 (x : Int) (IntKind.u64.wrap (2 ^ a)) = ((x ||| 2 ^ a : Nat) : Int)) := Lib.hid (by
      have e : (2 : Int) ^ a = ((2 ^ a : Nat) : Int) := by rw [Int.natCast_pow]; rfl
      rw [e]
      generalize 2 ^ a = z at *
      rw [IntWalk.u64_in _ (by omega), u64_or_nat _ _ hx (by omega)])
    have HV : Hid (EffP B w (if x / 2 ^ a % 2 = 0 then ([x + 2 ^ a], 1, 0) else ([x], 0, 0)) = EffP B w ([x ||| 2 ^ a], 1 - x / 2 ^ a % 2, 0)) := Lib.hid (by
      split
      · rename_i h0; rw [or_bit0 x a h0, h0]
      · rename_i h0; rw [or_bit1 x a (by omega), show 1 - x / 2 ^ a % 2 = 0 by omega])
    rw [HV.out]
    have hd : x / 2 ^ a % 2 ≤ 1 := by omega
    generalize x / 2 ^ a % 2 = d at *
    clear h8 HV
    go_enter Tryz.func139, Tryz.ntmps139
    go_wp2_with (go_at_call 138; refine (HC.out _ HO.out).mono ?_; rintro e w' ⟨rfl, m, rfl⟩)
    go_ret3
    refine ⟨.slice (some ⟨g, 0, none⟩) 1 cap, ?_, ?_, ?_⟩
    · exact congrArg Ending.returned (congrArg Value.tuple (by simp; omega))
    · rw [HS.out]; exact (HO.out.drewN _).stored _ _
    · exact (below_drewN (Below.refl _ _) _).setCell hg _
set_option maxHeartbeats 400000 in
theorem eff_exclude (v : Value) (x a B : Nat) (w : World) (h : OwnW w B v [x]) (hx : x < 18446744073709551616) (ha : a < 18446744073709551616) (hB : B ≤ w.heap.size) :
    Calls Tryz.prog 140 #[v, .int .u64 (a : Int)] w (EffP B w (if 64 ≤ a then ([x], 0, 10) else if x / 2 ^ a % 2 = 1 then ([x - 2 ^ a], 1, 0) else ([x], 0, 0))) := by
  have HC := Lib.hid (fun W (h1 : OwnW W B v [x]) => has_any v x a B W h1 hx ha)
  obtain ⟨g, cap, rfl, hg, hlt, hc, hf⟩ := h.opened (by simp)
  have HO := Lib.hid h
  have d0 := hc 0 x rfl
  have f0 := hf 0
  clear h hc hf
  simp only [List.length_singleton] at *
  by_cases h8 : 64 ≤ a
  · simp only [if_pos h8] at HC ⊢
    go_enter Tryz.func140, Tryz.ntmps140
    go_wp2_with (go_at_call 138; refine (HC.out _ HO.out).mono ?_; rintro e w' ⟨rfl, m, rfl⟩)
    go_ret3
    exact ⟨_, rfl, HO.out.drewN _, below_drewN (Below.refl _ _) _⟩
  · simp only [if_neg h8] at HC ⊢
    have h9 : a < 64 := by omega
    have hb2 := bit_le a h9
    have HS : Hid (bits .andNot .u64 (x : Int) (IntKind.u64.wrap (2 ^ a)) = ((x &&& (18446744073709551615 - 2 ^ a) : Nat) : Int)) := Lib.hid (by
      have e : (2 : Int) ^ a = ((2 ^ a : Nat) : Int) := by rw [Int.natCast_pow]; rfl
      rw [e]
      generalize 2 ^ a = z at *
      rw [IntWalk.u64_in _ (by omega), u64_andNot_nat _ _ hx (by omega)])
    have HV : Hid (EffP B w (if x / 2 ^ a % 2 = 1 then ([x - 2 ^ a], 1, 0) else ([x], 0, 0)) = EffP B w ([x &&& (18446744073709551615 - 2 ^ a)], x / 2 ^ a % 2, 0)) := Lib.hid (by
      split
      · rename_i h0; rw [andn_bit1 x a h9 hx h0, h0]
      · rename_i h0; rw [andn_bit0 x a h9 hx (by omega), show x / 2 ^ a % 2 = 0 by omega])
    rw [HV.out]
    have hd : x / 2 ^ a % 2 ≤ 1 := by omega
    generalize x / 2 ^ a % 2 = d at *
    clear h8 HV
    go_enter Tryz.func140, Tryz.ntmps140
    go_wp2_with (go_at_call 138; refine (HC.out _ HO.out).mono ?_; rintro e w' ⟨rfl, m, rfl⟩)
    go_ret3
    refine ⟨.slice (some ⟨g, 0, none⟩) 1 cap, ?_, ?_, ?_⟩
    · exact congrArg Ending.returned (congrArg Value.tuple (by simp))
    · rw [HS.out]; exact (HO.out.drewN _).stored _ _
    · exact (below_drewN (Below.refl _ _) _).setCell hg _
end
section
set_option maxRecDepth 100000
open Go.ChangeShapes Go.WideShapes Go.ChangeAt Go.RowKit
set_option linter.unusedVariables false

/-- a function's value, and what comes of a call of it: k of type t -/
def EffC (w : World) (t k : Nat) (f : Value) : Prop :=
  ∃ (fid : FuncId) (ex : List Value), f = .func (.func fid) #[] ex.toArray ∧ (∀ (args : Array Value) (w : World), (callFunc fid args).run Tryz.prog w = .ok (.enter fid args) w) ∧
    ∀ (W : World) (B : Nat) (v : Value) (l : List Nat) (a : Nat), Below w.heap.size w W → w.heap.size ≤ B → B ≤ W.heap.size → OwnW W B v l → sqOk t l.length → (∀ x ∈ l, x < 18446744073709551616) → a < 18446744073709551616 →
      Calls Tryz.prog fid (v :: .int .u64 (a : Int) :: ex).toArray W (EffP B W (sqDo t k l a))

/-- the value of a type -/
def SeqV (w : World) (t : Nat) (s : Value) : Prop :=
  ∃ f0 f1 f2, s = .agg #[.int .i64 (sqLo t : Int), .int .i64 (sqHi t : Int), f0, f1, f2] ∧ EffC w t 0 f0 ∧ EffC w t 1 f1 ∧ (if sqN t = 3 then EffC w t 2 f2 else f2 = .nilFunc)

theorem one_of {l : List Nat} {t : Nat} (h : sqOk t l.length) (ht : t = 0 ∨ t = 1 ∨ t = 4 ∨ t = 5 ∨ t = 6) : ∃ x, l = [x] := by
  unfold sqOk sqLo sqHi at h
  rcases l with _ | ⟨x, _ | ⟨y, l⟩⟩
  · rcases ht with rfl | rfl | rfl | rfl | rfl <;> simp at h
  · exact ⟨x, rfl⟩
  · rcases ht with rfl | rfl | rfl | rfl | rfl <;> simp at h
theorem many_of {l : List Nat} {t : Nat} (h : sqOk t l.length) : l.length ≤ 8 := by
  unfold sqOk sqHi at h
  split at h <;> omega
theorem eight_of {l : List Nat} (h : sqOk 7 l.length) : l.length = 8 := by
  unfold sqOk sqLo sqHi at h; simp at h; omega

theorem effC_look (w : World) (t : Nat) (ht : t = 0 ∨ t = 1 ∨ t = 5 ∨ t = 6) : EffC w t 0 (.func (.func 129) #[] #[]) := by
  refine ⟨129, [], rfl, fun args w => by kernel_rfl, fun W B v l a _ _ hB ho hok hx ha => ?_⟩
  obtain ⟨x, rfl⟩ := one_of hok (by omega)
  have := eff_look v x a B W ho
  rcases ht with rfl | rfl | rfl | rfl <;> exact this
theorem effC_update (w : World) (t q f : Nat) (z : Nat → Nat → Nat) (hz : NextP f z) (ht : t = 0 ∨ t = 1 ∨ t = 5) (hd : ∀ x a, x < 18446744073709551616 → a < 18446744073709551616 → sqDo t 1 [x] a = ([z x a], x, 0)) (hq : w.cell? ⟨q, 0, none⟩ = some (.func (.func f) #[] #[])) :
    EffC w t 1 (.func (.func 171) #[] #[.pointer (some ⟨q, 0, none⟩)]) := by
  refine ⟨171, [.pointer (some ⟨q, 0, none⟩)], rfl, fun args w => by kernel_rfl, fun W B v l a hb hwB hB ho hok hx ha => ?_⟩
  obtain ⟨x, rfl⟩ := one_of hok (by omega)
  have hlt := World.block_lt_of_cell? w _ hq
  rw [hd x a (hx x (by simp)) ha]
  exact eff_update v x a B q f z hz W ho (hx x (by simp)) ha ((hb.cell hlt).trans hq) (by simp at hlt; omega) hB
theorem effC_swap (w : World) : EffC w 6 1 (.func (.func 142) #[] #[]) := by
  refine ⟨142, [], rfl, fun args w => by kernel_rfl, fun W B v l a hb hwB hB ho hok hx ha => ?_⟩
  obtain ⟨x, rfl⟩ := one_of hok (by omega)
  exact eff_swap v x a B W ho ha hB
theorem effC_has (w : World) : EffC w 4 0 (.func (.func 138) #[] #[]) := by
  refine ⟨138, [], rfl, fun args w => by kernel_rfl, fun W B v l a hb hwB hB ho hok hx ha => ?_⟩
  obtain ⟨x, rfl⟩ := one_of hok (by omega)
  refine (has_any v x a B W ho (hx x (by simp)) ha).mono ?_
  rintro e w' ⟨rfl, m, rfl⟩
  unfold sqDo
  by_cases h8 : 64 ≤ a
  · simp only [if_pos h8]; exact ⟨v, rfl, ho.drewN _, below_drewN (Below.refl _ _) _⟩
  · simp only [if_neg h8]; exact ⟨v, rfl, ho.drewN _, below_drewN (Below.refl _ _) _⟩
theorem effC_include (w : World) : EffC w 4 1 (.func (.func 139) #[] #[]) := by
  refine ⟨139, [], rfl, fun args w => by kernel_rfl, fun W B v l a hb hwB hB ho hok hx ha => ?_⟩
  obtain ⟨x, rfl⟩ := one_of hok (by omega)
  exact eff_include v x a B W ho (hx x (by simp)) ha hB
theorem effC_exclude (w : World) : EffC w 4 2 (.func (.func 140) #[] #[]) := by
  refine ⟨140, [], rfl, fun args w => by kernel_rfl, fun W B v l a hb hwB hB ho hok hx ha => ?_⟩
  obtain ⟨x, rfl⟩ := one_of hok (by omega)
  exact eff_exclude v x a B W ho (hx x (by simp)) ha hB
theorem effC_add (w : World) (t : Nat) (ht : t = 2 ∨ t = 3) : EffC w t 0 (.func (.func 133) #[] #[]) := by
  refine ⟨133, [], rfl, fun args w => by kernel_rfl, fun W B v l a hb hwB hB ho hok hx ha => ?_⟩
  have := eff_add v l a B W ho (many_of hok) hB
  rcases ht with rfl | rfl <;> exact this
theorem effC_removeLast (w : World) : EffC w 2 1 (.func (.func 134) #[] #[]) := by
  refine ⟨134, [], rfl, fun args w => by kernel_rfl, fun W B v l a hb hwB hB ho hok hx ha => ?_⟩
  exact eff_removeLast v l a B W ho (many_of hok) hB
theorem effC_removeFirst (w : World) : EffC w 3 1 (.func (.func 136) #[] #[]) := by
  refine ⟨136, [], rfl, fun args w => by kernel_rfl, fun W B v l a hb hwB hB ho hok hx ha => ?_⟩
  exact eff_removeFirst v l a B W ho (many_of hok) hB
theorem effC_showLast (w : World) : EffC w 2 2 (.func (.func 135) #[] #[]) := by
  refine ⟨135, [], rfl, fun args w => by kernel_rfl, fun W B v l a hb hwB hB ho hok hx ha => ?_⟩
  refine (eff_showLast v l a B W ho (many_of hok)).mono ?_
  rintro e w' ⟨rfl, m, rfl⟩
  unfold sqDo
  by_cases h8 : l.length = 0
  · simp only [if_pos h8]; exact ⟨v, rfl, ho.drewN _, below_drewN (Below.refl _ _) _⟩
  · simp only [if_neg h8]; exact ⟨v, rfl, ho.drewN _, below_drewN (Below.refl _ _) _⟩
theorem effC_showFirst (w : World) : EffC w 3 2 (.func (.func 137) #[] #[]) := by
  refine ⟨137, [], rfl, fun args w => by kernel_rfl, fun W B v l a hb hwB hB ho hok hx ha => ?_⟩
  refine (eff_showFirst v l a B W ho).mono ?_
  rintro e w' ⟨rfl, m, rfl⟩
  unfold sqDo
  by_cases h8 : l.length = 0
  · simp only [if_pos h8]; exact ⟨v, rfl, ho.drewN _, below_drewN (Below.refl _ _) _⟩
  · simp only [if_neg h8]; exact ⟨v, rfl, ho.drewN _, below_drewN (Below.refl _ _) _⟩
theorem effC_lookUp (w : World) : EffC w 7 0 (.func (.func 143) #[] #[]) := by
  refine ⟨143, [], rfl, fun args w => by kernel_rfl, fun W B v l a hb hwB hB ho hok hx ha => ?_⟩
  refine (lookUp_any v l a B W ho (eight_of hok) ha).mono ?_
  rintro e w' ⟨rfl, m, rfl⟩
  unfold sqDo
  by_cases h8 : 8 ≤ a
  · simp only [if_pos h8]; exact ⟨v, rfl, ho.drewN _, below_drewN (Below.refl _ _) _⟩
  · simp only [if_neg h8]; exact ⟨v, rfl, ho.drewN _, below_drewN (Below.refl _ _) _⟩
theorem effC_store (w : World) : EffC w 7 1 (.func (.func 144) #[] #[]) := by
  refine ⟨144, [], rfl, fun args w => by kernel_rfl, fun W B v l a hb hwB hB ho hok hx ha => ?_⟩
  exact eff_store v l a B W ho (eight_of hok) ha hB

/-- what find leaves, if there is the type -/
def FindP (t : Nat) (W : World) (e : Ending) (w' : World) : Prop := ∃ s, e = .returned (.tuple #[s, .bool true]) ∧ SeqV w' t s ∧ Below W.heap.size W w'

set_option maxHeartbeats 1000000 in
theorem update_any (f : Nat) (w : World) :
    Calls Tryz.prog 130 #[.func (.func f) #[] #[]] w fun e w' => e = .returned (.func (.func 171) #[] #[.pointer (some ⟨w.heap.size, 0, none⟩)]) ∧ w'.cell? ⟨w.heap.size, 0, none⟩ = some (.func (.func f) #[] #[]) ∧ Below w.heap.size w w' ∧ w'.heap.size = w.heap.size + 1 := by
  have hmf : ∀ (fn : Fn) (first cap : Array Value) (w : World), (Instr.makeFunc fn first cap).run Tryz.prog w = .ok (.func fn first cap) w := fun _ _ _ _ => rfl
  go_enter Tryz.func130, Tryz.ntmps130
  go_wp2_with fail
  go_ret
  exact ⟨rfl, World.cell?_alloc_at _ _ _ _ rfl, (Below.refl _ _).alloc (Nat.le_refl _) _, by simp⟩
end
section
set_option maxRecDepth 100000
open Go.ChangeShapes Go.WideShapes Go.ChangeAt Go.RowKit
set_option linter.unusedVariables false

theorem free_of_blk {w : World} {b k : Nat} {c : Array Value} {t : TypeId} (h : w.heap[b]? = some (.cells c t (0, 0))) : w.frozen? ⟨b, k, none⟩ = false := by simp [World.frozen?, h]
theorem cell_of_blk {w : World} {b k : Nat} {c : Array Value} {t : TypeId} {fr : Nat × Nat} {v : Value} (h : w.heap[b]? = some (.cells c t fr)) (hv : c[k]? = some v) : w.cell? ⟨b, k, none⟩ = some v := by
  unfold World.cell?; rw [h]; simpa using hv
theorem raise_do (x a : Nat) : sqDo 5 1 [x] a = ([if x < a then a else x], x, 0) := by
  show (if x < a then ([a], x, 0) else ([x], x, 0)) = _
  split <;> rfl
def seqZ : Obj := .cells #[.int .i64 0, .int .i64 0, .nilFunc, .nilFunc, .nilFunc] 161
/-- five cells of one block are stored -/
def put5 (w : World) (b : Nat) (v0 v1 v2 v3 v4 : Value) : World := ((((w.setCell ⟨b, 0, none⟩ v0).setCell ⟨b, 1, none⟩ v1).setCell ⟨b, 2, none⟩ v2).setCell ⟨b, 3, none⟩ v3).setCell ⟨b, 4, none⟩ v4
theorem put5_below {a w : World} {B b : Nat} (h : Below B a w) (hb : B ≤ b) (v0 v1 v2 v3 v4 : Value) : Below B a (put5 w b v0 v1 v2 v3 v4) :=
  ((((h.setCell (p := ⟨b, 0, none⟩) hb _).setCell (p := ⟨b, 1, none⟩) hb _).setCell (p := ⟨b, 2, none⟩) hb _).setCell (p := ⟨b, 3, none⟩) hb _).setCell (p := ⟨b, 4, none⟩) hb _
theorem put5_cell (w : World) (b q : Nat) (hq : q ≠ b) (v0 v1 v2 v3 v4 : Value) : (put5 w b v0 v1 v2 v3 v4).cell? ⟨q, 0, none⟩ = w.cell? ⟨q, 0, none⟩ := by
  have h : ∀ (w : World) (k : Nat) (u : Value), (w.setCell ⟨b, k, none⟩ u).cell? ⟨q, 0, none⟩ = w.cell? ⟨q, 0, none⟩ := fun w k u => by
    unfold World.cell?
    rw [Below.heap_setCell w ⟨b, k, none⟩ u q hq]
  unfold put5
  rw [h, h, h, h, h]

set_option maxHeartbeats 1000000 in
theorem find_0 (w : World) : Calls Tryz.prog 109 #[.int .i64 0] w (FindP 0 w) := by
  go_enter Tryz.func109, Tryz.ntmps109
  go_wp2_with (go_at_call 130; refine (update_any _ _).mono ?_; rintro e w5 ⟨rfl, hq, hb, hs⟩; (have hbk : w5.heap[w.heap.size]? = some seqZ := (hb.block _ (by simp)).trans (heap_alloc_new _ _)); (have k0 := cell_of_blk (k := 0) hbk rfl); (have k1 := cell_of_blk (k := 1) hbk rfl); (have k2 := cell_of_blk (k := 2) hbk rfl); (have k3 := cell_of_blk (k := 3) hbk rfl); (have k4 := cell_of_blk (k := 4) hbk rfl); (have z0 := free_of_blk (k := 0) hbk); (have z1 := free_of_blk (k := 1) hbk); (have z2 := free_of_blk (k := 2) hbk); (have z3 := free_of_blk (k := 3) hbk); (have z4 := free_of_blk (k := 4) hbk); (have HQ := Lib.hid hq); (have HB := Lib.hid hb); clear hq hb hbk hs)
  have HQ2 : w5.cell? ⟨w.heap.size + 1, 0, none⟩ = some (.func (.func 131) #[] #[]) := by have := HQ.out; simpa using this
  have HB2 : Below w.heap.size w w5 := ((Below.refl _ _).alloc (Nat.le_refl _) _).trans (HB.out.mono (by simp))
  refine bodyPost_ret (v := .tuple #[.agg #[.int .i64 1, .int .i64 1, (.func (.func 129) #[] #[]), (.func (.func 171) #[] #[.pointer (some ⟨w.heap.size + 1, 0, none⟩)]), .nilFunc], .bool true]) (by simp [results, Tryz.results109, go_sem, k0, k1, k2, k3, k4]) rfl ⟨_, rfl, ⟨_, _, _, rfl, effC_look _ 0 (by decide), effC_update _ 0 (w.heap.size + 1) 131 (fun _ a => a) next_replaced (by decide) (fun x a hx ha => rfl) ((put5_cell w5 w.heap.size (w.heap.size + 1) (by omega) _ _ _ _ _).trans HQ2), rfl⟩, put5_below HB2 (Nat.le_refl _) _ _ _ _ _⟩

set_option maxHeartbeats 1000000 in
theorem find_1 (w : World) : Calls Tryz.prog 109 #[.int .i64 1] w (FindP 1 w) := by
  go_enter Tryz.func109, Tryz.ntmps109
  go_wp2_with (go_at_call 130; refine (update_any _ _).mono ?_; rintro e w5 ⟨rfl, hq, hb, hs⟩; (have hbk : w5.heap[w.heap.size]? = some seqZ := (hb.block _ (by simp)).trans (heap_alloc_new _ _)); (have k0 := cell_of_blk (k := 0) hbk rfl); (have k1 := cell_of_blk (k := 1) hbk rfl); (have k2 := cell_of_blk (k := 2) hbk rfl); (have k3 := cell_of_blk (k := 3) hbk rfl); (have k4 := cell_of_blk (k := 4) hbk rfl); (have z0 := free_of_blk (k := 0) hbk); (have z1 := free_of_blk (k := 1) hbk); (have z2 := free_of_blk (k := 2) hbk); (have z3 := free_of_blk (k := 3) hbk); (have z4 := free_of_blk (k := 4) hbk); (have HQ := Lib.hid hq); (have HB := Lib.hid hb); clear hq hb hbk hs)
  have HQ2 : w5.cell? ⟨w.heap.size + 1, 0, none⟩ = some (.func (.func 132) #[] #[]) := by have := HQ.out; simpa using this
  have HB2 : Below w.heap.size w w5 := ((Below.refl _ _).alloc (Nat.le_refl _) _).trans (HB.out.mono (by simp))
  refine bodyPost_ret (v := .tuple #[.agg #[.int .i64 1, .int .i64 1, (.func (.func 129) #[] #[]), (.func (.func 171) #[] #[.pointer (some ⟨w.heap.size + 1, 0, none⟩)]), .nilFunc], .bool true]) (by simp [results, Tryz.results109, go_sem, k0, k1, k2, k3, k4]) rfl ⟨_, rfl, ⟨_, _, _, rfl, effC_look _ 1 (by decide), effC_update _ 1 (w.heap.size + 1) 132 (fun x a => (x + a) % 18446744073709551616) next_increased (by decide) (fun x a hx ha => rfl) ((put5_cell w5 w.heap.size (w.heap.size + 1) (by omega) _ _ _ _ _).trans HQ2), rfl⟩, put5_below HB2 (Nat.le_refl _) _ _ _ _ _⟩

set_option maxHeartbeats 1000000 in
theorem find_2 (w : World) : Calls Tryz.prog 109 #[.int .i64 2] w (FindP 2 w) := by
  go_enter Tryz.func109, Tryz.ntmps109
  go_wp2_with fail
  refine bodyPost_ret (v := .tuple #[.agg #[.int .i64 0, .int .i64 8, (.func (.func 133) #[] #[]), (.func (.func 134) #[] #[]), (.func (.func 135) #[] #[])], .bool true]) (by simp [results, Tryz.results109, go_sem]) rfl ⟨_, rfl, ⟨_, _, _, rfl, effC_add _ 2 (by decide), effC_removeLast _, effC_showLast _⟩, (Below.refl _ _).alloc (Nat.le_refl _) _⟩

set_option maxHeartbeats 1000000 in
theorem find_3 (w : World) : Calls Tryz.prog 109 #[.int .i64 3] w (FindP 3 w) := by
  go_enter Tryz.func109, Tryz.ntmps109
  go_wp2_with fail
  refine bodyPost_ret (v := .tuple #[.agg #[.int .i64 0, .int .i64 8, (.func (.func 133) #[] #[]), (.func (.func 136) #[] #[]), (.func (.func 137) #[] #[])], .bool true]) (by simp [results, Tryz.results109, go_sem]) rfl ⟨_, rfl, ⟨_, _, _, rfl, effC_add _ 3 (by decide), effC_removeFirst _, effC_showFirst _⟩, (Below.refl _ _).alloc (Nat.le_refl _) _⟩

set_option maxHeartbeats 1000000 in
theorem find_4 (w : World) : Calls Tryz.prog 109 #[.int .i64 4] w (FindP 4 w) := by
  go_enter Tryz.func109, Tryz.ntmps109
  go_wp2_with fail
  refine bodyPost_ret (v := .tuple #[.agg #[.int .i64 1, .int .i64 1, (.func (.func 138) #[] #[]), (.func (.func 139) #[] #[]), (.func (.func 140) #[] #[])], .bool true]) (by simp [results, Tryz.results109, go_sem]) rfl ⟨_, rfl, ⟨_, _, _, rfl, effC_has _, effC_include _, effC_exclude _⟩, (Below.refl _ _).alloc (Nat.le_refl _) _⟩

set_option maxHeartbeats 1000000 in
theorem find_5 (w : World) : Calls Tryz.prog 109 #[.int .i64 5] w (FindP 5 w) := by
  go_enter Tryz.func109, Tryz.ntmps109
  go_wp2_with (go_at_call 130; refine (update_any _ _).mono ?_; rintro e w5 ⟨rfl, hq, hb, hs⟩; (have hbk : w5.heap[w.heap.size]? = some seqZ := (hb.block _ (by simp)).trans (heap_alloc_new _ _)); (have k0 := cell_of_blk (k := 0) hbk rfl); (have k1 := cell_of_blk (k := 1) hbk rfl); (have k2 := cell_of_blk (k := 2) hbk rfl); (have k3 := cell_of_blk (k := 3) hbk rfl); (have k4 := cell_of_blk (k := 4) hbk rfl); (have z0 := free_of_blk (k := 0) hbk); (have z1 := free_of_blk (k := 1) hbk); (have z2 := free_of_blk (k := 2) hbk); (have z3 := free_of_blk (k := 3) hbk); (have z4 := free_of_blk (k := 4) hbk); (have HQ := Lib.hid hq); (have HB := Lib.hid hb); clear hq hb hbk hs)
  have HQ2 : w5.cell? ⟨w.heap.size + 1, 0, none⟩ = some (.func (.func 141) #[] #[]) := by have := HQ.out; simpa using this
  have HB2 : Below w.heap.size w w5 := ((Below.refl _ _).alloc (Nat.le_refl _) _).trans (HB.out.mono (by simp))
  refine bodyPost_ret (v := .tuple #[.agg #[.int .i64 1, .int .i64 1, (.func (.func 129) #[] #[]), (.func (.func 171) #[] #[.pointer (some ⟨w.heap.size + 1, 0, none⟩)]), .nilFunc], .bool true]) (by simp [results, Tryz.results109, go_sem, k0, k1, k2, k3, k4]) rfl ⟨_, rfl, ⟨_, _, _, rfl, effC_look _ 5 (by decide), effC_update _ 5 (w.heap.size + 1) 141 (fun x a => if x < a then a else x) next_raised (by decide) (fun x a hx ha => raise_do x a) ((put5_cell w5 w.heap.size (w.heap.size + 1) (by omega) _ _ _ _ _).trans HQ2), rfl⟩, put5_below HB2 (Nat.le_refl _) _ _ _ _ _⟩

set_option maxHeartbeats 1000000 in
theorem find_6 (w : World) : Calls Tryz.prog 109 #[.int .i64 6] w (FindP 6 w) := by
  go_enter Tryz.func109, Tryz.ntmps109
  go_wp2_with fail
  refine bodyPost_ret (v := .tuple #[.agg #[.int .i64 1, .int .i64 1, (.func (.func 129) #[] #[]), (.func (.func 142) #[] #[]), .nilFunc], .bool true]) (by simp [results, Tryz.results109, go_sem]) rfl ⟨_, rfl, ⟨_, _, _, rfl, effC_look _ 6 (by decide), effC_swap _, rfl⟩, (Below.refl _ _).alloc (Nat.le_refl _) _⟩

set_option maxHeartbeats 1000000 in
theorem find_7 (w : World) : Calls Tryz.prog 109 #[.int .i64 7] w (FindP 7 w) := by
  go_enter Tryz.func109, Tryz.ntmps109
  go_wp2_with fail
  refine bodyPost_ret (v := .tuple #[.agg #[.int .i64 8, .int .i64 8, (.func (.func 143) #[] #[]), (.func (.func 144) #[] #[]), .nilFunc], .bool true]) (by simp [results, Tryz.results109, go_sem]) rfl ⟨_, rfl, ⟨_, _, _, rfl, effC_lookUp _, effC_store _, rfl⟩, (Below.refl _ _).alloc (Nat.le_refl _) _⟩

set_option maxHeartbeats 1000000 in
theorem find_none (t : Int) (w : World) (ht : ¬ (0 ≤ t ∧ t ≤ 7)) : Calls Tryz.prog 109 #[.int .i64 t] w fun e w' => e = .returned (.tuple #[.agg #[.int .i64 0, .int .i64 0, .nilFunc, .nilFunc, .nilFunc], .bool false]) ∧ Below w.heap.size w w' := by
  have h0 : ¬ t = 0 := by omega
  have h1 : ¬ t = 1 := by omega
  have h2 : ¬ t = 2 := by omega
  have h3 : ¬ t = 3 := by omega
  have h4 : ¬ t = 4 := by omega
  have h5 : ¬ t = 5 := by omega
  have h6 : ¬ t = 6 := by omega
  have h7 : ¬ t = 7 := by omega
  clear ht
  go_enter Tryz.func109, Tryz.ntmps109
  go_wp2_with fail
  refine bodyPost_ret (v := .tuple #[.agg #[.int .i64 0, .int .i64 0, .nilFunc, .nilFunc, .nilFunc], .bool false]) (by simp [results, Tryz.results109, go_sem]) rfl ⟨rfl, (Below.refl _ _).alloc (Nat.le_refl _) _⟩

theorem find_any (t : Nat) (ht : t ≤ 7) (w : World) : Calls Tryz.prog 109 #[.int .i64 (t : Int)] w (FindP t w) := by
  match t, ht with
  | 0, _ => exact find_0 w
  | 1, _ => exact find_1 w
  | 2, _ => exact find_2 w
  | 3, _ => exact find_3 w
  | 4, _ => exact find_4 w
  | 5, _ => exact find_5 w
  | 6, _ => exact find_6 w
  | 7, _ => exact find_7 w
end
section
set_option maxRecDepth 100000
open Go.ChangeShapes Go.WideShapes Go.ChangeAt Go.RowKit
set_option linter.unusedVariables false

def sqRight (t : Int) (l : List Nat) : Bool := sqIs t && (decide (sqLo t.toNat ≤ l.length) && decide (l.length ≤ sqHi t.toNat))
def sqKinds (t : Int) : Nat := if sqIs t then sqN t.toNat else 0
theorem sqLo_le (t : Nat) : sqLo t ≤ 8 := by unfold sqLo; split <;> (try split) <;> omega
theorem sqHi_le (t : Nat) : sqHi t ≤ 8 := by unfold sqHi; split <;> omega
theorem sqIs_yes {t : Int} (h : 0 ≤ t ∧ t ≤ 7) : sqIs t = true := by unfold sqIs; simp [h]
theorem sqIs_no {t : Int} (h : ¬ (0 ≤ t ∧ t ≤ 7)) : sqIs t = false := by
  unfold sqIs
  by_cases h0 : 0 ≤ t
  · have : ¬ t ≤ 7 := by omega
    simp [this]
  · simp [h0]

theorem run_eql_func (fn : Fn) (first cap : Array Value) (w : World) : (binOp .eql 159 (.func fn first cap) .nilFunc).run Tryz.prog w = .ok (.bool false) w := by kernel_rfl
theorem run_eql_nilF (w : World) : (binOp .eql 159 .nilFunc .nilFunc).run Tryz.prog w = .ok (.bool true) w := by kernel_rfl

/-- what a call of an operation's function gives -/
def EffK (w : World) (t k fid : Nat) (ex : List Value) : Prop :=
  (∀ (args : Array Value) (w : World), (callFunc fid args).run Tryz.prog w = .ok (.enter fid args) w) ∧
    ∀ (W : World) (B : Nat) (v : Value) (l : List Nat) (a : Nat), Below w.heap.size w W → w.heap.size ≤ B → B ≤ W.heap.size → OwnW W B v l → sqOk t l.length → (∀ x ∈ l, x < 18446744073709551616) → a < 18446744073709551616 →
      Calls Tryz.prog fid (v :: .int .u64 (a : Int) :: ex).toArray W (EffP B W (sqDo t k l a))

/-- what find leaves: a type of 2 operations -/
def Find2 (t : Nat) (W : World) (e : Ending) (w' : World) : Prop :=
  ∃ (g0 : Nat) (e0 : List Value) (g1 : Nat) (e1 : List Value), e = .returned (.tuple #[.agg #[.int .i64 (sqLo t : Int), .int .i64 (sqHi t : Int), .func (.func g0) #[] e0.toArray, .func (.func g1) #[] e1.toArray, .nilFunc], .bool true]) ∧ EffK w' t 0 g0 e0 ∧ EffK w' t 1 g1 e1 ∧ Below W.heap.size W w'
theorem find2_any (t : Nat) (ht : t ≤ 7) (hN : sqN t = 2) (w : World) : Calls Tryz.prog 109 #[.int .i64 (t : Int)] w (Find2 t w) := by
  refine (find_any t ht w).mono ?_
  rintro e w' ⟨s, rfl, ⟨f0, f1, f2, rfl, ⟨g0, e0, rfl, h0⟩, ⟨g1, e1, rfl, h1⟩, h2⟩, hb⟩
  rw [hN] at h2
  rw [if_neg (by decide)] at h2
  subst h2
  exact ⟨g0, e0, g1, e1, rfl, h0, h1, hb⟩

/-- what find leaves: a type of 3 operations -/
def Find3 (t : Nat) (W : World) (e : Ending) (w' : World) : Prop :=
  ∃ (g0 : Nat) (e0 : List Value) (g1 : Nat) (e1 : List Value) (g2 : Nat) (e2 : List Value), e = .returned (.tuple #[.agg #[.int .i64 (sqLo t : Int), .int .i64 (sqHi t : Int), .func (.func g0) #[] e0.toArray, .func (.func g1) #[] e1.toArray, .func (.func g2) #[] e2.toArray], .bool true]) ∧ EffK w' t 0 g0 e0 ∧ EffK w' t 1 g1 e1 ∧ EffK w' t 2 g2 e2 ∧ Below W.heap.size W w'
theorem find3_any (t : Nat) (ht : t ≤ 7) (hN : sqN t = 3) (w : World) : Calls Tryz.prog 109 #[.int .i64 (t : Int)] w (Find3 t w) := by
  refine (find_any t ht w).mono ?_
  rintro e w' ⟨s, rfl, ⟨f0, f1, f2, rfl, ⟨g0, e0, rfl, h0⟩, ⟨g1, e1, rfl, h1⟩, h2⟩, hb⟩
  rw [hN] at h2
  rw [if_pos rfl] at h2
  obtain ⟨g2, e2, rfl, h2⟩ := h2
  exact ⟨g0, e0, g1, e1, g2, e2, rfl, h0, h1, h2, hb⟩

set_option maxHeartbeats 400000 in
theorem kinds2_any (lo hi : Nat) (g0 : Nat) (e0 : List Value) (g1 : Nat) (e1 : List Value) (w : World) :
    Calls Tryz.prog 202 #[.agg #[.int .i64 (lo : Int), .int .i64 (hi : Int), .func (.func g0) #[] e0.toArray, .func (.func g1) #[] e1.toArray, .nilFunc]] w fun e w' => e = .returned (.int .i64 2) ∧ Below w.heap.size w w' := by
  have qF := run_eql_func
  have qN := run_eql_nilF
  go_enter Tryz.func202, Tryz.ntmps202
  go_wp2_with fail
  go_ret
  exact ⟨rfl, (Below.refl _ _).alloc (Nat.le_refl _) _⟩
set_option maxHeartbeats 400000 in
theorem kinds3_any (lo hi : Nat) (g0 : Nat) (e0 : List Value) (g1 : Nat) (e1 : List Value) (g2 : Nat) (e2 : List Value) (w : World) :
    Calls Tryz.prog 202 #[.agg #[.int .i64 (lo : Int), .int .i64 (hi : Int), .func (.func g0) #[] e0.toArray, .func (.func g1) #[] e1.toArray, .func (.func g2) #[] e2.toArray]] w fun e w' => e = .returned (.int .i64 3) ∧ Below w.heap.size w w' := by
  have qF := run_eql_func
  have qN := run_eql_nilF
  go_enter Tryz.func202, Tryz.ntmps202
  go_wp2_with fail
  go_ret
  exact ⟨rfl, (Below.refl _ _).alloc (Nat.le_refl _) _⟩
set_option maxHeartbeats 400000 in
theorem right_any (lo hi : Nat) (f0 f1 f2 v : Value) (l : List Nat) (w : World) (h : ArgW w v l) (hl : l.length ≤ 9223372036854775807) :
    Calls Tryz.prog 145 #[.agg #[.int .i64 (lo : Int), .int .i64 (hi : Int), f0, f1, f2], v] w fun e w' => e = .returned (.bool (decide (lo ≤ l.length) && decide (l.length ≤ hi))) ∧ Below w.heap.size w w' := by
  obtain ⟨ao, cap, rfl⟩ := h.isSlice
  clear h
  generalize l.length = n at *
  by_cases h1 : lo ≤ n
  · by_cases h2 : n ≤ hi
    · go_enter Tryz.func145, Tryz.ntmps145
      go_wp2_with fail
      go_ret
      exact ⟨ret_bool (by simp [h1, h2]), (Below.refl _ _).alloc (Nat.le_refl _) _⟩
    · go_enter Tryz.func145, Tryz.ntmps145
      go_wp2_with fail
      go_ret
      exact ⟨ret_bool (by simp [h1]; omega), (Below.refl _ _).alloc (Nat.le_refl _) _⟩
  · go_enter Tryz.func145, Tryz.ntmps145
    go_wp2_with fail
    go_ret
    exact ⟨ret_bool (by simp [h1]), (Below.refl _ _).alloc (Nat.le_refl _) _⟩

set_option maxHeartbeats 400000 in
theorem effect_any (z : Value) (lo hi : Int) (f0 f1 f2 : Value) (k : Int) (w : World) (hk : k = 0 ∧ z = f0 ∨ k = 1 ∧ z = f1 ∨ k = 2 ∧ z = f2 ∨ (k < 0 ∨ 2 < k) ∧ z = .nilFunc) :
    Calls Tryz.prog 178 #[.agg #[.int .i64 lo, .int .i64 hi, f0, f1, f2], .int .i64 k] w fun e w' => e = .returned z ∧ Below w.heap.size w w' := by
  rcases hk with ⟨rfl, rfl⟩ | ⟨rfl, rfl⟩ | ⟨rfl, rfl⟩ | ⟨hk, rfl⟩
  · go_enter Tryz.func178, Tryz.ntmps178
    go_wp2_with fail
    go_ret
    exact ⟨rfl, (Below.refl _ _).alloc (Nat.le_refl _) _⟩
  · go_enter Tryz.func178, Tryz.ntmps178
    go_wp2_with fail
    go_ret
    exact ⟨rfl, (Below.refl _ _).alloc (Nat.le_refl _) _⟩
  · go_enter Tryz.func178, Tryz.ntmps178
    go_wp2_with fail
    go_ret
    exact ⟨rfl, (Below.refl _ _).alloc (Nat.le_refl _) _⟩
  · have n0 : ¬ k = 0 := by omega
    have n1 : ¬ k = 1 := by omega
    have n2 : ¬ k = 2 := by omega
    clear hk
    go_enter Tryz.func178, Tryz.ntmps178
    go_wp2_with fail
    go_ret
    exact ⟨rfl, (Below.refl _ _).alloc (Nat.le_refl _) _⟩

set_option maxHeartbeats 400000 in
theorem seqKinds_any (t : Int) (w : World) :
    Calls Tryz.prog 195 #[.int .i64 t] w fun e w' => e = .returned (.int .i64 (sqKinds t : Int)) ∧ Below w.heap.size w w' := by
  by_cases h : 0 ≤ t ∧ t ≤ 7
  · obtain ⟨n, rfl⟩ : ∃ n : Nat, t = n := ⟨t.toNat, by omega⟩
    have hn : n ≤ 7 := by omega
    have hN : sqN n = 3 ∨ sqN n = 2 := by unfold sqN; split <;> omega
    have hlo := sqLo_le n
    have hhi := sqHi_le n
    unfold sqKinds
    rw [sqIs_yes h, if_pos rfl, Int.toNat_natCast]
    clear h
    rcases hN with hN | hN
    · have HF := Lib.hid (fun w => find3_any n hn hN w)
      rw [hN]
      unfold Find3 at HF
      generalize sqLo n = lo at *
      generalize sqHi n = hi at *
      go_enter Tryz.func195, Tryz.ntmps195
      go_wp2_with (first
        | (go_at_call 109; refine (HF.out _).mono ?_; rintro e w5 ⟨g0, e0, g1, e1, g2, e2, rfl, hk0, hk1, hk2, hb⟩; (have HB := Lib.hid hb); (have HK0 := Lib.hid hk0); (have HK1 := Lib.hid hk1); (have HK2 := Lib.hid hk2); clear hb hk0 hk1 hk2)
        | (go_at_call 202; refine (kinds3_any lo hi _ _ _ _ _ _ _).mono ?_; rintro e w6 ⟨rfl, hb⟩; (have HB6 := Lib.hid hb); clear hb))
      go_ret
      exact ⟨rfl, (HB.out.alloc HB.out.size _).trans (HB6.out.mono (by have := HB.out.size; simp; omega))⟩
    · have HF := Lib.hid (fun w => find2_any n hn hN w)
      rw [hN]
      unfold Find2 at HF
      generalize sqLo n = lo at *
      generalize sqHi n = hi at *
      go_enter Tryz.func195, Tryz.ntmps195
      go_wp2_with (first
        | (go_at_call 109; refine (HF.out _).mono ?_; rintro e w5 ⟨g0, e0, g1, e1, rfl, hk0, hk1, hb⟩; (have HB := Lib.hid hb); (have HK0 := Lib.hid hk0); (have HK1 := Lib.hid hk1); clear hb hk0 hk1)
        | (go_at_call 202; refine (kinds2_any lo hi _ _ _ _ _).mono ?_; rintro e w6 ⟨rfl, hb⟩; (have HB6 := Lib.hid hb); clear hb))
      go_ret
      exact ⟨rfl, (HB.out.alloc HB.out.size _).trans (HB6.out.mono (by have := HB.out.size; simp; omega))⟩
  · unfold sqKinds
    rw [sqIs_no h, if_neg (by simp)]
    have HF := Lib.hid (fun w => find_none t w h)
    clear h
    go_enter Tryz.func195, Tryz.ntmps195
    go_wp2_with (go_at_call 109; refine (HF.out _).mono ?_; rintro e w5 ⟨rfl, hb⟩; (have HB := Lib.hid hb); clear hb)
    go_ret
    exact ⟨rfl, HB.out.alloc HB.out.size _⟩

theorem made_own (w : World) (n B b : Nat) (hb : b = w.heap.size) (hn : n ≤ 4294967296) (hB : B ≤ w.heap.size) : OwnW (w.alloc (.cells (Array.replicate n (wU 0)) 55)) B (.slice (some ⟨b, 0, none⟩) n n) (List.replicate n 0) := by
  subst hb
  unfold OwnW
  rw [List.length_replicate]
  have := World.ownsRow_lit (base := B) (e := 55) (size := 1) w (Array.replicate n (wU 0)) n hB (by unfold maxLen; omega) (by simp)
  simpa using this
theorem run_mkW (n : Nat) (hn : n ≤ 4294967296) (w : World) : (Instr.makeSlice 37 (.int .i64 (n : Int)) (.int .i64 (n : Int))).run Tryz.prog w = .ok (.slice (some ⟨w.heap.size, 0, none⟩) n n) (w.alloc (.cells (Array.replicate n (wU 0)) 55)) := by
  obtain ⟨i0, hi, hz0, hz1, hz2⟩ := info_parts info22
  have h := run_make (P := Tryz.prog) w 37 55 i0 (.int .u64 0) Tryz.underlying37 hi hz0 .i64 .i64 n n (by omega) (by omega) (by rw [hz2]; omega) (by omega)
  simp only [Int.toNat_natCast] at h
  have e : madeCells (Value.int .u64 0).cells n = Array.replicate n (wU 0) := by
    apply Array.ext'
    rw [Array.toList_replicate]
    exact toList_madeCells_one (.int .u64 0) n
  rw [h, hz1, Nat.mul_one, e]

set_option maxHeartbeats 400000 in
theorem seqNew_any (t : Int) (w : World) :
    Calls Tryz.prog 89 #[.int .i64 t] w (GivesW (if sqIs t then List.replicate (sqLo t.toNat) 0 else []) w) := by
  by_cases h : 0 ≤ t ∧ t ≤ 7
  · obtain ⟨n, rfl⟩ : ∃ n : Nat, t = n := ⟨t.toNat, by omega⟩
    have hn : n ≤ 7 := by omega
    have hN : sqN n = 3 ∨ sqN n = 2 := by unfold sqN; split <;> omega
    have hlo := sqLo_le n
    rw [sqIs_yes h, if_pos rfl, Int.toNat_natCast]
    have HM := run_mkW (sqLo n) (by omega)
    clear h
    rcases hN with hN | hN
    · have HF := Lib.hid (fun w => find3_any n hn hN w)
      unfold Find3 at HF
      generalize sqLo n = lo at *
      generalize sqHi n = hi at *
      go_enter Tryz.func89, Tryz.ntmps89
      go_wp2_with (go_at_call 109; refine (HF.out _).mono ?_; rintro e w5 ⟨g0, e0, g1, e1, g2, e2, rfl, hk0, hk1, hk2, hb⟩; (have HB := Lib.hid hb); (have HK0 := Lib.hid hk0); (have HK1 := Lib.hid hk1); (have HK2 := Lib.hid hk2); clear hb hk0 hk1 hk2)
      go_ret
      have hsz : w.heap.size ≤ w5.heap.size := HB.out.size
      refine ⟨_, rfl, made_own (w5.alloc _) lo _ _ (by simp) (by omega) (by simp; omega), (HB.out.alloc hsz _).alloc (by first | omega | (simp; omega)) _⟩
    · have HF := Lib.hid (fun w => find2_any n hn hN w)
      unfold Find2 at HF
      generalize sqLo n = lo at *
      generalize sqHi n = hi at *
      go_enter Tryz.func89, Tryz.ntmps89
      go_wp2_with (go_at_call 109; refine (HF.out _).mono ?_; rintro e w5 ⟨g0, e0, g1, e1, rfl, hk0, hk1, hb⟩; (have HB := Lib.hid hb); (have HK0 := Lib.hid hk0); (have HK1 := Lib.hid hk1); clear hb hk0 hk1)
      go_ret
      have hsz : w.heap.size ≤ w5.heap.size := HB.out.size
      refine ⟨_, rfl, made_own (w5.alloc _) lo _ _ (by simp) (by omega) (by simp; omega), (HB.out.alloc hsz _).alloc (by first | omega | (simp; omega)) _⟩
  · rw [sqIs_no h, if_neg (by simp)]
    have HF := Lib.hid (fun w => find_none t w h)
    clear h
    go_enter Tryz.func89, Tryz.ntmps89
    go_wp2_with (go_at_call 109; refine (HF.out _).mono ?_; rintro e w5 ⟨rfl, hb⟩; (have HB := Lib.hid hb); clear hb)
    go_ret
    exact ⟨_, rfl, OwnW.nil _ _, HB.out.alloc HB.out.size _⟩

set_option maxHeartbeats 400000 in
theorem seqRight_any (t : Int) (v : Value) (l : List Nat) (w : World) (ha : ArgW w v l) (hl : l.length ≤ 9223372036854775807) :
    Calls Tryz.prog 111 #[.int .i64 t, v] w fun e w' => e = .returned (.bool (sqRight t l)) ∧ Below w.heap.size w w' := by
  by_cases h : 0 ≤ t ∧ t ≤ 7
  · obtain ⟨n, rfl⟩ : ∃ n : Nat, t = n := ⟨t.toNat, by omega⟩
    have hn : n ≤ 7 := by omega
    have hN : sqN n = 3 ∨ sqN n = 2 := by unfold sqN; split <;> omega
    unfold sqRight
    rw [sqIs_yes h, Bool.true_and, Int.toNat_natCast]
    have HA := Lib.hid ha
    have hlo := sqLo_le n
    have hhi := sqHi_le n
    have HR := Lib.hid (fun lo hi f0 f1 f2 W (h : ArgW W v l) => right_any lo hi f0 f1 f2 v l W h hl)
    clear h ha
    rcases hN with hN | hN
    · have HF := Lib.hid (fun w => find3_any n hn hN w)
      unfold Find3 at HF
      generalize sqLo n = lo at *
      generalize sqHi n = hi at *
      have HR2 := Lib.hid (HR.out lo hi)
      generalize (decide (lo ≤ l.length) && decide (l.length ≤ hi)) = d at *
      go_enter Tryz.func111, Tryz.ntmps111
      go_wp2_with (first
        | (go_at_call 109; refine (HF.out _).mono ?_; rintro e w5 ⟨g0, e0, g1, e1, g2, e2, rfl, hk0, hk1, hk2, hb⟩; (have HB := Lib.hid hb); (have HA5 : Hid (ArgW (w5.alloc (Obj.cells #[Value.int .i64 (lo : Int), .int .i64 (hi : Int), .func (.func g0) #[] e0.toArray, .func (.func g1) #[] e1.toArray, .func (.func g2) #[] e2.toArray] 161)) v l) := Lib.hid (ArgW.alloc (HA.out.below hb) _)); (have HK0 := Lib.hid hk0); (have HK1 := Lib.hid hk1); (have HK2 := Lib.hid hk2); clear hb hk0 hk1 hk2)
        | (go_at_call 145; refine (HR2.out _ _ _ _ HA5.out).mono ?_; rintro e w6 ⟨rfl, hb⟩; (have HB6 := Lib.hid hb); clear hb))
      go_ret
      exact ⟨rfl, (HB.out.alloc HB.out.size _).trans (HB6.out.mono (by have := HB.out.size; simp; omega))⟩
    · have HF := Lib.hid (fun w => find2_any n hn hN w)
      unfold Find2 at HF
      generalize sqLo n = lo at *
      generalize sqHi n = hi at *
      have HR2 := Lib.hid (HR.out lo hi)
      generalize (decide (lo ≤ l.length) && decide (l.length ≤ hi)) = d at *
      go_enter Tryz.func111, Tryz.ntmps111
      go_wp2_with (first
        | (go_at_call 109; refine (HF.out _).mono ?_; rintro e w5 ⟨g0, e0, g1, e1, rfl, hk0, hk1, hb⟩; (have HB := Lib.hid hb); (have HA5 : Hid (ArgW (w5.alloc (Obj.cells #[Value.int .i64 (lo : Int), .int .i64 (hi : Int), .func (.func g0) #[] e0.toArray, .func (.func g1) #[] e1.toArray, .nilFunc] 161)) v l) := Lib.hid (ArgW.alloc (HA.out.below hb) _)); (have HK0 := Lib.hid hk0); (have HK1 := Lib.hid hk1); clear hb hk0 hk1)
        | (go_at_call 145; refine (HR2.out _ _ _ _ HA5.out).mono ?_; rintro e w6 ⟨rfl, hb⟩; (have HB6 := Lib.hid hb); clear hb))
      go_ret
      exact ⟨rfl, (HB.out.alloc HB.out.size _).trans (HB6.out.mono (by have := HB.out.size; simp; omega))⟩
  · unfold sqRight
    rw [sqIs_no h, Bool.false_and]
    have HF := Lib.hid (fun w => find_none t w h)
    clear h
    go_enter Tryz.func111, Tryz.ntmps111
    go_wp2_with (go_at_call 109; refine (HF.out _).mono ?_; rintro e w5 ⟨rfl, hb⟩; (have HB := Lib.hid hb); clear hb)
    go_ret
    exact ⟨rfl, HB.out.alloc HB.out.size _⟩

/-- a state as it is given, and an error -/
def ApP (W : World) (r : List Nat × Nat × Nat) (e : Ending) (w' : World) : Prop :=
  ∃ v', e = .returned (.tuple #[v', .agg #[.int .i64 (r.2.2 : Int), .int .u64 (r.2.1 : Int), .slice none 0 0]]) ∧ OwnW w' W.heap.size v' r.1 ∧ Below W.heap.size W w'
set_option maxHeartbeats 400000 in
theorem refuse_any (v : Value) (l : List Nat) (k : Nat) (w : World) (h : ArgW w v l) (hl : l.length ≤ 4294967296) :
    Calls Tryz.prog 177 #[v, .int .i64 (k : Int)] w (ApP w (l, 0, k)) := by
  have HC : Hid (∀ W, ArgW W v l → Calls Tryz.prog 92 #[v] W (GivesW l W)) := Lib.hid (fun W h => clone_own v l W h hl)
  have HA := Lib.hid (h.alloc (.cells #[.int .i64 0, .int .u64 0, .slice none 0 0] 57))
  clear h
  go_enter Tryz.func177, Tryz.ntmps177
  go_wp2_with (go_at_call 92; refine (HC.out _ HA.out).mono ?_; rintro e w5 ⟨v5, rfl, ho, hb⟩; (have hbk : w5.heap[w.heap.size]? = some (.cells #[.int .i64 0, .int .u64 0, .slice none 0 0] 57 (0, 0)) := (hb.block _ (by simp)).trans (heap_alloc_new _ _)); (have k0 := cell_of_blk (k := 0) hbk rfl); (have k1 := cell_of_blk (k := 1) hbk rfl); (have k2 := cell_of_blk (k := 2) hbk rfl); (have z0 := free_of_blk (k := 0) hbk); (have z1 := free_of_blk (k := 1) hbk); (have z2 := free_of_blk (k := 2) hbk); (have HO := Lib.hid ho); (have HB := Lib.hid hb); clear hb hbk ho)
  have HB2 : Below w.heap.size w w5 := ((Below.refl _ _).alloc (Nat.le_refl _) _).trans (HB.out.mono (by simp))
  have ho : OwnW w5 (w.heap.size + 1) v5 l := by have := HO.out; simpa using this
  refine bodyPost_ret (v := .tuple #[v5, .agg #[.int .i64 (k : Int), .int .u64 0, .slice none 0 0]]) (by simp [results, Tryz.results177, go_sem, k0, k1, k2]) rfl ⟨_, rfl, ?_, ?_⟩
  · exact (((ho.other _ (ho.lt (a := ⟨w.heap.size, 0, none⟩) (by simp))).other _ (ho.lt (a := ⟨w.heap.size, 1, none⟩) (by simp))).other _ (ho.lt (a := ⟨w.heap.size, 2, none⟩) (by simp))).mono (by omega)
  · exact ((HB2.setCell (p := ⟨w.heap.size, 0, none⟩) (Nat.le_refl _) _).setCell (p := ⟨w.heap.size, 1, none⟩) (Nat.le_refl _) _).setCell (p := ⟨w.heap.size, 2, none⟩) (Nat.le_refl _) _
end
end Go.Proofs.YtjjleghalajidaaGreat
