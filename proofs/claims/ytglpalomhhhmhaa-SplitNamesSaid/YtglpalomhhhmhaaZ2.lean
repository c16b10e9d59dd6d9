/- Lists in memory; copies of them; an operation's key. -/
import Derived.Test.YtglpalomhhhmhaaZ1
import Derived.Test.YtglpalomhhhmhaaY7
namespace Go.Proofs.Ytglpalomhhhmhaa
open Go.ChangeShapes Go.WideShapes Go.ChangeAt Go.RowKit

def BlkT (w : World) (b : Nat) (t : TypeId) : Prop := ∃ cur : Array Value, w.heap[b]? = some (.cells cur t (0, 0))
theorem BlkT.same {w w' : World} {b : Nat} {t : TypeId} (h : BlkT w b t) (e : w'.heap[b]? = w.heap[b]?) : BlkT w' b t := by obtain ⟨c, h⟩ := h; exact ⟨c, e.trans h⟩
theorem BlkT.lt {w : World} {b : Nat} {t : TypeId} (h : BlkT w b t) : b < w.heap.size := by obtain ⟨c, h⟩ := h; exact lt_of_heap h
theorem BlkT.of_row {w : World} {b : Nat} {t : TypeId} {vs : List Value} (h : RowBlk t w b vs) : BlkT w b t := ⟨_, h⟩
theorem BlkT.ne {w : World} {b b' : Nat} {t t' : TypeId} (h : BlkT w b t) (h' : BlkT w b' t') (ht : t ≠ t') : b ≠ b' := by
  intro e; subst e
  obtain ⟨c, h⟩ := h
  obtain ⟨c', h'⟩ := h'
  rw [h] at h'
  simp at h'
  exact ht h'.2
theorem BlkT.ne_map {P : Program} {k t : TypeId} {w : World} {b n g : Nat} {z : Value} {f : Int → Value} (h : MapIs P k w b n z f) (hr : BlkT w g t) : g ≠ b := by
  intro e; subst e; obtain ⟨c, hr⟩ := hr; exact h.no_cells hr
theorem BlkT.ne_owns {w : World} {t e : TypeId} {B sz n g : Nat} {v : Value} {xs : List Value} (h : BlkT w g t) (ho : w.ownsRow B e sz v n xs) (ht : t ≠ e) : v.ownBlock ≠ some g := by
  intro e1
  obtain ⟨c, h⟩ := h
  obtain ⟨_, ⟨rfl, _⟩ | ⟨g', cap, cur, rfl, _, hh, _⟩⟩ := ho
  · cases e1
  · cases e1
    rw [h] at hh
    simp at hh
    exact ht hh.2

theorem row_owns_ne {t e : TypeId} {w : World} {g B sz m : Nat} {v : Value} {vs xs : List Value} (h : RowBlk t w g vs) (ho : w.ownsRow B e sz v m xs) (ht : t ≠ e) : v.ownBlock ≠ some g := by
  intro e1
  obtain ⟨_, ⟨rfl, _⟩ | ⟨g', cap, cur, rfl, _, hh, _⟩⟩ := ho
  · cases e1
  · cases e1
    unfold RowBlk at h
    rw [h] at hh
    simp at hh
    exact ht hh.2

def mkI (x : Nat) : Value := .int .i64 (x : Int)
def mkU (x : Nat) : Value := .int .u64 (x : Int)
/-- a slice's value, and its numbers; 'p': of which blocks its numbers may be -/
def ListAt (w : World) (t : TypeId) (mk : Nat → Value) (p : Nat → Prop) (v : Value) (l : List Nat) : Prop :=
  ∃ (ao : Option Addr) (b o cap : Nat), v = .slice ao l.length cap ∧ (0 < l.length → ao = some ⟨b, o, none⟩ ∧ p b ∧ BlkT w b t) ∧ (ao = none → cap = 0) ∧ l.length ≤ 4294967296 ∧ ∀ (i x : Nat), l[i]? = some x → w.cell? ⟨b, o + i, none⟩ = some (mk x)
theorem ListAt.nil (w : World) (t : TypeId) (mk : Nat → Value) (p : Nat → Prop) : ListAt w t mk p (.slice none 0 0) [] := ⟨none, 0, 0, 0, rfl, fun h => absurd h (by simp), fun _ => rfl, by simp, fun i x h => by simp at h⟩
theorem ListAt.keep {w w' : World} {t : TypeId} {mk : Nat → Value} {p q : Nat → Prop} {v : Value} {l : List Nat} (h : ListAt w t mk p v l) (hb : ∀ b, BlkT w b t → p b → w'.heap[b]? = w.heap[b]? ∧ q b) : ListAt w' t mk q v l := by
  obtain ⟨ao, b, o, cap, rfl, h1, h2, h3, h4⟩ := h
  refine ⟨ao, b, o, cap, rfl, fun h0 => ?_, h2, h3, fun i x hx => ?_⟩
  · obtain ⟨e, hp, ht⟩ := h1 h0
    obtain ⟨e2, hq⟩ := hb b ht hp
    exact ⟨e, hq, ht.same e2⟩
  · have h0 : 0 < l.length := by have := (List.getElem?_eq_some_iff.1 hx).1; omega
    obtain ⟨_, hp, ht⟩ := h1 h0
    rw [← h4 i x hx]
    unfold World.cell?
    rw [(hb b ht hp).1]
theorem ListAt.drew {w : World} {t : TypeId} {mk : Nat → Value} {p : Nat → Prop} {v : Value} {l : List Nat} (h : ListAt w t mk p v l) : ListAt w.drew t mk p v l := h
theorem ListAt.isSlice {w : World} {t : TypeId} {mk : Nat → Value} {p : Nat → Prop} {v : Value} {l : List Nat} (h : ListAt w t mk p v l) : ∃ ao cap, v = .slice ao l.length cap := by
  obtain ⟨ao, b, o, cap, e, _⟩ := h; exact ⟨ao, cap, e⟩

theorem mkI_one (l : List Nat) : (l.map mkI).all (fun u => u.oneCell') = true := by
  rw [List.all_eq_true]; intro u hu; obtain ⟨x, _, rfl⟩ := List.mem_map.1 hu; rfl
theorem mkU_one (l : List Nat) : (l.map mkU).all (fun u => u.oneCell') = true := by
  rw [List.all_eq_true]; intro u hu; obtain ⟨x, _, rfl⟩ := List.mem_map.1 hu; rfl

/-- a copy -/
def CloneP (t : TypeId) (mk : Nat → Value) (l : List Nat) (w : World) (e : Ending) (w' : World) : Prop :=
  ∃ v, e = .returned v ∧ ListAt w' t mk (fun b => w.heap.size ≤ b) v l ∧ Below w.heap.size w w'

set_option maxHeartbeats 1000000 in
theorem clone_ints (p : Nat → Prop) (v : Value) (l : List Nat) (w : World) (h : ListAt w 3 mkI p v l) :
    Calls Try.prog 41 #[v] w (CloneP 3 mkI l w) := by
  have qT : ∀ (w : World) (a : Option Addr) (n c n' c' : Nat), (binOp .eql 23 (.slice a n c) (.slice none n' c')).run Try.prog w = .ok (.bool a.isNone) w := fun w a n c n' c' => Lib.run_eql_slice_nil w _ _ a n c n' c' Try.underlying23
  obtain ⟨ao, b, o, cap, rfl, ha, hn, hl, hc⟩ := h
  cases ao with
  | none =>
    have h0 : l = [] := by
      cases l with
      | nil => rfl
      | cons x l => exact absurd (ha (by simp)).1 (by simp)
    subst h0
    clear ha hc hn
    go_enter Try.func41, Try.ntmps41
    go_wp2
    go_ret
    exact ⟨_, rfl, ListAt.nil _ _ _ _, Below.refl _ _⟩
  | some ad =>
    obtain ⟨iI, ia, ib, ic, id⟩ := info_parts infoIu
    have HA := Lib.hid ha
    have HS : Hid (∀ (j : Nat) (u : Value), (l.map mkI)[j]? = some u → w.cell? ⟨b, o + j, none⟩ = some u) := Lib.hid (fun j u hu => by
      rw [List.getElem?_map] at hu
      obtain ⟨x, hx, rfl⟩ := Option.map_eq_some_iff.1 hu
      exact hc j x hx)
    have HONE := Lib.hid (mkI_one l)
    have HLEN : Hid ((l.map mkI).length = l.length * 1) := Lib.hid (by simp)
    clear ha hc hn
    go_enter Try.func41, Try.ntmps41
    go_wp2_with (at_builtin; refine append_freshk rfl _ _ 23 rfl 3 1 iI (.int .i64 0) 8 Try.underlying23 ia ib ic (by decide) id rfl (by decide) w.heap.size rfl rfl (some ad) b o cap l.length (l.map mkI) rfl HLEN.out (fun h => (HA.out h).1) HS.out (fun h => by cases h) HONE.out hl ?_)
    intro g cap' cur w1 hb hcur hg hbl
    have HC1 : Hid (ListAt w1 3 mkI (fun b => w.heap.size ≤ b) (.slice (some ⟨g, 0, none⟩) l.length cap') l) := Lib.hid ⟨_, g, 0, cap', rfl, fun _ => ⟨rfl, hg, ⟨_, hb⟩⟩, fun h => (by cases h), hl, fun i x hx => cell_of_heap hb (by rw [Nat.zero_add]; exact hcur i _ (by first | exact hx | (rw [List.getElem?_map, hx]; rfl)))⟩
    have HBL := Lib.hid hbl
    clear hb hcur hbl
    go_wp2
    go_ret
    exact ⟨_, rfl, HC1.out, HBL.out⟩

set_option maxHeartbeats 1000000 in
theorem clone_u64s (p : Nat → Prop) (v : Value) (l : List Nat) (w : World) (h : ListAt w 37 mkU p v l) :
    Calls Try.prog 40 #[v] w (CloneP 37 mkU l w) := by
  have qT : ∀ (w : World) (a : Option Addr) (n c n' c' : Nat), (binOp .eql 27 (.slice a n c) (.slice none n' c')).run Try.prog w = .ok (.bool a.isNone) w := fun w a n c n' c' => Lib.run_eql_slice_nil w _ _ a n c n' c' Try.underlying27
  obtain ⟨ao, b, o, cap, rfl, ha, hn, hl, hc⟩ := h
  cases ao with
  | none =>
    have h0 : l = [] := by
      cases l with
      | nil => rfl
      | cons x l => exact absurd (ha (by simp)).1 (by simp)
    subst h0
    clear ha hc hn
    go_enter Try.func40, Try.ntmps40
    go_wp2
    go_ret
    exact ⟨_, rfl, ListAt.nil _ _ _ _, Below.refl _ _⟩
  | some ad =>
    obtain ⟨iI, ia, ib, ic, id⟩ := info_parts info22
    have HA := Lib.hid ha
    have HS : Hid (∀ (j : Nat) (u : Value), (l.map mkU)[j]? = some u → w.cell? ⟨b, o + j, none⟩ = some u) := Lib.hid (fun j u hu => by
      rw [List.getElem?_map] at hu
      obtain ⟨x, hx, rfl⟩ := Option.map_eq_some_iff.1 hu
      exact hc j x hx)
    have HONE := Lib.hid (mkU_one l)
    have HLEN : Hid ((l.map mkU).length = l.length * 1) := Lib.hid (by simp)
    clear ha hc hn
    go_enter Try.func40, Try.ntmps40
    go_wp2_with (at_builtin; refine append_freshk rfl _ _ 27 rfl 37 1 iI (.int .u64 0) 8 Try.underlying27 ia ib ic (by decide) id rfl (by decide) w.heap.size rfl rfl (some ad) b o cap l.length (l.map mkU) rfl HLEN.out (fun h => (HA.out h).1) HS.out (fun h => by cases h) HONE.out hl ?_)
    intro g cap' cur w1 hb hcur hg hbl
    have HC1 : Hid (ListAt w1 37 mkU (fun b => w.heap.size ≤ b) (.slice (some ⟨g, 0, none⟩) l.length cap') l) := Lib.hid ⟨_, g, 0, cap', rfl, fun _ => ⟨rfl, hg, ⟨_, hb⟩⟩, fun h => (by cases h), hl, fun i x hx => cell_of_heap hb (by rw [Nat.zero_add]; exact hcur i _ (by first | exact hx | (rw [List.getElem?_map, hx]; rfl)))⟩
    have HBL := Lib.hid hbl
    clear hb hcur hbl
    go_wp2
    go_ret
    exact ⟨_, rfl, HC1.out, HBL.out⟩

/-- an operation tells its key -/
structure HasKey (opv : Value) (k : List Nat) (w : World) : Prop where
  ask : ∃ (tid : TypeId) (u : Value) (fid : FuncId), opv = .iface tid u ∧ (∀ w' : World, (Instr.typeAssert opv 110 126 true).run Try.prog w' = .ok (.tuple #[.iface tid u, .bool true]) w') ∧
    (∀ w' : World, (method 276 tid u "Key").run Try.prog w' = .ok (fid, u) w') ∧ (∀ (args : Array Value) (w' : World), (callFunc fid args).run Try.prog w' = .ok (.enter fid args) w') ∧
    ∀ W : World, Below w.heap.size w W → Calls Try.prog fid #[u] W fun e w' => ∃ v, e = .returned v ∧ ListAt w' 3 mkI (fun _ => True) v k ∧ Below W.heap.size W w'
def KeyOk (opv : Value) (k : List Nat) (w : World) : Prop := (NoKey opv ∧ k = []) ∨ HasKey opv k w

set_option maxRecDepth 20000 in
set_option maxHeartbeats 1000000 in
theorem key_any (g : Nat) (opv : Value) (k : List Nat) (w : World) (hc : w.cell? ⟨g, 8, none⟩ = some opv) (hk : KeyOk opv k w) :
    Calls Try.prog 39 #[.pointer (some ⟨g, 0, none⟩)] w (CloneP 3 mkI k w) := by
  rcases hk with ⟨hk, rfl⟩ | ⟨tid, u, fid, rfl, hta, hm, hent, hcall⟩
  · exact (key_none g opv w hc hk).mono fun e w' ⟨he, hw⟩ => by subst hw; exact ⟨_, he, ListAt.nil _ _ _ _, Below.refl _ _⟩
  · have HC := Lib.hid hcall
    clear hcall
    go_enter Try.func39, Try.ntmps39
    go_wp2_with fail
    refine (HC.out _ (Below.refl _ _)).mono ?_
    rintro e w1 ⟨v, rfl, hv, hb1⟩
    have HV := Lib.hid hv
    have HB1 := Lib.hid hb1
    obtain ⟨ao, cap, hve⟩ := hv.isSlice
    subst hve
    clear hv hb1
    go_wp2_with fail
    refine (clone_ints _ _ k w1 HV.out).mono ?_
    rintro e w2 ⟨v2, rfl, hv2, hb2⟩
    have z1 := HB1.out.size
    have HV2 : Hid (ListAt w2 3 mkI (fun b => w.heap.size ≤ b) v2 k) := Lib.hid (hv2.keep (fun b _ hb => ⟨rfl, Nat.le_trans z1 hb⟩))
    have HB2 : Hid (Below w.heap.size w w2) := Lib.hid (HB1.out.trans (hb2.mono z1))
    clear hv2 hb2
    go_wp2
    go_ret
    exact ⟨_, rfl, HV2.out, HB2.out⟩
end Go.Proofs.Ytglpalomhhhmhaa
