/- A script's reader in memory: its block, bytes in a row, what a reading leaves. -/
import Derived.Test.YticaheiomidanaaK3
import Derived.Test.YticaheiomidanaaR
import Derived.Test.YticaheiomidanaaT
import Derived.WalkLawsBesides
import Derived.WalkSmall
namespace Go.Proofs.Yticaheiomidanaa
open Go.RowKit

theorem lt_of_heap {w : World} {b : Nat} {o : Obj} (h : w.heap[b]? = some o) : b < w.heap.size := by
  rcases Nat.lt_or_ge b w.heap.size with h' | h'
  · exact h'
  · simp [Array.getElem?_eq_none h'] at h
theorem heap_set_self {w : World} {b k : Nat} {c : Array Value} {t : TypeId} {fr : Nat × Nat} {v : Value} (h : w.heap[b]? = some (.cells c t fr)) : (w.setCell ⟨b, k, none⟩ v).heap[b]? = some (.cells (c.setIfInBounds k v) t fr) := by
  simp only [World.setCell, Array.getElem?_modify]
  rw [if_pos trivial, h]; rfl
theorem cell_of_heap {w : World} {b k : Nat} {c : Array Value} {t : TypeId} {fr : Nat × Nat} {v : Value} (h : w.heap[b]? = some (.cells c t fr)) (hv : c[k]? = some v) : w.cell? ⟨b, k, none⟩ = some v := by
  simp [World.cell?, h, hv]
theorem free_of_heap {w : World} {b k : Nat} {c : Array Value} {t : TypeId} (h : w.heap[b]? = some (.cells c t (0, 0))) : w.frozen? ⟨b, k, none⟩ = false := by
  simp [World.frozen?, h]

/-- all blocks but p, of those that there were, are as they were -/
structure But1 (p : Nat) (w w' : World) : Prop where
  os : w'.os = w.os
  tape : w'.tape = w.tape
  output : w'.output = w.output
  size : w.heap.size ≤ w'.heap.size
  block : ∀ k, k < w.heap.size → k ≠ p → w'.heap[k]? = w.heap[k]?

theorem But1.refl (p : Nat) (w : World) : But1 p w w := ⟨rfl, rfl, rfl, Nat.le_refl _, fun _ _ _ => rfl⟩
theorem But1.trans {p : Nat} {a b c : World} (h : But1 p a b) (k : But1 p b c) : But1 p a c :=
  ⟨k.os.trans h.os, k.tape.trans h.tape, k.output.trans h.output, Nat.le_trans h.size k.size, fun i hi h1 => (k.block i (Nat.lt_of_lt_of_le hi h.size) h1).trans (h.block i hi h1)⟩
theorem But1.alloc {p : Nat} {a w : World} (h : But1 p a w) (o : Obj) : But1 p a (w.alloc o) :=
  ⟨h.os, h.tape, h.output, Nat.le_trans h.size (by simp), fun i hi h1 => (Below.heap_alloc w o i (Nat.lt_of_lt_of_le hi h.size)).trans (h.block i hi h1)⟩
theorem But1.setCell {p : Nat} {a w : World} (h : But1 p a w) {x : Addr} (hx : x.block = p ∨ a.heap.size ≤ x.block) (v : Value) : But1 p a (w.setCell x v) :=
  ⟨h.os, h.tape, h.output, by simpa [World.setCell] using h.size, fun i hi h1 => (Below.heap_setCell w x v i (by rcases hx with hx | hx <;> omega)).trans (h.block i hi h1)⟩
theorem But1.drewN {p : Nat} {a w : World} (h : But1 p a w) (n : Nat) : But1 p a (w.drewN n) := ⟨h.os, h.tape, h.output, h.size, h.block⟩
theorem But1.drew {p : Nat} {a w : World} (h : But1 p a w) : But1 p a w.drew := ⟨h.os, h.tape, h.output, h.size, h.block⟩
theorem But1.below {p B : Nat} {a w : World} (h : But1 p a w) (hp : B ≤ p) (hB : B ≤ a.heap.size) : Below B a w := ⟨h.os, h.tape, h.output, h.size, fun k hk => h.block k (by omega) (by omega)⟩
theorem But1.of_below {p : Nat} {a w : World} (h : Below a.heap.size a w) : But1 p a w := ⟨h.os, h.tape, h.output, h.size, fun k hk _ => h.block k hk⟩
theorem But1.cell {p : Nat} {a w : World} (h : But1 p a w) {x : Addr} {v : Value} (hx : x.block < a.heap.size) (hp : x.block ≠ p) (hc : a.cell? x = some v) : w.cell? x = some v := by
  rw [← hc]; unfold World.cell?; rw [h.block _ hx hp]
/-- an own row made before, elsewhere -/
theorem But1.own {p : Nat} {a w : World} (h : But1 p a w) {B : Nat} {e : TypeId} {s n : Nat} {v : Value} {xs : List Value} (ho : a.ownsRow B e s v n xs) (hp : p < B) : w.ownsRow B e s v n xs :=
  ho.kept (row := some p) ⟨h.os, h.tape, h.output, h.size, fun k hk hne => h.block k hk (fun e => hne (by rw [e]))⟩ (by
    obtain ⟨_, ⟨rfl, _⟩ | ⟨g, cap, cur, rfl, hg, _⟩⟩ := ho
    · left; rfl
    · right; simp [Value.ownBlock]; omega)

/-- bytes lie in a row -/
def BCells (w : World) (b o : Nat) (l : List Nat) : Prop := ∀ (i : Nat) (x : Nat), l[i]? = some x → w.cell? ⟨b, o + i, none⟩ = some (.int .u8 (x : Int)) ∧ x < 256
theorem BCells.stays {w wr : World} {b o B : Nat} {l : List Nat} (h : BCells w b o l) (hb : Below B w wr) (hB : 0 < l.length → b < B) : BCells wr b o l := by
  intro i x hx
  have hl : 0 < l.length := by have := (List.getElem?_eq_some_iff.1 hx).1; omega
  obtain ⟨h1, h3⟩ := h i x hx
  exact ⟨(hb.cell (p := ⟨b, _, none⟩) (hB hl)).trans h1, h3⟩
/-- the bytes that are read: they lie below the reader -/
structure Src (w : World) (rb : Nat) (ao : Option Addr) (b o : Nat) (L : List Nat) : Prop where
  at0 : 0 < L.length → ao = some ⟨b, o, none⟩
  lt : 0 < L.length → b < rb
  cells : BCells w b o L
  len : L.length ≤ 9223372036854775806
theorem Src.keep {w w' : World} {rb : Nat} {ao : Option Addr} {b o : Nat} {L : List Nat} (h : Src w rb ao b o L) (hr : rb < w.heap.size) (hb : But1 rb w w') : Src w' rb ao b o L :=
  ⟨h.at0, h.lt, h.cells.stays (hb.below (Nat.le_refl _) (Nat.le_of_lt hr)) h.lt, h.len⟩

/-- the reader's block -/
def RdS (w : World) (rb : Nat) (ao : Option Addr) (L : List Nat) (c at_ : Nat) : Prop := w.heap[rb]? = some (.cells #[.slice ao L.length c, .int .i64 (at_ : Int)] 74 (0, 0))
theorem RdS.next {w : World} {rb : Nat} {ao : Option Addr} {L : List Nat} {c i : Nat} (h : RdS w rb ao L c i) : RdS (w.setCell ⟨rb, 1, none⟩ (.int .i64 ((i : Int) + 1))) rb ao L c (i + 1) := by
  unfold RdS
  rw [heap_set_self h]
  rfl
/-- what a reading panics with: a place among the bytes, or behind them, and an error -/
def Bad (L : List Nat) (e : Ending) : Prop :=
  ∃ p r : Int, 0 ≤ p ∧ p ≤ L.length ∧ 1 ≤ r ∧ r ≤ 10 ∧ e = .panicked [{ v := .iface 71 (.agg #[.int .i64 p, .int .i64 r]), recovered := false }]
/-- what a reading leaves: a value, and what is left to read; or a panic -/
def RP {α : Type} (rb : Nat) (ao : Option Addr) (c : Nat) (L : List Nat) (W : World) (r : Option (α × List Nat)) (val : α → Value → World → Prop) (e : Ending) (w' : World) : Prop :=
  But1 rb W w' ∧ match r with
    | some (x, rest) => ∃ u i, e = .returned u ∧ val x u w' ∧ rest = L.drop i ∧ i ≤ L.length ∧ RdS w' rb ao L c i
    | none => Bad L e

theorem bad_end {α : Type} {f : Func} {rb : Nat} {ao : Option Addr} {c : Nat} {L : List Nat} {W w' : World} {val : α → Value → World → Prop} {chain : List PanicEntry} {a : Act} (hd : a.defers = []) (hb : But1 rb W w') (h : Bad L (.panicked chain)) :
    bodyPost Try.prog f (RP rb ao c L W none val) (Exit.panic chain) a w' := ⟨hd, hb, h⟩

def pNext : List Nat → Option (Nat × List Nat)
  | [] => none
  | x :: r => some (x, r)
def intV (x : Nat) (u : Value) (_ : World) : Prop := u = .int .i64 (x : Int)

set_option maxHeartbeats 400000 in
theorem next_any (rb : Nat) (ao : Option Addr) (b o c : Nat) (L : List Nat) (i : Nat) (w : World) (hs : Src w rb ao b o L) (hr : RdS w rb ao L c i) (hi : i ≤ L.length) :
    Calls Try.prog 41 #[.pointer (some ⟨rb, 0, none⟩)] w (RP rb ao c L w (pNext (L.drop i)) intV) := by
  have r0 := cell_of_heap hr (k := 0) rfl
  have r1 := cell_of_heap hr (k := 1) rfl
  have r2 := free_of_heap (k := 1) hr
  have HR := Lib.hid hr
  have HS := Lib.hid hs
  have hlen := hs.len
  clear hr hs
  by_cases h : i = L.length
  · subst h
    have e : pNext (L.drop L.length) = none := by rw [List.drop_length]; rfl
    rw [e]
    clear e
    go_enter Try.func41, Try.ntmps41
    go_wp2
    go_quiet (fail)
    go_wp2
    refine bad_end rfl ((But1.refl _ _).drewN _) ⟨_, _, by omega, by omega, by decide, by decide, rfl⟩
  · obtain ⟨x, hx⟩ : ∃ x, L[i]? = some x := ⟨L[i]'(by omega), List.getElem?_eq_getElem (by omega)⟩
    have e : pNext (L.drop i) = some (x, L.drop (i + 1)) := by
      have hl := (List.getElem?_eq_some_iff.1 hx).1
      rw [List.drop_eq_getElem_cons hl]
      rw [List.getElem?_eq_getElem hl, Option.some.injEq] at hx
      rw [hx]; rfl
    rw [e]
    obtain rfl := HS.out.at0 (by omega)
    obtain ⟨c1, hx2⟩ := HS.out.cells i x hx
    have hne : ((i : Int) == (L.length : Int)) = false := beq_false_of_ne (by omega)
    clear e hx
    go_enter Try.func41, Try.ntmps41
    go_wp2
    go_quiet (fail)
    go_wp2
    go_quiet (fail)
    go_wp2
    go_ret
    exact ⟨But1.setCell (x := ⟨rb, 1, none⟩) ((But1.refl rb w).drewN _) (.inl rfl) _, _, i + 1, rfl, rfl, rfl, by omega, RdS.next (w := World.drewN _ _) HR.out⟩
end Go.Proofs.Yticaheiomidanaa
