/- Walks of the memory's accesses. -/
import Derived.Test.YtglpalomhhhmhaaN1
import Derived.Deep.QuietTactic
import Derived.BigQuiet
import Derived.RegionTactic
namespace Go.Proofs.Ytglpalomhhhmhaa
open Go.RowKit
set_option linter.unusedVariables false

/-- what an access leaves: the answer, the memory, and all else as it was -/
def Left1 (v : Value) (bm bw : Nat) (l : List Nat) (c : Cn) (w : World) (e : Ending) (w' : World) : Prop := e = .returned v ∧ MemIs 108 w' bm bw l c ∧ But bm bw w w'

set_option maxHeartbeats 400000 in
theorem read_ok (bm bw i x : Nat) (l : List Nat) (c : Cn) (w : World) (hM : MemIs 108 w bm bw l c) (hi : l[i]? = some x) (hn : l.length ≤ 65536) (hc : c.r < 9223372036854775807) :
    Calls Try.prog 86 #[.pointer (some ⟨bm, 0, none⟩), .int .i64 i] w (Left1 (.int .u64 x) bm bw l { c with r := c.r + 1 } w) := by
  have hmf : ∀ (fn : Fn) (first cap : Array Value) (w : World), (Instr.makeFunc fn first cap).run Try.prog w = .ok (.func fn first cap) w := fun _ _ _ _ => rfl
  have hil : i < l.length := (List.getElem?_eq_some_iff.1 hi).1
  have h0 := hM.c0
  have h1 := hM.c1
  have f1 := hM.fz 1
  have hx := hM.word hi
  have fx := hM.fzw i
  have hb := hM.lt1
  have hb2 := hM.lt2
  have hne := hM.2.2
  have q1 : bm < w.heap.size + 1 := by omega
  have q2 : bm < w.heap.size + 1 + 1 := by omega
  have q3 : bm < w.heap.size + 1 + 1 + 1 := by omega
  have r1 : bw < w.heap.size + 1 := by omega
  have r2 : bw < w.heap.size + 1 + 1 := by omega
  have r3 : bw < w.heap.size + 1 + 1 + 1 := by omega
  have HM := Lib.hid hM
  have HI := Lib.hid hi
  clear hM hi
  go_enter Try.func86, Try.ntmps86
  go_wp2_with go_in
  go_end0
  go_wp2_with go_in
  go_end0
  go_wp2_with go_in
  go_ret
  refine ⟨rfl, ?_, ?_⟩
  · repeat (first | with_reducible exact HM.out.incR | with_reducible apply MemIs.alloc | with_reducible apply MemIs.drewN | with_reducible apply MemIs.drew | with_reducible apply MemIs.setWord | (with_reducible refine MemIs.setNew ?_ _ _ (by omega) (by omega)))
  · repeat (first | with_reducible exact But.refl _ _ _ | with_reducible apply But.alloc | with_reducible apply But.drewN | with_reducible apply But.drew | with_reducible apply But.setP | with_reducible apply But.setQ | (with_reducible refine But.setNew ?_ _ _ (by omega)))

set_option maxHeartbeats 400000 in
theorem write_ok (bm bw i x y : Nat) (l : List Nat) (c : Cn) (w : World) (hM : MemIs 108 w bm bw l c) (hi : l[i]? = some x) (hn : l.length ≤ 65536) (hc : c.w < 9223372036854775807) :
    Calls Try.prog 88 #[.pointer (some ⟨bm, 0, none⟩), .int .i64 i, .int .u64 y] w (Left1 (.tuple #[]) bm bw (l.set i y) { c with w := c.w + 1 } w) := by
  have hmf : ∀ (fn : Fn) (first cap : Array Value) (w : World), (Instr.makeFunc fn first cap).run Try.prog w = .ok (.func fn first cap) w := fun _ _ _ _ => rfl
  have hil : i < l.length := (List.getElem?_eq_some_iff.1 hi).1
  have h0 := hM.c0
  have h1 := hM.c2
  have f1 := hM.fz 2
  have hx := hM.word hi
  have fx := hM.fzw i
  have hb := hM.lt1
  have hb2 := hM.lt2
  have hne := hM.2.2
  have q1 : bm < w.heap.size + 1 := by omega
  have q2 : bm < w.heap.size + 1 + 1 := by omega
  have q3 : bm < w.heap.size + 1 + 1 + 1 := by omega
  have r1 : bw < w.heap.size + 1 := by omega
  have r2 : bw < w.heap.size + 1 + 1 := by omega
  have r3 : bw < w.heap.size + 1 + 1 + 1 := by omega
  have HM := Lib.hid hM
  have HI := Lib.hid hi
  clear hM hi
  go_enter Try.func88, Try.ntmps88
  go_wp2_with go_in
  go_end0
  go_wp2_with go_in
  go_end0
  go_wp2_with go_in
  go_end0
  refine ⟨rfl, ?_, ?_⟩
  · repeat (first | with_reducible exact HM.out.incW | with_reducible apply MemIs.alloc | with_reducible apply MemIs.drewN | with_reducible apply MemIs.drew | with_reducible apply MemIs.setWord | (with_reducible refine MemIs.setNew ?_ _ _ (by omega) (by omega)))
  · repeat (first | with_reducible exact But.refl _ _ _ | with_reducible apply But.alloc | with_reducible apply But.drewN | with_reducible apply But.drew | with_reducible apply But.setP | with_reducible apply But.setQ | (with_reducible refine But.setNew ?_ _ _ (by omega)))

set_option maxHeartbeats 400000 in
theorem read_fault (bm bw : Nat) (a : Int) (l : List Nat) (c : Cn) (w : World) (hM : MemIs 108 w bm bw l c) (hn : l.length ≤ 65536) (ha : a < 0 ∨ (l.length : Int) ≤ a) (h1a : -9223372036854775808 ≤ a) (h1b : a ≤ 9223372036854775807) (hc : c.f < 9223372036854775807) :
    Calls Try.prog 86 #[.pointer (some ⟨bm, 0, none⟩), .int .i64 a] w (Left1 (.int .u64 0) bm bw l { c with f := c.f + 1 } w) := by
  have hmf : ∀ (fn : Fn) (first cap : Array Value) (w : World), (Instr.makeFunc fn first cap).run Try.prog w = .ok (.func fn first cap) w := fun _ _ _ _ => rfl
  have h0 := hM.c0
  have h1 := hM.c5
  have f1 := hM.fz 5
  have hb := hM.lt1
  have hb2 := hM.lt2
  have hne := hM.2.2
  have q1 : bm < w.heap.size + 1 := by omega
  have q2 : bm < w.heap.size + 1 + 1 := by omega
  have q3 : bm < w.heap.size + 1 + 1 + 1 := by omega
  have r1 : bw < w.heap.size + 1 := by omega
  have r2 : bw < w.heap.size + 1 + 1 := by omega
  have r3 : bw < w.heap.size + 1 + 1 + 1 := by omega
  have HM := Lib.hid hM
  clear hM
  rcases ha with ha | ha
  · go_enter Try.func86, Try.ntmps86
    go_wp2_with go_in
    refine bodyPost_ret (results_none rfl _ _ _) rfl ?_
    go_wp2_with go_in
    go_ret
    refine ⟨rfl, ?_, ?_⟩
    · repeat (first | with_reducible exact HM.out.incF | with_reducible apply MemIs.alloc | with_reducible apply MemIs.drewN | with_reducible apply MemIs.drew | with_reducible apply MemIs.setWord | (with_reducible refine MemIs.setNew ?_ _ _ (by omega) (by omega)))
    · repeat (first | with_reducible exact But.refl _ _ _ | with_reducible apply But.alloc | with_reducible apply But.drewN | with_reducible apply But.drew | with_reducible apply But.setP | with_reducible apply But.setQ | (with_reducible refine But.setNew ?_ _ _ (by omega)))
  · have ha0 : 0 ≤ a := by omega
    go_enter Try.func86, Try.ntmps86
    go_wp2_with go_in
    refine bodyPost_ret (results_none rfl _ _ _) rfl ?_
    go_wp2_with go_in
    go_ret
    refine ⟨rfl, ?_, ?_⟩
    · repeat (first | with_reducible exact HM.out.incF | with_reducible apply MemIs.alloc | with_reducible apply MemIs.drewN | with_reducible apply MemIs.drew | with_reducible apply MemIs.setWord | (with_reducible refine MemIs.setNew ?_ _ _ (by omega) (by omega)))
    · repeat (first | with_reducible exact But.refl _ _ _ | with_reducible apply But.alloc | with_reducible apply But.drewN | with_reducible apply But.drew | with_reducible apply But.setP | with_reducible apply But.setQ | (with_reducible refine But.setNew ?_ _ _ (by omega)))

set_option maxHeartbeats 400000 in
theorem write_fault (bm bw : Nat) (a : Int) (y : Nat) (l : List Nat) (c : Cn) (w : World) (hM : MemIs 108 w bm bw l c) (hn : l.length ≤ 65536) (ha : a < 0 ∨ (l.length : Int) ≤ a) (h1a : -9223372036854775808 ≤ a) (h1b : a ≤ 9223372036854775807) (hc : c.f < 9223372036854775807) :
    Calls Try.prog 88 #[.pointer (some ⟨bm, 0, none⟩), .int .i64 a, .int .u64 y] w (Left1 (.tuple #[]) bm bw l { c with f := c.f + 1 } w) := by
  have hmf : ∀ (fn : Fn) (first cap : Array Value) (w : World), (Instr.makeFunc fn first cap).run Try.prog w = .ok (.func fn first cap) w := fun _ _ _ _ => rfl
  have h0 := hM.c0
  have h1 := hM.c5
  have f1 := hM.fz 5
  have hb := hM.lt1
  have hb2 := hM.lt2
  have hne := hM.2.2
  have q1 : bm < w.heap.size + 1 := by omega
  have q2 : bm < w.heap.size + 1 + 1 := by omega
  have q3 : bm < w.heap.size + 1 + 1 + 1 := by omega
  have r1 : bw < w.heap.size + 1 := by omega
  have r2 : bw < w.heap.size + 1 + 1 := by omega
  have r3 : bw < w.heap.size + 1 + 1 + 1 := by omega
  have HM := Lib.hid hM
  clear hM
  rcases ha with ha | ha
  · go_enter Try.func88, Try.ntmps88
    go_wp2_with go_in
    refine bodyPost_ret (results_none rfl _ _ _) rfl ?_
    go_wp2_with go_in
    go_end0
    refine ⟨rfl, ?_, ?_⟩
    · repeat (first | with_reducible exact HM.out.incF | with_reducible apply MemIs.alloc | with_reducible apply MemIs.drewN | with_reducible apply MemIs.drew | with_reducible apply MemIs.setWord | (with_reducible refine MemIs.setNew ?_ _ _ (by omega) (by omega)))
    · repeat (first | with_reducible exact But.refl _ _ _ | with_reducible apply But.alloc | with_reducible apply But.drewN | with_reducible apply But.drew | with_reducible apply But.setP | with_reducible apply But.setQ | (with_reducible refine But.setNew ?_ _ _ (by omega)))
  · have ha0 : 0 ≤ a := by omega
    go_enter Try.func88, Try.ntmps88
    go_wp2_with go_in
    refine bodyPost_ret (results_none rfl _ _ _) rfl ?_
    go_wp2_with go_in
    go_end0
    refine ⟨rfl, ?_, ?_⟩
    · repeat (first | with_reducible exact HM.out.incF | with_reducible apply MemIs.alloc | with_reducible apply MemIs.drewN | with_reducible apply MemIs.drew | with_reducible apply MemIs.setWord | (with_reducible refine MemIs.setNew ?_ _ _ (by omega) (by omega)))
    · repeat (first | with_reducible exact But.refl _ _ _ | with_reducible apply But.alloc | with_reducible apply But.drewN | with_reducible apply But.drew | with_reducible apply But.setP | with_reducible apply But.setQ | (with_reducible refine But.setNew ?_ _ _ (by omega)))

set_option maxHeartbeats 400000 in
theorem read_nil (a : Int) (w : World) : Calls Try.prog 86 #[.pointer none, .int .i64 a] w fun e w' => e = .returned (.int .u64 0) ∧ Below w.heap.size w w' := by
  have hmf : ∀ (fn : Fn) (first cap : Array Value) (w : World), (Instr.makeFunc fn first cap).run Try.prog w = .ok (.func fn first cap) w := fun _ _ _ _ => rfl
  go_enter Try.func86, Try.ntmps86
  go_wp2_with go_in
  refine bodyPost_ret (results_none rfl _ _ _) rfl ?_
  go_wp2_with go_in
  go_ret
  refine ⟨rfl, ?_⟩
  repeat (first | exact Below.refl _ _ | (refine Below.alloc ?_ (by simp; try omega) _) | apply Below.drew)

set_option maxHeartbeats 400000 in
theorem write_nil (a : Int) (y : Nat) (w : World) : Calls Try.prog 88 #[.pointer none, .int .i64 a, .int .u64 y] w fun e w' => e = .returned (.tuple #[]) ∧ Below w.heap.size w w' := by
  have hmf : ∀ (fn : Fn) (first cap : Array Value) (w : World), (Instr.makeFunc fn first cap).run Try.prog w = .ok (.func fn first cap) w := fun _ _ _ _ => rfl
  go_enter Try.func88, Try.ntmps88
  go_wp2_with go_in
  refine bodyPost_ret (results_none rfl _ _ _) rfl ?_
  go_wp2_with go_in
  go_end0
  refine ⟨rfl, ?_⟩
  repeat (first | exact Below.refl _ _ | (refine Below.alloc ?_ (by simp; try omega) _) | apply Below.drew)

end Go.Proofs.Ytglpalomhhhmhaa
