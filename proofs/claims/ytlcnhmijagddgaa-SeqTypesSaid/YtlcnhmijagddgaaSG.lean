/- The table of types: find. -/
import Derived.Test.YtlcnhmijagddgaaSF
namespace Go.Proofs.Ytlcnhmijagddgaa
open Go.ChangeShapes Go.WideShapes Go.ChangeAt Go.RowKit
set_option linter.unusedVariables false

theorem free_of_blk {w : World} {b k : Nat} {c : Array Value} {t : TypeId} (h : w.heap[b]? = some (.cells c t (0, 0))) : w.frozen? ⟨b, k, none⟩ = false := by simp [World.frozen?, h]
theorem cell_of_blk {w : World} {b k : Nat} {c : Array Value} {t : TypeId} {fr : Nat × Nat} {v : Value} (h : w.heap[b]? = some (.cells c t fr)) (hv : c[k]? = some v) : w.cell? ⟨b, k, none⟩ = some v := by
  unfold World.cell?; rw [h]; simpa using hv
theorem raise_do (x a : Nat) : sqDo 5 1 [x] a = ([if x < a then a else x], x, 0) := by
  show (if x < a then ([a], x, 0) else ([x], x, 0)) = _
  split <;> rfl
def seqZ : Obj := .cells #[.int .i64 0, .int .i64 0, .nilFunc, .nilFunc, .nilFunc] 43
/-- five cells of one block are stored -/
def put5 (w : World) (b : Nat) (v0 v1 v2 v3 v4 : Value) : World := ((((w.setCell ⟨b, 0, none⟩ v0).setCell ⟨b, 1, none⟩ v1).setCell ⟨b, 2, none⟩ v2).setCell ⟨b, 3, none⟩ v3).setCell ⟨b, 4, none⟩ v4
theorem put5_below {a w : World} {B b : Nat} (h : Below B a w) (hb : B ≤ b) (v0 v1 v2 v3 v4 : Value) : Below B a (put5 w b v0 v1 v2 v3 v4) :=
  ((((h.setCell (p := ⟨b, 0, none⟩) hb _).setCell (p := ⟨b, 1, none⟩) hb _).setCell (p := ⟨b, 2, none⟩) hb _).setCell (p := ⟨b, 3, none⟩) hb _).setCell (p := ⟨b, 4, none⟩) hb _
theorem put5_cell (w : World) (b q : Nat) (hq : q ≠ b) (v0 v1 v2 v3 v4 : Value) : (put5 w b v0 v1 v2 v3 v4).cell? ⟨q, 0, none⟩ = w.cell? ⟨q, 0, none⟩ := by
  have h : ∀ (w : World) (k : Nat) (u : Value), (w.setCell ⟨b, k, none⟩ u).cell? ⟨q, 0, none⟩ = w.cell? ⟨q, 0, none⟩ := fun w k u => by
    unfold World.cell?
    rw [Below.heap_setCell w ⟨b, k, none⟩ u q hq]
  unfold put5
  rw [h, h, h, h, h]

set_option maxHeartbeats 1000000 in
theorem find_0 (w : World) : Calls Try.prog 16 #[.int .i64 0] w (FindP 0 w) := by
  go_enter Try.func16, Try.ntmps16
  go_wp2_with (go_at_call 25; refine (update_any _ _).mono ?_; rintro e w5 ⟨rfl, hq, hb, hs⟩; (have hbk : w5.heap[w.heap.size]? = some seqZ := (hb.block _ (by simp)).trans (heap_alloc_new _ _)); (have k0 := cell_of_blk (k := 0) hbk rfl); (have k1 := cell_of_blk (k := 1) hbk rfl); (have k2 := cell_of_blk (k := 2) hbk rfl); (have k3 := cell_of_blk (k := 3) hbk rfl); (have k4 := cell_of_blk (k := 4) hbk rfl); (have z0 := free_of_blk (k := 0) hbk); (have z1 := free_of_blk (k := 1) hbk); (have z2 := free_of_blk (k := 2) hbk); (have z3 := free_of_blk (k := 3) hbk); (have z4 := free_of_blk (k := 4) hbk); (have HQ := Lib.hid hq); (have HB := Lib.hid hb); clear hq hb hbk hs)
  have HQ2 : w5.cell? ⟨w.heap.size + 1, 0, none⟩ = some (.func (.func 26) #[] #[]) := by have := HQ.out; simpa using this
  have HB2 : Below w.heap.size w w5 := ((Below.refl _ _).alloc (Nat.le_refl _) _).trans (HB.out.mono (by simp))
  refine bodyPost_ret (v := .tuple #[.agg #[.int .i64 1, .int .i64 1, (.func (.func 24) #[] #[]), (.func (.func 40) #[] #[.pointer (some ⟨w.heap.size + 1, 0, none⟩)]), .nilFunc], .bool true]) (by simp [results, Try.results16, go_sem, k0, k1, k2, k3, k4]) rfl ⟨_, rfl, ⟨_, _, _, rfl, effC_look _ 0 (by decide), effC_update _ 0 (w.heap.size + 1) 26 (fun _ a => a) next_replaced (by decide) (fun x a hx ha => rfl) ((put5_cell w5 w.heap.size (w.heap.size + 1) (by omega) _ _ _ _ _).trans HQ2), rfl⟩, put5_below HB2 (Nat.le_refl _) _ _ _ _ _⟩

set_option maxHeartbeats 1000000 in
theorem find_1 (w : World) : Calls Try.prog 16 #[.int .i64 1] w (FindP 1 w) := by
  go_enter Try.func16, Try.ntmps16
  go_wp2_with (go_at_call 25; refine (update_any _ _).mono ?_; rintro e w5 ⟨rfl, hq, hb, hs⟩; (have hbk : w5.heap[w.heap.size]? = some seqZ := (hb.block _ (by simp)).trans (heap_alloc_new _ _)); (have k0 := cell_of_blk (k := 0) hbk rfl); (have k1 := cell_of_blk (k := 1) hbk rfl); (have k2 := cell_of_blk (k := 2) hbk rfl); (have k3 := cell_of_blk (k := 3) hbk rfl); (have k4 := cell_of_blk (k := 4) hbk rfl); (have z0 := free_of_blk (k := 0) hbk); (have z1 := free_of_blk (k := 1) hbk); (have z2 := free_of_blk (k := 2) hbk); (have z3 := free_of_blk (k := 3) hbk); (have z4 := free_of_blk (k := 4) hbk); (have HQ := Lib.hid hq); (have HB := Lib.hid hb); clear hq hb hbk hs)
  have HQ2 : w5.cell? ⟨w.heap.size + 1, 0, none⟩ = some (.func (.func 27) #[] #[]) := by have := HQ.out; simpa using this
  have HB2 : Below w.heap.size w w5 := ((Below.refl _ _).alloc (Nat.le_refl _) _).trans (HB.out.mono (by simp))
  refine bodyPost_ret (v := .tuple #[.agg #[.int .i64 1, .int .i64 1, (.func (.func 24) #[] #[]), (.func (.func 40) #[] #[.pointer (some ⟨w.heap.size + 1, 0, none⟩)]), .nilFunc], .bool true]) (by simp [results, Try.results16, go_sem, k0, k1, k2, k3, k4]) rfl ⟨_, rfl, ⟨_, _, _, rfl, effC_look _ 1 (by decide), effC_update _ 1 (w.heap.size + 1) 27 (fun x a => (x + a) % 18446744073709551616) next_increased (by decide) (fun x a hx ha => rfl) ((put5_cell w5 w.heap.size (w.heap.size + 1) (by omega) _ _ _ _ _).trans HQ2), rfl⟩, put5_below HB2 (Nat.le_refl _) _ _ _ _ _⟩

set_option maxHeartbeats 1000000 in
theorem find_2 (w : World) : Calls Try.prog 16 #[.int .i64 2] w (FindP 2 w) := by
  go_enter Try.func16, Try.ntmps16
  go_wp2_with fail
  refine bodyPost_ret (v := .tuple #[.agg #[.int .i64 0, .int .i64 8, (.func (.func 28) #[] #[]), (.func (.func 29) #[] #[]), (.func (.func 30) #[] #[])], .bool true]) (by simp [results, Try.results16, go_sem]) rfl ⟨_, rfl, ⟨_, _, _, rfl, effC_add _ 2 (by decide), effC_removeLast _, effC_showLast _⟩, (Below.refl _ _).alloc (Nat.le_refl _) _⟩

set_option maxHeartbeats 1000000 in
theorem find_3 (w : World) : Calls Try.prog 16 #[.int .i64 3] w (FindP 3 w) := by
  go_enter Try.func16, Try.ntmps16
  go_wp2_with fail
  refine bodyPost_ret (v := .tuple #[.agg #[.int .i64 0, .int .i64 8, (.func (.func 28) #[] #[]), (.func (.func 31) #[] #[]), (.func (.func 32) #[] #[])], .bool true]) (by simp [results, Try.results16, go_sem]) rfl ⟨_, rfl, ⟨_, _, _, rfl, effC_add _ 3 (by decide), effC_removeFirst _, effC_showFirst _⟩, (Below.refl _ _).alloc (Nat.le_refl _) _⟩

set_option maxHeartbeats 1000000 in
theorem find_4 (w : World) : Calls Try.prog 16 #[.int .i64 4] w (FindP 4 w) := by
  go_enter Try.func16, Try.ntmps16
  go_wp2_with fail
  refine bodyPost_ret (v := .tuple #[.agg #[.int .i64 1, .int .i64 1, (.func (.func 33) #[] #[]), (.func (.func 34) #[] #[]), (.func (.func 35) #[] #[])], .bool true]) (by simp [results, Try.results16, go_sem]) rfl ⟨_, rfl, ⟨_, _, _, rfl, effC_has _, effC_include _, effC_exclude _⟩, (Below.refl _ _).alloc (Nat.le_refl _) _⟩

set_option maxHeartbeats 1000000 in
theorem find_5 (w : World) : Calls Try.prog 16 #[.int .i64 5] w (FindP 5 w) := by
  go_enter Try.func16, Try.ntmps16
  go_wp2_with (go_at_call 25; refine (update_any _ _).mono ?_; rintro e w5 ⟨rfl, hq, hb, hs⟩; (have hbk : w5.heap[w.heap.size]? = some seqZ := (hb.block _ (by simp)).trans (heap_alloc_new _ _)); (have k0 := cell_of_blk (k := 0) hbk rfl); (have k1 := cell_of_blk (k := 1) hbk rfl); (have k2 := cell_of_blk (k := 2) hbk rfl); (have k3 := cell_of_blk (k := 3) hbk rfl); (have k4 := cell_of_blk (k := 4) hbk rfl); (have z0 := free_of_blk (k := 0) hbk); (have z1 := free_of_blk (k := 1) hbk); (have z2 := free_of_blk (k := 2) hbk); (have z3 := free_of_blk (k := 3) hbk); (have z4 := free_of_blk (k := 4) hbk); (have HQ := Lib.hid hq); (have HB := Lib.hid hb); clear hq hb hbk hs)
  have HQ2 : w5.cell? ⟨w.heap.size + 1, 0, none⟩ = some (.func (.func 36) #[] #[]) := by have := HQ.out; simpa using this
  have HB2 : Below w.heap.size w w5 := ((Below.refl _ _).alloc (Nat.le_refl _) _).trans (HB.out.mono (by simp))
  refine bodyPost_ret (v := .tuple #[.agg #[.int .i64 1, .int .i64 1, (.func (.func 24) #[] #[]), (.func (.func 40) #[] #[.pointer (some ⟨w.heap.size + 1, 0, none⟩)]), .nilFunc], .bool true]) (by simp [results, Try.results16, go_sem, k0, k1, k2, k3, k4]) rfl ⟨_, rfl, ⟨_, _, _, rfl, effC_look _ 5 (by decide), effC_update _ 5 (w.heap.size + 1) 36 (fun x a => if x < a then a else x) next_raised (by decide) (fun x a hx ha => raise_do x a) ((put5_cell w5 w.heap.size (w.heap.size + 1) (by omega) _ _ _ _ _).trans HQ2), rfl⟩, put5_below HB2 (Nat.le_refl _) _ _ _ _ _⟩

set_option maxHeartbeats 1000000 in
theorem find_6 (w : World) : Calls Try.prog 16 #[.int .i64 6] w (FindP 6 w) := by
  go_enter Try.func16, Try.ntmps16
  go_wp2_with fail
  refine bodyPost_ret (v := .tuple #[.agg #[.int .i64 1, .int .i64 1, (.func (.func 24) #[] #[]), (.func (.func 37) #[] #[]), .nilFunc], .bool true]) (by simp [results, Try.results16, go_sem]) rfl ⟨_, rfl, ⟨_, _, _, rfl, effC_look _ 6 (by decide), effC_swap _, rfl⟩, (Below.refl _ _).alloc (Nat.le_refl _) _⟩

set_option maxHeartbeats 1000000 in
theorem find_7 (w : World) : Calls Try.prog 16 #[.int .i64 7] w (FindP 7 w) := by
  go_enter Try.func16, Try.ntmps16
  go_wp2_with fail
  refine bodyPost_ret (v := .tuple #[.agg #[.int .i64 8, .int .i64 8, (.func (.func 38) #[] #[]), (.func (.func 39) #[] #[]), .nilFunc], .bool true]) (by simp [results, Try.results16, go_sem]) rfl ⟨_, rfl, ⟨_, _, _, rfl, effC_lookUp _, effC_store _, rfl⟩, (Below.refl _ _).alloc (Nat.le_refl _) _⟩

set_option maxHeartbeats 1000000 in
theorem find_none (t : Int) (w : World) (ht : ¬ (0 ≤ t ∧ t ≤ 7)) : Calls Try.prog 16 #[.int .i64 t] w fun e w' => e = .returned (.tuple #[.agg #[.int .i64 0, .int .i64 0, .nilFunc, .nilFunc, .nilFunc], .bool false]) ∧ Below w.heap.size w w' := by
  have h0 : ¬ t = 0 := by omega
  have h1 : ¬ t = 1 := by omega
  have h2 : ¬ t = 2 := by omega
  have h3 : ¬ t = 3 := by omega
  have h4 : ¬ t = 4 := by omega
  have h5 : ¬ t = 5 := by omega
  have h6 : ¬ t = 6 := by omega
  have h7 : ¬ t = 7 := by omega
  clear ht
  go_enter Try.func16, Try.ntmps16
  go_wp2_with fail
  refine bodyPost_ret (v := .tuple #[.agg #[.int .i64 0, .int .i64 0, .nilFunc, .nilFunc, .nilFunc], .bool false]) (by simp [results, Try.results16, go_sem]) rfl ⟨rfl, (Below.refl _ _).alloc (Nat.le_refl _) _⟩

theorem find_any (t : Nat) (ht : t ≤ 7) (w : World) : Calls Try.prog 16 #[.int .i64 (t : Int)] w (FindP t w) := by
  match t, ht with
  | 0, _ => exact find_0 w
  | 1, _ => exact find_1 w
  | 2, _ => exact find_2 w
  | 3, _ => exact find_3 w
  | 4, _ => exact find_4 w
  | 5, _ => exact find_5 w
  | 6, _ => exact find_6 w
  | 7, _ => exact find_7 w
end Go.Proofs.Ytlcnhmijagddgaa
