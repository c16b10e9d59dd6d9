/- seq: how many operations a type has. -/
import Derived.Test.YtmocjpcnohnfpaaGreatChecked
import Derived.Test.YtmocjpcnohnfpaaGreatBa
import Derived.Test.YtmocjpcnohnfpaaGreatK7
import Derived.Laws.IdiomArrays
import Derived.Laws.OwnMore
import Derived.WalkLawsBesides
import Derived.WalkSmall
import Derived.Laws.EntriesVeiled
namespace Go.Proofs.YtmocjpcnohnfpaaGreat.Tb
open Go.ChangeShapes Go.WideShapes Go.ChangeAt Go.RowKit
set_option linter.unusedVariables false
set_option linter.unusedSimpArgs false

theorem run_eql_func (fn : Fn) (first cap : Array Value) (w : World) : (binOp .eql 94 (.func fn first cap) .nilFunc).run Tryz.prog w = .ok (.bool false) w := by kernel_rfl
theorem run_eql_nilF (w : World) : (binOp .eql 94 .nilFunc .nilFunc).run Tryz.prog w = .ok (.bool true) w := by kernel_rfl
def seqZ : Obj := .cells #[.int .i64 0, .int .i64 0, .nilFunc, .nilFunc, .nilFunc] 96
/-- what find leaves: a type of 2, or 3, operations -/
def Find2 (W : World) (e : Ending) (w' : World) : Prop :=
  ∃ (lo hi : Int) (f0 f1 : Fn) (x0 x1 : Array Value), e = .returned (.tuple #[.agg #[.int .i64 lo, .int .i64 hi, .func f0 #[] x0, .func f1 #[] x1, .nilFunc], .bool true]) ∧ Below W.heap.size W w'
def Find3 (W : World) (e : Ending) (w' : World) : Prop :=
  ∃ (lo hi : Int) (f0 f1 f2 : Fn) (x0 x1 x2 : Array Value), e = .returned (.tuple #[.agg #[.int .i64 lo, .int .i64 hi, .func f0 #[] x0, .func f1 #[] x1, .func f2 #[] x2], .bool true]) ∧ Below W.heap.size W w'
set_option maxHeartbeats 1000000 in
theorem update_any (f : Nat) (w : World) :
    Calls Tryz.prog 87 #[.func (.func f) #[] #[]] w fun e w' => e = .returned (.func (.func 131) #[] #[.pointer (some ⟨w.heap.size, 0, none⟩)]) ∧ Below w.heap.size w w' := by
  have hmf : ∀ (fn : Fn) (first cap : Array Value) (w : World), (Instr.makeFunc fn first cap).run Tryz.prog w = .ok (.func fn first cap) w := fun _ _ _ _ => rfl
  go_enter Tryz.func87, Tryz.ntmps87
  go_wp2_with fail
  go_ret
  exact ⟨rfl, (Below.refl _ _).alloc (Nat.le_refl _) _⟩
/-- five cells of one block are stored -/
def put5 (w : World) (b : Nat) (v0 v1 v2 v3 v4 : Value) : World := ((((w.setCell ⟨b, 0, none⟩ v0).setCell ⟨b, 1, none⟩ v1).setCell ⟨b, 2, none⟩ v2).setCell ⟨b, 3, none⟩ v3).setCell ⟨b, 4, none⟩ v4
theorem put5_below {a w : World} {B b : Nat} (h : Below B a w) (hb : B ≤ b) (v0 v1 v2 v3 v4 : Value) : Below B a (put5 w b v0 v1 v2 v3 v4) :=
  ((((h.setCell (p := ⟨b, 0, none⟩) hb _).setCell (p := ⟨b, 1, none⟩) hb _).setCell (p := ⟨b, 2, none⟩) hb _).setCell (p := ⟨b, 3, none⟩) hb _).setCell (p := ⟨b, 4, none⟩) hb _

set_option maxHeartbeats 1000000 in
theorem find_0 (w : World) : Calls Tryz.prog 52 #[.int .i64 0] w (Find2 w) := by
  go_enter Tryz.func52, Tryz.ntmps52
  go_wp2_with (go_at_call 87; refine (update_any _ _).mono ?_; rintro e w5 ⟨rfl, hb⟩; (have hbk : w5.heap[w.heap.size]? = some seqZ := (hb.block _ (by simp)).trans (heap_alloc_new _ _)); (have k0 := cell_of_blkT (k := 0) hbk rfl); (have k1 := cell_of_blkT (k := 1) hbk rfl); (have k2 := cell_of_blkT (k := 2) hbk rfl); (have k3 := cell_of_blkT (k := 3) hbk rfl); (have k4 := cell_of_blkT (k := 4) hbk rfl); (have z0 := free_of_blkT (k := 0) hbk); (have z1 := free_of_blkT (k := 1) hbk); (have z2 := free_of_blkT (k := 2) hbk); (have z3 := free_of_blkT (k := 3) hbk); (have z4 := free_of_blkT (k := 4) hbk); (have HB := Lib.hid hb); clear hb hbk)
  have HB2 : Below w.heap.size w w5 := ((Below.refl _ _).alloc (Nat.le_refl _) _).trans (HB.out.mono (by simp))
  refine bodyPost_ret (v := .tuple #[.agg #[.int .i64 1, .int .i64 1, (.func (.func 86) #[] #[]), (.func (.func 131) #[] #[.pointer (some ⟨w.heap.size + 1, 0, none⟩)]), .nilFunc], .bool true]) (by simp [results, Tryz.results52, go_sem, k0, k1, k2, k3, k4]) rfl ⟨_, _, _, _, _, _, rfl, put5_below HB2 (Nat.le_refl _) _ _ _ _ _⟩

set_option maxHeartbeats 1000000 in
theorem find_1 (w : World) : Calls Tryz.prog 52 #[.int .i64 1] w (Find2 w) := by
  go_enter Tryz.func52, Tryz.ntmps52
  go_wp2_with (go_at_call 87; refine (update_any _ _).mono ?_; rintro e w5 ⟨rfl, hb⟩; (have hbk : w5.heap[w.heap.size]? = some seqZ := (hb.block _ (by simp)).trans (heap_alloc_new _ _)); (have k0 := cell_of_blkT (k := 0) hbk rfl); (have k1 := cell_of_blkT (k := 1) hbk rfl); (have k2 := cell_of_blkT (k := 2) hbk rfl); (have k3 := cell_of_blkT (k := 3) hbk rfl); (have k4 := cell_of_blkT (k := 4) hbk rfl); (have z0 := free_of_blkT (k := 0) hbk); (have z1 := free_of_blkT (k := 1) hbk); (have z2 := free_of_blkT (k := 2) hbk); (have z3 := free_of_blkT (k := 3) hbk); (have z4 := free_of_blkT (k := 4) hbk); (have HB := Lib.hid hb); clear hb hbk)
  have HB2 : Below w.heap.size w w5 := ((Below.refl _ _).alloc (Nat.le_refl _) _).trans (HB.out.mono (by simp))
  refine bodyPost_ret (v := .tuple #[.agg #[.int .i64 1, .int .i64 1, (.func (.func 86) #[] #[]), (.func (.func 131) #[] #[.pointer (some ⟨w.heap.size + 1, 0, none⟩)]), .nilFunc], .bool true]) (by simp [results, Tryz.results52, go_sem, k0, k1, k2, k3, k4]) rfl ⟨_, _, _, _, _, _, rfl, put5_below HB2 (Nat.le_refl _) _ _ _ _ _⟩

set_option maxHeartbeats 1000000 in
theorem find_2 (w : World) : Calls Tryz.prog 52 #[.int .i64 2] w (Find3 w) := by
  go_enter Tryz.func52, Tryz.ntmps52
  go_wp2_with fail
  refine bodyPost_ret (v := .tuple #[.agg #[.int .i64 0, .int .i64 8, (.func (.func 90) #[] #[]), (.func (.func 91) #[] #[]), (.func (.func 92) #[] #[])], .bool true]) (by simp [results, Tryz.results52, go_sem]) rfl ⟨_, _, _, _, _, _, _, _, rfl, (Below.refl _ _).alloc (Nat.le_refl _) _⟩

set_option maxHeartbeats 1000000 in
theorem find_3 (w : World) : Calls Tryz.prog 52 #[.int .i64 3] w (Find3 w) := by
  go_enter Tryz.func52, Tryz.ntmps52
  go_wp2_with fail
  refine bodyPost_ret (v := .tuple #[.agg #[.int .i64 0, .int .i64 8, (.func (.func 90) #[] #[]), (.func (.func 93) #[] #[]), (.func (.func 94) #[] #[])], .bool true]) (by simp [results, Tryz.results52, go_sem]) rfl ⟨_, _, _, _, _, _, _, _, rfl, (Below.refl _ _).alloc (Nat.le_refl _) _⟩

set_option maxHeartbeats 1000000 in
theorem find_4 (w : World) : Calls Tryz.prog 52 #[.int .i64 4] w (Find3 w) := by
  go_enter Tryz.func52, Tryz.ntmps52
  go_wp2_with fail
  refine bodyPost_ret (v := .tuple #[.agg #[.int .i64 1, .int .i64 1, (.func (.func 95) #[] #[]), (.func (.func 96) #[] #[]), (.func (.func 97) #[] #[])], .bool true]) (by simp [results, Tryz.results52, go_sem]) rfl ⟨_, _, _, _, _, _, _, _, rfl, (Below.refl _ _).alloc (Nat.le_refl _) _⟩

set_option maxHeartbeats 1000000 in
theorem find_5 (w : World) : Calls Tryz.prog 52 #[.int .i64 5] w (Find2 w) := by
  go_enter Tryz.func52, Tryz.ntmps52
  go_wp2_with (go_at_call 87; refine (update_any _ _).mono ?_; rintro e w5 ⟨rfl, hb⟩; (have hbk : w5.heap[w.heap.size]? = some seqZ := (hb.block _ (by simp)).trans (heap_alloc_new _ _)); (have k0 := cell_of_blkT (k := 0) hbk rfl); (have k1 := cell_of_blkT (k := 1) hbk rfl); (have k2 := cell_of_blkT (k := 2) hbk rfl); (have k3 := cell_of_blkT (k := 3) hbk rfl); (have k4 := cell_of_blkT (k := 4) hbk rfl); (have z0 := free_of_blkT (k := 0) hbk); (have z1 := free_of_blkT (k := 1) hbk); (have z2 := free_of_blkT (k := 2) hbk); (have z3 := free_of_blkT (k := 3) hbk); (have z4 := free_of_blkT (k := 4) hbk); (have HB := Lib.hid hb); clear hb hbk)
  have HB2 : Below w.heap.size w w5 := ((Below.refl _ _).alloc (Nat.le_refl _) _).trans (HB.out.mono (by simp))
  refine bodyPost_ret (v := .tuple #[.agg #[.int .i64 1, .int .i64 1, (.func (.func 86) #[] #[]), (.func (.func 131) #[] #[.pointer (some ⟨w.heap.size + 1, 0, none⟩)]), .nilFunc], .bool true]) (by simp [results, Tryz.results52, go_sem, k0, k1, k2, k3, k4]) rfl ⟨_, _, _, _, _, _, rfl, put5_below HB2 (Nat.le_refl _) _ _ _ _ _⟩

set_option maxHeartbeats 1000000 in
theorem find_6 (w : World) : Calls Tryz.prog 52 #[.int .i64 6] w (Find2 w) := by
  go_enter Tryz.func52, Tryz.ntmps52
  go_wp2_with fail
  refine bodyPost_ret (v := .tuple #[.agg #[.int .i64 1, .int .i64 1, (.func (.func 86) #[] #[]), (.func (.func 99) #[] #[]), .nilFunc], .bool true]) (by simp [results, Tryz.results52, go_sem]) rfl ⟨_, _, _, _, _, _, rfl, (Below.refl _ _).alloc (Nat.le_refl _) _⟩

set_option maxHeartbeats 1000000 in
theorem find_7 (w : World) : Calls Tryz.prog 52 #[.int .i64 7] w (Find2 w) := by
  go_enter Tryz.func52, Tryz.ntmps52
  go_wp2_with fail
  refine bodyPost_ret (v := .tuple #[.agg #[.int .i64 8, .int .i64 8, (.func (.func 100) #[] #[]), (.func (.func 101) #[] #[]), .nilFunc], .bool true]) (by simp [results, Tryz.results52, go_sem]) rfl ⟨_, _, _, _, _, _, rfl, (Below.refl _ _).alloc (Nat.le_refl _) _⟩

set_option maxHeartbeats 1000000 in
theorem find_none (t : Int) (w : World) (ht : ¬ (0 ≤ t ∧ t ≤ 7)) : Calls Tryz.prog 52 #[.int .i64 t] w fun e w' => e = .returned (.tuple #[.agg #[.int .i64 0, .int .i64 0, .nilFunc, .nilFunc, .nilFunc], .bool false]) ∧ Below w.heap.size w w' := by
  have h0 : ¬ t = 0 := by omega
  have h1 : ¬ t = 1 := by omega
  have h2 : ¬ t = 2 := by omega
  have h3 : ¬ t = 3 := by omega
  have h4 : ¬ t = 4 := by omega
  have h5 : ¬ t = 5 := by omega
  have h6 : ¬ t = 6 := by omega
  have h7 : ¬ t = 7 := by omega
  clear ht
  go_enter Tryz.func52, Tryz.ntmps52
  go_wp2_with fail
  refine bodyPost_ret (v := .tuple #[.agg #[.int .i64 0, .int .i64 0, .nilFunc, .nilFunc, .nilFunc], .bool false]) (by simp [results, Tryz.results52, go_sem]) rfl ⟨rfl, (Below.refl _ _).alloc (Nat.le_refl _) _⟩
theorem find2_any (t : Int) (h : 0 ≤ t ∧ t ≤ 7) (h3 : ¬ (t = 2 ∨ t = 3 ∨ t = 4)) (w : World) : Calls Tryz.prog 52 #[.int .i64 t] w (Find2 w) := by
  have : t = 0 ∨ t = 1 ∨ t = 5 ∨ t = 6 ∨ t = 7 := by omega
  rcases this with rfl | rfl | rfl | rfl | rfl
  · exact find_0 w
  · exact find_1 w
  · exact find_5 w
  · exact find_6 w
  · exact find_7 w
theorem find3_any (t : Int) (h3 : t = 2 ∨ t = 3 ∨ t = 4) (w : World) : Calls Tryz.prog 52 #[.int .i64 t] w (Find3 w) := by
  rcases h3 with rfl | rfl | rfl
  · exact find_2 w
  · exact find_3 w
  · exact find_4 w
set_option maxHeartbeats 400000 in
theorem kinds2_any (lo hi : Int) (f0 f1 : Fn) (x0 x1 : Array Value) (w : World) :
    Calls Tryz.prog 178 #[.agg #[.int .i64 lo, .int .i64 hi, .func f0 #[] x0, .func f1 #[] x1, .nilFunc]] w fun e w' => e = .returned (.int .i64 2) ∧ Below w.heap.size w w' := by
  have qF := run_eql_func
  have qN := run_eql_nilF
  go_enter Tryz.func178, Tryz.ntmps178
  go_wp2_with fail
  go_ret
  exact ⟨rfl, (Below.refl _ _).alloc (Nat.le_refl _) _⟩
set_option maxHeartbeats 400000 in
theorem kinds3_any (lo hi : Int) (f0 f1 f2 : Fn) (x0 x1 x2 : Array Value) (w : World) :
    Calls Tryz.prog 178 #[.agg #[.int .i64 lo, .int .i64 hi, .func f0 #[] x0, .func f1 #[] x1, .func f2 #[] x2]] w fun e w' => e = .returned (.int .i64 3) ∧ Below w.heap.size w w' := by
  have qF := run_eql_func
  have qN := run_eql_nilF
  go_enter Tryz.func178, Tryz.ntmps178
  go_wp2_with fail
  go_ret
  exact ⟨rfl, (Below.refl _ _).alloc (Nat.le_refl _) _⟩
set_option maxHeartbeats 400000 in
theorem seqKinds_any (t : Int) (w : World) :
    Calls Tryz.prog 164 #[.int .i64 t] w fun e w' => e = .returned (.int .i64 (tbTyp t)) ∧ Below w.heap.size w w' := by
  by_cases h : 0 ≤ t ∧ t ≤ 7
  · by_cases h3 : t = 2 ∨ t = 3 ∨ t = 4
    · rw [tbTyp_3 h3]
      have HF := Lib.hid (fun w => find3_any t h3 w)
      unfold Find3 at HF
      clear h h3
      go_enter Tryz.func164, Tryz.ntmps164
      go_wp2_with (first
        | (go_at_call 52; refine (HF.out _).mono ?_; rintro e w5 ⟨lo, hi, f0, f1, f2, x0, x1, x2, rfl, hb⟩; (have HB := Lib.hid hb); clear hb)
        | (go_at_call 178; refine (kinds3_any lo hi _ _ _ _ _ _ _).mono ?_; rintro e w6 ⟨rfl, hb⟩; (have HB6 := Lib.hid hb); clear hb))
      go_ret
      exact ⟨rfl, (HB.out.alloc HB.out.size _).trans (HB6.out.mono (by have := HB.out.size; simp; omega))⟩
    · rw [tbTyp_2 h h3]
      have HF := Lib.hid (fun w => find2_any t h h3 w)
      unfold Find2 at HF
      clear h h3
      go_enter Tryz.func164, Tryz.ntmps164
      go_wp2_with (first
        | (go_at_call 52; refine (HF.out _).mono ?_; rintro e w5 ⟨lo, hi, f0, f1, x0, x1, rfl, hb⟩; (have HB := Lib.hid hb); clear hb)
        | (go_at_call 178; refine (kinds2_any lo hi _ _ _ _ _).mono ?_; rintro e w6 ⟨rfl, hb⟩; (have HB6 := Lib.hid hb); clear hb))
      go_ret
      exact ⟨rfl, (HB.out.alloc HB.out.size _).trans (HB6.out.mono (by have := HB.out.size; simp; omega))⟩
  · rw [tbTyp_no h]
    have HF := Lib.hid (fun w => find_none t w h)
    clear h
    go_enter Tryz.func164, Tryz.ntmps164
    go_wp2_with (go_at_call 52; refine (HF.out _).mono ?_; rintro e w5 ⟨rfl, hb⟩; (have HB := Lib.hid hb); clear hb)
    go_ret
    exact ⟨rfl, HB.out.alloc HB.out.size _⟩
end Go.Proofs.YtmocjpcnohnfpaaGreat.Tb
