/- Plain: the table of objects, and the bounds. | seq: how many operations a type has. | The objects' Size. | table: rows, find. | table: find. -/
import Derived.Test.YtjjleghalajidaaGreatGK
import Derived.Test.YtjjleghalajidaaGreatChecked
import Derived.Laws.IdiomArrays
import Derived.Laws.OwnMore
import Derived.WalkLawsBesides
import Derived.WalkSmall
import Derived.Laws.EntriesVeiled
namespace Go.Proofs.YtjjleghalajidaaGreat.Tb
section
set_option maxRecDepth 100000
open Go.ChangeShapes Go.WideShapes Go.ChangeAt Go.RowKit
set_option linter.unusedVariables false
set_option linter.unusedSimpArgs false

/-- may an object be made so? -/
def tbIn (k p q : Int) : Prop :=
  (k = 0 → 1 ≤ p ∧ p ≤ 64) ∧ (k = 4 → 1 ≤ p ∧ p ≤ 12) ∧ (k = 5 → 1 ≤ p ∧ p ≤ 64) ∧ (k = 6 → (1 ≤ p ∧ p ≤ 16) ∧ 1 ≤ q ∧ q ≤ 64) ∧ (k = 7 → (0 ≤ p ∧ p ≤ 7) ∧ 1 ≤ q ∧ q ≤ 256) ∧ (k = 8 → (1 ≤ p ∧ p ≤ 32) ∧ 0 ≤ q ∧ q ≤ 3) ∧ (k = 9 → 1 ≤ p ∧ p ≤ 8)
instance (k p q : Int) : Decidable (tbIn k p q) := by unfold tbIn; infer_instance
/-- how many words -/
def tbSz (n k p q : Int) : Int :=
  if k = 0 then p else if k = 1 then 1 else if k = 2 then n else if k = 3 then 1 else if k = 4 then 2 ^ p.toNat - 1 else if k = 5 then n + n * p * (n + 1) else if k = 6 then p + n * q * (p + 1) else if k = 7 then n + q else if k = 8 then 6 + n + 4 * (n * p) else 1 + (n + 1) * (p + 1)
def tbErr (n k p q : Int) : Int := if ¬ (1 ≤ n ∧ n ≤ 16) then 1 else if ¬ (0 ≤ k ∧ k ≤ 9) then 9 else if tbIn k p q then 0 else 10
def tbN (n k p q : Int) : Int := if tbErr n k p q = 0 then tbSz n k p q else 0
/-- how many operations -/
def tbTyp (p : Int) : Int := if 0 ≤ p ∧ p ≤ 7 then (if p = 2 ∨ p = 3 ∨ p = 4 then 3 else 2) else 0
def tbKn (k p : Int) : Int := if ¬ (0 ≤ k ∧ k ≤ 9) then 0 else if k = 0 then 4 else if k = 3 then 3 else if k = 7 then tbTyp p else 2
/-- how many steps: the operation 0, each other one -/
def tbQ (n p q : Int) : Int := (n + 1) * (15 * (2 * n * n + 8) + 1) + p + 14 * q + n + 14
def tbF (n k p q : Int) : Int :=
  if k = 0 then 1 else if k = 1 then 2 else if k = 2 then 2 else if k = 3 then 1 else if k = 4 then p else if k = 5 then n * n + 3 * n + 2 else if k = 6 then p * (n + 3) + 2 else if k = 7 then 4 * q + 1 else if k = 8 then tbQ n p q else n + p + 1
def tbG (n k p q : Int) : Int :=
  if k = 0 then 1 else if k = 1 then 1 else if k = 2 then n else if k = 3 then 1 else if k = 4 then p else if k = 5 then n * n + 2 * n else if k = 6 then p * (n + 2) else if k = 7 then 4 * q + 1 else if k = 8 then tbQ n p q else p + 2
def tbM (n k p q d : Int) : Int × Int := if tbErr n k p q ≠ 0 then (0, tbErr n k p q) else if ¬ (0 ≤ d ∧ d < tbKn k p) then (0, 9) else (if d = 0 then tbF n k p q else tbG n k p q, 0)
theorem tb_nine {k : Int} (h : 0 ≤ k ∧ k ≤ 9) : k = 0 ∨ k = 1 ∨ k = 2 ∨ k = 3 ∨ k = 4 ∨ k = 5 ∨ k = 6 ∨ k = 7 ∨ k = 8 ∨ k = 9 := by omega
theorem mul_bd {a b A B : Int} (ha : 0 ≤ a ∧ a ≤ A) (hb : 0 ≤ b ∧ b ≤ B) : 0 ≤ a * b ∧ a * b ≤ A * B := ⟨Int.mul_nonneg ha.1 hb.1, Int.mul_le_mul ha.2 hb.2 hb.1 (by omega)⟩
theorem mul_pos1 {a b : Int} (ha : 1 ≤ a) (hb : 1 ≤ b) : 1 ≤ a * b := by have := Int.mul_pos (show 0 < a by omega) (show 0 < b by omega); omega
theorem ret_pairI {k l : IntKind} {a b c d : Int} (h : a = b) (h2 : c = d) : Ending.returned (.tuple #[.int k a, .int l c]) = .returned (.tuple #[.int k b, .int l d]) := by rw [h, h2]
theorem tbTyp_no {p : Int} (h : ¬ (0 ≤ p ∧ p ≤ 7)) : tbTyp p = 0 := by unfold tbTyp; rw [if_neg h]
theorem tbTyp_3 {p : Int} (h : p = 2 ∨ p = 3 ∨ p = 4) : tbTyp p = 3 := by unfold tbTyp; rw [if_pos (by omega), if_pos h]
theorem tbTyp_2 {p : Int} (h : 0 ≤ p ∧ p ≤ 7) (h3 : ¬ (p = 2 ∨ p = 3 ∨ p = 4)) : tbTyp p = 2 := by unfold tbTyp; rw [if_pos h, if_neg h3]
theorem free_of_blkT {w : World} {b k : Nat} {c : Array Value} {t : TypeId} (h : w.heap[b]? = some (.cells c t (0, 0))) : w.frozen? ⟨b, k, none⟩ = false := by simp [World.frozen?, h]
theorem cell_of_blkT {w : World} {b k : Nat} {c : Array Value} {t : TypeId} {fr : Nat × Nat} {v : Value} (h : w.heap[b]? = some (.cells c t fr)) (hv : c[k]? = some v) : w.cell? ⟨b, k, none⟩ = some v := by
  unfold World.cell?; rw [h]; simpa using hv
end
section
set_option maxRecDepth 100000
open Go.ChangeShapes Go.WideShapes Go.ChangeAt Go.RowKit
set_option linter.unusedVariables false
set_option linter.unusedSimpArgs false

theorem run_eql_func (fn : Fn) (first cap : Array Value) (w : World) : (binOp .eql 159 (.func fn first cap) .nilFunc).run Tryz.prog w = .ok (.bool false) w := by kernel_rfl
theorem run_eql_nilF (w : World) : (binOp .eql 159 .nilFunc .nilFunc).run Tryz.prog w = .ok (.bool true) w := by kernel_rfl
def seqZ : Obj := .cells #[.int .i64 0, .int .i64 0, .nilFunc, .nilFunc, .nilFunc] 161
/-- what find leaves: a type of 2, or 3, operations -/
def Find2 (W : World) (e : Ending) (w' : World) : Prop :=
  ∃ (lo hi : Int) (f0 f1 : Fn) (x0 x1 : Array Value), e = .returned (.tuple #[.agg #[.int .i64 lo, .int .i64 hi, .func f0 #[] x0, .func f1 #[] x1, .nilFunc], .bool true]) ∧ Below W.heap.size W w'
def Find3 (W : World) (e : Ending) (w' : World) : Prop :=
  ∃ (lo hi : Int) (f0 f1 f2 : Fn) (x0 x1 x2 : Array Value), e = .returned (.tuple #[.agg #[.int .i64 lo, .int .i64 hi, .func f0 #[] x0, .func f1 #[] x1, .func f2 #[] x2], .bool true]) ∧ Below W.heap.size W w'
set_option maxHeartbeats 1000000 in
theorem update_any (f : Nat) (w : World) :
    Calls Tryz.prog 130 #[.func (.func f) #[] #[]] w fun e w' => e = .returned (.func (.func 171) #[] #[.pointer (some ⟨w.heap.size, 0, none⟩)]) ∧ Below w.heap.size w w' := by
  have hmf : ∀ (fn : Fn) (first cap : Array Value) (w : World), (Instr.makeFunc fn first cap).run Tryz.prog w = .ok (.func fn first cap) w := fun _ _ _ _ => rfl
  go_enter Tryz.func130, Tryz.ntmps130
  go_wp2_with fail
  go_ret
  exact ⟨rfl, (Below.refl _ _).alloc (Nat.le_refl _) _⟩
/-- five cells of one block are stored -/
def put5 (w : World) (b : Nat) (v0 v1 v2 v3 v4 : Value) : World := ((((w.setCell ⟨b, 0, none⟩ v0).setCell ⟨b, 1, none⟩ v1).setCell ⟨b, 2, none⟩ v2).setCell ⟨b, 3, none⟩ v3).setCell ⟨b, 4, none⟩ v4
theorem put5_below {a w : World} {B b : Nat} (h : Below B a w) (hb : B ≤ b) (v0 v1 v2 v3 v4 : Value) : Below B a (put5 w b v0 v1 v2 v3 v4) :=
  ((((h.setCell (p := ⟨b, 0, none⟩) hb _).setCell (p := ⟨b, 1, none⟩) hb _).setCell (p := ⟨b, 2, none⟩) hb _).setCell (p := ⟨b, 3, none⟩) hb _).setCell (p := ⟨b, 4, none⟩) hb _

set_option maxHeartbeats 1000000 in
theorem find_0 (w : World) : Calls Tryz.prog 109 #[.int .i64 0] w (Find2 w) := by
  go_enter Tryz.func109, Tryz.ntmps109
  go_wp2_with (go_at_call 130; refine (update_any _ _).mono ?_; rintro e w5 ⟨rfl, hb⟩; (have hbk : w5.heap[w.heap.size]? = some seqZ := (hb.block _ (by simp)).trans (heap_alloc_new _ _)); (have k0 := cell_of_blkT (k := 0) hbk rfl); (have k1 := cell_of_blkT (k := 1) hbk rfl); (have k2 := cell_of_blkT (k := 2) hbk rfl); (have k3 := cell_of_blkT (k := 3) hbk rfl); (have k4 := cell_of_blkT (k := 4) hbk rfl); (have z0 := free_of_blkT (k := 0) hbk); (have z1 := free_of_blkT (k := 1) hbk); (have z2 := free_of_blkT (k := 2) hbk); (have z3 := free_of_blkT (k := 3) hbk); (have z4 := free_of_blkT (k := 4) hbk); (have HB := Lib.hid hb); clear hb hbk)
  have HB2 : Below w.heap.size w w5 := ((Below.refl _ _).alloc (Nat.le_refl _) _).trans (HB.out.mono (by simp))
  refine bodyPost_ret (v := .tuple #[.agg #[.int .i64 1, .int .i64 1, (.func (.func 129) #[] #[]), (.func (.func 171) #[] #[.pointer (some ⟨w.heap.size + 1, 0, none⟩)]), .nilFunc], .bool true]) (by simp [results, Tryz.results109, go_sem, k0, k1, k2, k3, k4]) rfl ⟨_, _, _, _, _, _, rfl, put5_below HB2 (Nat.le_refl _) _ _ _ _ _⟩

set_option maxHeartbeats 1000000 in
theorem find_1 (w : World) : Calls Tryz.prog 109 #[.int .i64 1] w (Find2 w) := by
  go_enter Tryz.func109, Tryz.ntmps109
  go_wp2_with (go_at_call 130; refine (update_any _ _).mono ?_; rintro e w5 ⟨rfl, hb⟩; (have hbk : w5.heap[w.heap.size]? = some seqZ := (hb.block _ (by simp)).trans (heap_alloc_new _ _)); (have k0 := cell_of_blkT (k := 0) hbk rfl); (have k1 := cell_of_blkT (k := 1) hbk rfl); (have k2 := cell_of_blkT (k := 2) hbk rfl); (have k3 := cell_of_blkT (k := 3) hbk rfl); (have k4 := cell_of_blkT (k := 4) hbk rfl); (have z0 := free_of_blkT (k := 0) hbk); (have z1 := free_of_blkT (k := 1) hbk); (have z2 := free_of_blkT (k := 2) hbk); (have z3 := free_of_blkT (k := 3) hbk); (have z4 := free_of_blkT (k := 4) hbk); (have HB := Lib.hid hb); clear hb hbk)
  have HB2 : Below w.heap.size w w5 := ((Below.refl _ _).alloc (Nat.le_refl _) _).trans (HB.out.mono (by simp))
  refine bodyPost_ret (v := .tuple #[.agg #[.int .i64 1, .int .i64 1, (.func (.func 129) #[] #[]), (.func (.func 171) #[] #[.pointer (some ⟨w.heap.size + 1, 0, none⟩)]), .nilFunc], .bool true]) (by simp [results, Tryz.results109, go_sem, k0, k1, k2, k3, k4]) rfl ⟨_, _, _, _, _, _, rfl, put5_below HB2 (Nat.le_refl _) _ _ _ _ _⟩

set_option maxHeartbeats 1000000 in
theorem find_2 (w : World) : Calls Tryz.prog 109 #[.int .i64 2] w (Find3 w) := by
  go_enter Tryz.func109, Tryz.ntmps109
  go_wp2_with fail
  refine bodyPost_ret (v := .tuple #[.agg #[.int .i64 0, .int .i64 8, (.func (.func 133) #[] #[]), (.func (.func 134) #[] #[]), (.func (.func 135) #[] #[])], .bool true]) (by simp [results, Tryz.results109, go_sem]) rfl ⟨_, _, _, _, _, _, _, _, rfl, (Below.refl _ _).alloc (Nat.le_refl _) _⟩

set_option maxHeartbeats 1000000 in
theorem find_3 (w : World) : Calls Tryz.prog 109 #[.int .i64 3] w (Find3 w) := by
  go_enter Tryz.func109, Tryz.ntmps109
  go_wp2_with fail
  refine bodyPost_ret (v := .tuple #[.agg #[.int .i64 0, .int .i64 8, (.func (.func 133) #[] #[]), (.func (.func 136) #[] #[]), (.func (.func 137) #[] #[])], .bool true]) (by simp [results, Tryz.results109, go_sem]) rfl ⟨_, _, _, _, _, _, _, _, rfl, (Below.refl _ _).alloc (Nat.le_refl _) _⟩

set_option maxHeartbeats 1000000 in
theorem find_4 (w : World) : Calls Tryz.prog 109 #[.int .i64 4] w (Find3 w) := by
  go_enter Tryz.func109, Tryz.ntmps109
  go_wp2_with fail
  refine bodyPost_ret (v := .tuple #[.agg #[.int .i64 1, .int .i64 1, (.func (.func 138) #[] #[]), (.func (.func 139) #[] #[]), (.func (.func 140) #[] #[])], .bool true]) (by simp [results, Tryz.results109, go_sem]) rfl ⟨_, _, _, _, _, _, _, _, rfl, (Below.refl _ _).alloc (Nat.le_refl _) _⟩

set_option maxHeartbeats 1000000 in
theorem find_5 (w : World) : Calls Tryz.prog 109 #[.int .i64 5] w (Find2 w) := by
  go_enter Tryz.func109, Tryz.ntmps109
  go_wp2_with (go_at_call 130; refine (update_any _ _).mono ?_; rintro e w5 ⟨rfl, hb⟩; (have hbk : w5.heap[w.heap.size]? = some seqZ := (hb.block _ (by simp)).trans (heap_alloc_new _ _)); (have k0 := cell_of_blkT (k := 0) hbk rfl); (have k1 := cell_of_blkT (k := 1) hbk rfl); (have k2 := cell_of_blkT (k := 2) hbk rfl); (have k3 := cell_of_blkT (k := 3) hbk rfl); (have k4 := cell_of_blkT (k := 4) hbk rfl); (have z0 := free_of_blkT (k := 0) hbk); (have z1 := free_of_blkT (k := 1) hbk); (have z2 := free_of_blkT (k := 2) hbk); (have z3 := free_of_blkT (k := 3) hbk); (have z4 := free_of_blkT (k := 4) hbk); (have HB := Lib.hid hb); clear hb hbk)
  have HB2 : Below w.heap.size w w5 := ((Below.refl _ _).alloc (Nat.le_refl _) _).trans (HB.out.mono (by simp))
  refine bodyPost_ret (v := .tuple #[.agg #[.int .i64 1, .int .i64 1, (.func (.func 129) #[] #[]), (.func (.func 171) #[] #[.pointer (some ⟨w.heap.size + 1, 0, none⟩)]), .nilFunc], .bool true]) (by simp [results, Tryz.results109, go_sem, k0, k1, k2, k3, k4]) rfl ⟨_, _, _, _, _, _, rfl, put5_below HB2 (Nat.le_refl _) _ _ _ _ _⟩

set_option maxHeartbeats 1000000 in
theorem find_6 (w : World) : Calls Tryz.prog 109 #[.int .i64 6] w (Find2 w) := by
  go_enter Tryz.func109, Tryz.ntmps109
  go_wp2_with fail
  refine bodyPost_ret (v := .tuple #[.agg #[.int .i64 1, .int .i64 1, (.func (.func 129) #[] #[]), (.func (.func 142) #[] #[]), .nilFunc], .bool true]) (by simp [results, Tryz.results109, go_sem]) rfl ⟨_, _, _, _, _, _, rfl, (Below.refl _ _).alloc (Nat.le_refl _) _⟩

set_option maxHeartbeats 1000000 in
theorem find_7 (w : World) : Calls Tryz.prog 109 #[.int .i64 7] w (Find2 w) := by
  go_enter Tryz.func109, Tryz.ntmps109
  go_wp2_with fail
  refine bodyPost_ret (v := .tuple #[.agg #[.int .i64 8, .int .i64 8, (.func (.func 143) #[] #[]), (.func (.func 144) #[] #[]), .nilFunc], .bool true]) (by simp [results, Tryz.results109, go_sem]) rfl ⟨_, _, _, _, _, _, rfl, (Below.refl _ _).alloc (Nat.le_refl _) _⟩

set_option maxHeartbeats 1000000 in
theorem find_none (t : Int) (w : World) (ht : ¬ (0 ≤ t ∧ t ≤ 7)) : Calls Tryz.prog 109 #[.int .i64 t] w fun e w' => e = .returned (.tuple #[.agg #[.int .i64 0, .int .i64 0, .nilFunc, .nilFunc, .nilFunc], .bool false]) ∧ Below w.heap.size w w' := by
  have h0 : ¬ t = 0 := by omega
  have h1 : ¬ t = 1 := by omega
  have h2 : ¬ t = 2 := by omega
  have h3 : ¬ t = 3 := by omega
  have h4 : ¬ t = 4 := by omega
  have h5 : ¬ t = 5 := by omega
  have h6 : ¬ t = 6 := by omega
  have h7 : ¬ t = 7 := by omega
  clear ht
  go_enter Tryz.func109, Tryz.ntmps109
  go_wp2_with fail
  refine bodyPost_ret (v := .tuple #[.agg #[.int .i64 0, .int .i64 0, .nilFunc, .nilFunc, .nilFunc], .bool false]) (by simp [results, Tryz.results109, go_sem]) rfl ⟨rfl, (Below.refl _ _).alloc (Nat.le_refl _) _⟩
theorem find2_any (t : Int) (h : 0 ≤ t ∧ t ≤ 7) (h3 : ¬ (t = 2 ∨ t = 3 ∨ t = 4)) (w : World) : Calls Tryz.prog 109 #[.int .i64 t] w (Find2 w) := by
  have : t = 0 ∨ t = 1 ∨ t = 5 ∨ t = 6 ∨ t = 7 := by omega
  rcases this with rfl | rfl | rfl | rfl | rfl
  · exact find_0 w
  · exact find_1 w
  · exact find_5 w
  · exact find_6 w
  · exact find_7 w
theorem find3_any (t : Int) (h3 : t = 2 ∨ t = 3 ∨ t = 4) (w : World) : Calls Tryz.prog 109 #[.int .i64 t] w (Find3 w) := by
  rcases h3 with rfl | rfl | rfl
  · exact find_2 w
  · exact find_3 w
  · exact find_4 w
set_option maxHeartbeats 400000 in
theorem kinds2_any (lo hi : Int) (f0 f1 : Fn) (x0 x1 : Array Value) (w : World) :
    Calls Tryz.prog 202 #[.agg #[.int .i64 lo, .int .i64 hi, .func f0 #[] x0, .func f1 #[] x1, .nilFunc]] w fun e w' => e = .returned (.int .i64 2) ∧ Below w.heap.size w w' := by
  have qF := run_eql_func
  have qN := run_eql_nilF
  go_enter Tryz.func202, Tryz.ntmps202
  go_wp2_with fail
  go_ret
  exact ⟨rfl, (Below.refl _ _).alloc (Nat.le_refl _) _⟩
set_option maxHeartbeats 400000 in
theorem kinds3_any (lo hi : Int) (f0 f1 f2 : Fn) (x0 x1 x2 : Array Value) (w : World) :
    Calls Tryz.prog 202 #[.agg #[.int .i64 lo, .int .i64 hi, .func f0 #[] x0, .func f1 #[] x1, .func f2 #[] x2]] w fun e w' => e = .returned (.int .i64 3) ∧ Below w.heap.size w w' := by
  have qF := run_eql_func
  have qN := run_eql_nilF
  go_enter Tryz.func202, Tryz.ntmps202
  go_wp2_with fail
  go_ret
  exact ⟨rfl, (Below.refl _ _).alloc (Nat.le_refl _) _⟩
set_option maxHeartbeats 400000 in
theorem seqKinds_any (t : Int) (w : World) :
    Calls Tryz.prog 195 #[.int .i64 t] w fun e w' => e = .returned (.int .i64 (tbTyp t)) ∧ Below w.heap.size w w' := by
  by_cases h : 0 ≤ t ∧ t ≤ 7
  · by_cases h3 : t = 2 ∨ t = 3 ∨ t = 4
    · rw [tbTyp_3 h3]
      have HF := Lib.hid (fun w => find3_any t h3 w)
      unfold Find3 at HF
      clear h h3
      go_enter Tryz.func195, Tryz.ntmps195
      go_wp2_with (first
        | (go_at_call 109; refine (HF.out _).mono ?_; rintro e w5 ⟨lo, hi, f0, f1, f2, x0, x1, x2, rfl, hb⟩; (have HB := Lib.hid hb); clear hb)
        | (go_at_call 202; refine (kinds3_any lo hi _ _ _ _ _ _ _).mono ?_; rintro e w6 ⟨rfl, hb⟩; (have HB6 := Lib.hid hb); clear hb))
      go_ret
      exact ⟨rfl, (HB.out.alloc HB.out.size _).trans (HB6.out.mono (by have := HB.out.size; simp; omega))⟩
    · rw [tbTyp_2 h h3]
      have HF := Lib.hid (fun w => find2_any t h h3 w)
      unfold Find2 at HF
      clear h h3
      go_enter Tryz.func195, Tryz.ntmps195
      go_wp2_with (first
        | (go_at_call 109; refine (HF.out _).mono ?_; rintro e w5 ⟨lo, hi, f0, f1, x0, x1, rfl, hb⟩; (have HB := Lib.hid hb); clear hb)
        | (go_at_call 202; refine (kinds2_any lo hi _ _ _ _ _).mono ?_; rintro e w6 ⟨rfl, hb⟩; (have HB6 := Lib.hid hb); clear hb))
      go_ret
      exact ⟨rfl, (HB.out.alloc HB.out.size _).trans (HB6.out.mono (by have := HB.out.size; simp; omega))⟩
  · rw [tbTyp_no h]
    have HF := Lib.hid (fun w => find_none t w h)
    clear h
    go_enter Tryz.func195, Tryz.ntmps195
    go_wp2_with (go_at_call 109; refine (HF.out _).mono ?_; rintro e w5 ⟨rfl, hb⟩; (have HB := Lib.hid hb); clear hb)
    go_ret
    exact ⟨rfl, HB.out.alloc HB.out.size _⟩
end
section
set_option maxRecDepth 100000
open Go.ChangeShapes Go.WideShapes Go.ChangeAt Go.RowKit
set_option linter.unusedVariables false
set_option linter.unusedSimpArgs false

theorem ret_two {a b c d : Int} (h : a = b) (h2 : c = d) : Ending.returned (.tuple #[.int .i64 a, .int .i64 c]) = .returned (.tuple #[.int .i64 b, .int .i64 d]) := by rw [h, h2]

set_option maxHeartbeats 400000 in
theorem consSize_ok (n : Int) (W : World) : Calls Tryz.prog 223 #[.agg #[], .int .i64 n] W fun e w' => e = .returned (.tuple #[.int .i64 1, .int .i64 0]) ∧ Below W.heap.size W w' := by
  go_enter Tryz.func223, Tryz.ntmps223
  go_wp2_with fail
  go_ret2
  exact ⟨rfl, (Below.refl _ _).alloc (Nat.le_refl _) _⟩

set_option maxHeartbeats 400000 in
theorem tallySize_ok (n : Int) (W : World) : Calls Tryz.prog 225 #[.agg #[], .int .i64 n] W fun e w' => e = .returned (.tuple #[.int .i64 n, .int .i64 0]) ∧ Below W.heap.size W w' := by
  go_enter Tryz.func225, Tryz.ntmps225
  go_wp2_with fail
  go_ret2
  exact ⟨rfl, (Below.refl _ _).alloc (Nat.le_refl _) _⟩

set_option maxHeartbeats 400000 in
theorem adderSize_ok (n : Int) (W : World) : Calls Tryz.prog 227 #[.agg #[], .int .i64 n] W fun e w' => e = .returned (.tuple #[.int .i64 1, .int .i64 0]) ∧ Below W.heap.size W w' := by
  go_enter Tryz.func227, Tryz.ntmps227
  go_wp2_with fail
  go_ret2
  exact ⟨rfl, (Below.refl _ _).alloc (Nat.le_refl _) _⟩

set_option maxHeartbeats 400000 in
theorem cellsSize_low (n p : Int) (h : p < 1) (W : World) : Calls Tryz.prog 221 #[.agg #[.int .i64 p], .int .i64 n] W fun e w' => e = .returned (.tuple #[.int .i64 0, .int .i64 10]) ∧ Below W.heap.size W w' := by
  go_enter Tryz.func221, Tryz.ntmps221
  go_wp2_with fail
  go_ret2
  exact ⟨rfl, (Below.refl _ _).alloc (Nat.le_refl _) _⟩

set_option maxHeartbeats 400000 in
theorem cellsSize_high (n p : Int) (h : 64 < p) (W : World) : Calls Tryz.prog 221 #[.agg #[.int .i64 p], .int .i64 n] W fun e w' => e = .returned (.tuple #[.int .i64 0, .int .i64 10]) ∧ Below W.heap.size W w' := by
  have h1 : ¬ p < 1 := by omega
  go_enter Tryz.func221, Tryz.ntmps221
  go_wp2_with fail
  go_ret2
  exact ⟨rfl, (Below.refl _ _).alloc (Nat.le_refl _) _⟩

set_option maxHeartbeats 400000 in
theorem maxSize_low (n p : Int) (h : p < 1) (W : World) : Calls Tryz.prog 229 #[.agg #[.int .i64 p], .int .i64 n] W fun e w' => e = .returned (.tuple #[.int .i64 0, .int .i64 10]) ∧ Below W.heap.size W w' := by
  go_enter Tryz.func229, Tryz.ntmps229
  go_wp2_with fail
  go_ret2
  exact ⟨rfl, (Below.refl _ _).alloc (Nat.le_refl _) _⟩

set_option maxHeartbeats 400000 in
theorem maxSize_high (n p : Int) (h : 12 < p) (W : World) : Calls Tryz.prog 229 #[.agg #[.int .i64 p], .int .i64 n] W fun e w' => e = .returned (.tuple #[.int .i64 0, .int .i64 10]) ∧ Below W.heap.size W w' := by
  have h1 : ¬ p < 1 := by omega
  go_enter Tryz.func229, Tryz.ntmps229
  go_wp2_with fail
  go_ret2
  exact ⟨rfl, (Below.refl _ _).alloc (Nat.le_refl _) _⟩

set_option maxHeartbeats 400000 in
theorem snapSize_low (n p : Int) (h : p < 1) (W : World) : Calls Tryz.prog 231 #[.agg #[.int .i64 p], .int .i64 n] W fun e w' => e = .returned (.tuple #[.int .i64 0, .int .i64 10]) ∧ Below W.heap.size W w' := by
  go_enter Tryz.func231, Tryz.ntmps231
  go_wp2_with fail
  go_ret2
  exact ⟨rfl, (Below.refl _ _).alloc (Nat.le_refl _) _⟩

set_option maxHeartbeats 400000 in
theorem snapSize_high (n p : Int) (h : 64 < p) (W : World) : Calls Tryz.prog 231 #[.agg #[.int .i64 p], .int .i64 n] W fun e w' => e = .returned (.tuple #[.int .i64 0, .int .i64 10]) ∧ Below W.heap.size W w' := by
  have h1 : ¬ p < 1 := by omega
  go_enter Tryz.func231, Tryz.ntmps231
  go_wp2_with fail
  go_ret2
  exact ⟨rfl, (Below.refl _ _).alloc (Nat.le_refl _) _⟩

set_option maxHeartbeats 400000 in
theorem pinSize_low (n p : Int) (h : p < 1) (W : World) : Calls Tryz.prog 246 #[.agg #[.int .i64 p], .int .i64 n] W fun e w' => e = .returned (.tuple #[.int .i64 0, .int .i64 10]) ∧ Below W.heap.size W w' := by
  go_enter Tryz.func246, Tryz.ntmps246
  go_wp2_with fail
  go_ret2
  exact ⟨rfl, (Below.refl _ _).alloc (Nat.le_refl _) _⟩

set_option maxHeartbeats 400000 in
theorem pinSize_high (n p : Int) (h : 8 < p) (W : World) : Calls Tryz.prog 246 #[.agg #[.int .i64 p], .int .i64 n] W fun e w' => e = .returned (.tuple #[.int .i64 0, .int .i64 10]) ∧ Below W.heap.size W w' := by
  have h1 : ¬ p < 1 := by omega
  go_enter Tryz.func246, Tryz.ntmps246
  go_wp2_with fail
  go_ret2
  exact ⟨rfl, (Below.refl _ _).alloc (Nat.le_refl _) _⟩

set_option maxHeartbeats 400000 in
theorem cellsSize_ok (n p : Int) (h : 1 ≤ p ∧ p ≤ 64) (W : World) : Calls Tryz.prog 221 #[.agg #[.int .i64 p], .int .i64 n] W fun e w' => e = .returned (.tuple #[.int .i64 p, .int .i64 0]) ∧ Below W.heap.size W w' := by
  have h1 : ¬ p < 1 := by omega
  have h2 : ¬ 64 < p := by omega
  go_enter Tryz.func221, Tryz.ntmps221
  go_wp2_with fail
  go_ret2
  exact ⟨rfl, (Below.refl _ _).alloc (Nat.le_refl _) _⟩

set_option maxHeartbeats 400000 in
theorem maxSize_1 (n : Int) (W : World) : Calls Tryz.prog 229 #[.agg #[.int .i64 1], .int .i64 n] W fun e w' => e = .returned (.tuple #[.int .i64 1, .int .i64 0]) ∧ Below W.heap.size W w' := by
  go_enter Tryz.func229, Tryz.ntmps229
  go_wp2_with fail
  go_ret2
  exact ⟨rfl, (Below.refl _ _).alloc (Nat.le_refl _) _⟩

set_option maxHeartbeats 400000 in
theorem maxSize_2 (n : Int) (W : World) : Calls Tryz.prog 229 #[.agg #[.int .i64 2], .int .i64 n] W fun e w' => e = .returned (.tuple #[.int .i64 3, .int .i64 0]) ∧ Below W.heap.size W w' := by
  go_enter Tryz.func229, Tryz.ntmps229
  go_wp2_with fail
  go_ret2
  exact ⟨rfl, (Below.refl _ _).alloc (Nat.le_refl _) _⟩

set_option maxHeartbeats 400000 in
theorem maxSize_3 (n : Int) (W : World) : Calls Tryz.prog 229 #[.agg #[.int .i64 3], .int .i64 n] W fun e w' => e = .returned (.tuple #[.int .i64 7, .int .i64 0]) ∧ Below W.heap.size W w' := by
  go_enter Tryz.func229, Tryz.ntmps229
  go_wp2_with fail
  go_ret2
  exact ⟨rfl, (Below.refl _ _).alloc (Nat.le_refl _) _⟩

set_option maxHeartbeats 400000 in
theorem maxSize_4 (n : Int) (W : World) : Calls Tryz.prog 229 #[.agg #[.int .i64 4], .int .i64 n] W fun e w' => e = .returned (.tuple #[.int .i64 15, .int .i64 0]) ∧ Below W.heap.size W w' := by
  go_enter Tryz.func229, Tryz.ntmps229
  go_wp2_with fail
  go_ret2
  exact ⟨rfl, (Below.refl _ _).alloc (Nat.le_refl _) _⟩

set_option maxHeartbeats 400000 in
theorem maxSize_5 (n : Int) (W : World) : Calls Tryz.prog 229 #[.agg #[.int .i64 5], .int .i64 n] W fun e w' => e = .returned (.tuple #[.int .i64 31, .int .i64 0]) ∧ Below W.heap.size W w' := by
  go_enter Tryz.func229, Tryz.ntmps229
  go_wp2_with fail
  go_ret2
  exact ⟨rfl, (Below.refl _ _).alloc (Nat.le_refl _) _⟩

set_option maxHeartbeats 400000 in
theorem maxSize_6 (n : Int) (W : World) : Calls Tryz.prog 229 #[.agg #[.int .i64 6], .int .i64 n] W fun e w' => e = .returned (.tuple #[.int .i64 63, .int .i64 0]) ∧ Below W.heap.size W w' := by
  go_enter Tryz.func229, Tryz.ntmps229
  go_wp2_with fail
  go_ret2
  exact ⟨rfl, (Below.refl _ _).alloc (Nat.le_refl _) _⟩

set_option maxHeartbeats 400000 in
theorem maxSize_7 (n : Int) (W : World) : Calls Tryz.prog 229 #[.agg #[.int .i64 7], .int .i64 n] W fun e w' => e = .returned (.tuple #[.int .i64 127, .int .i64 0]) ∧ Below W.heap.size W w' := by
  go_enter Tryz.func229, Tryz.ntmps229
  go_wp2_with fail
  go_ret2
  exact ⟨rfl, (Below.refl _ _).alloc (Nat.le_refl _) _⟩

set_option maxHeartbeats 400000 in
theorem maxSize_8 (n : Int) (W : World) : Calls Tryz.prog 229 #[.agg #[.int .i64 8], .int .i64 n] W fun e w' => e = .returned (.tuple #[.int .i64 255, .int .i64 0]) ∧ Below W.heap.size W w' := by
  go_enter Tryz.func229, Tryz.ntmps229
  go_wp2_with fail
  go_ret2
  exact ⟨rfl, (Below.refl _ _).alloc (Nat.le_refl _) _⟩

set_option maxHeartbeats 400000 in
theorem maxSize_9 (n : Int) (W : World) : Calls Tryz.prog 229 #[.agg #[.int .i64 9], .int .i64 n] W fun e w' => e = .returned (.tuple #[.int .i64 511, .int .i64 0]) ∧ Below W.heap.size W w' := by
  go_enter Tryz.func229, Tryz.ntmps229
  go_wp2_with fail
  go_ret2
  exact ⟨rfl, (Below.refl _ _).alloc (Nat.le_refl _) _⟩

set_option maxHeartbeats 400000 in
theorem maxSize_10 (n : Int) (W : World) : Calls Tryz.prog 229 #[.agg #[.int .i64 10], .int .i64 n] W fun e w' => e = .returned (.tuple #[.int .i64 1023, .int .i64 0]) ∧ Below W.heap.size W w' := by
  go_enter Tryz.func229, Tryz.ntmps229
  go_wp2_with fail
  go_ret2
  exact ⟨rfl, (Below.refl _ _).alloc (Nat.le_refl _) _⟩

set_option maxHeartbeats 400000 in
theorem maxSize_11 (n : Int) (W : World) : Calls Tryz.prog 229 #[.agg #[.int .i64 11], .int .i64 n] W fun e w' => e = .returned (.tuple #[.int .i64 2047, .int .i64 0]) ∧ Below W.heap.size W w' := by
  go_enter Tryz.func229, Tryz.ntmps229
  go_wp2_with fail
  go_ret2
  exact ⟨rfl, (Below.refl _ _).alloc (Nat.le_refl _) _⟩

set_option maxHeartbeats 400000 in
theorem maxSize_12 (n : Int) (W : World) : Calls Tryz.prog 229 #[.agg #[.int .i64 12], .int .i64 n] W fun e w' => e = .returned (.tuple #[.int .i64 4095, .int .i64 0]) ∧ Below W.heap.size W w' := by
  go_enter Tryz.func229, Tryz.ntmps229
  go_wp2_with fail
  go_ret2
  exact ⟨rfl, (Below.refl _ _).alloc (Nat.le_refl _) _⟩

theorem snapRec (n r : Int) (h : n + 1 = r) (hb : 0 ≤ n ∧ n ≤ 16) (W : World) : Calls Tryz.prog 232 #[.int .i64 n] W fun e w' => e = .returned (.int .i64 r) ∧ W = w' := by
  go_enter Tryz.func232, Tryz.ntmps232
  go_wp2
  go_ret
  exact ⟨ret_int (by omega), rfl⟩

theorem multiRec (p r : Int) (h : p + 1 = r) (hb : 0 ≤ p ∧ p ≤ 16) (W : World) : Calls Tryz.prog 235 #[.int .i64 p] W fun e w' => e = .returned (.int .i64 r) ∧ W = w' := by
  go_enter Tryz.func235, Tryz.ntmps235
  go_wp2
  go_ret
  exact ⟨ret_int (by omega), rfl⟩

theorem pinBufs (n r : Int) (h : n + 1 = r) (hb : 0 ≤ n ∧ n ≤ 16) (W : World) : Calls Tryz.prog 247 #[.int .i64 n] W fun e w' => e = .returned (.int .i64 r) ∧ W = w' := by
  go_enter Tryz.func247, Tryz.ntmps247
  go_wp2
  go_ret
  exact ⟨ret_int (by omega), rfl⟩

set_option maxHeartbeats 1000000 in
theorem snapSize_ok (n p a r b : Int) (hn : 1 ≤ n ∧ n ≤ 16) (hp : 1 ≤ p ∧ p ≤ 64) (ha : n * p = a) (ha2 : 0 ≤ a ∧ a ≤ 1024) (hr : n + 1 = r) (hb : a * r = b) (hb2 : 0 ≤ b ∧ b ≤ 17408) (W : World) : Calls Tryz.prog 231 #[.agg #[.int .i64 p], .int .i64 n] W fun e w' => e = .returned (.tuple #[.int .i64 (n + b), .int .i64 0]) ∧ Below W.heap.size W w' := by
  have h2 : ¬ p < 1 := by omega
  have h3 : ¬ 64 < p := by omega
  have h2b : decide (p < 1) = false := decide_eq_false h2
  have h3b : decide (64 < p) = false := decide_eq_false h3
  have HR : Hid (∀ W, Calls Tryz.prog 232 #[.int .i64 n] W fun e w' => e = .returned (.int .i64 r) ∧ W = w') := Lib.hid (fun W => snapRec n r hr (by omega) W)
  have hr9 : 0 ≤ r ∧ r ≤ 17 := by omega
  clear hr
  go_enter Tryz.func231, Tryz.ntmps231
  go_wp2_with fail
  go_quiet ((go_at_call 232; exact call_keeps ⟨_, rfl⟩ (HR.out _)))
  go_wp2_with fail
  go_ret2
  exact ⟨ret_two (by omega) rfl, below_drewN ((Below.refl _ _).alloc (Nat.le_refl _) _) _⟩

set_option maxHeartbeats 400000 in
theorem multiSize_bad0 (n p q : Int) (h : p < 1) (W : World) : Calls Tryz.prog 234 #[.agg #[.int .i64 p, .int .i64 q], .int .i64 n] W fun e w' => e = .returned (.tuple #[.int .i64 0, .int .i64 10]) ∧ Below W.heap.size W w' := by
  go_enter Tryz.func234, Tryz.ntmps234
  go_wp2_with fail
  go_ret2
  exact ⟨rfl, (Below.refl _ _).alloc (Nat.le_refl _) _⟩

set_option maxHeartbeats 400000 in
theorem multiSize_bad1 (n p q : Int) (h : 16 < p) (W : World) : Calls Tryz.prog 234 #[.agg #[.int .i64 p, .int .i64 q], .int .i64 n] W fun e w' => e = .returned (.tuple #[.int .i64 0, .int .i64 10]) ∧ Below W.heap.size W w' := by
  have g0 : ¬ p < 1 := by omega
  go_enter Tryz.func234, Tryz.ntmps234
  go_wp2_with fail
  go_ret2
  exact ⟨rfl, (Below.refl _ _).alloc (Nat.le_refl _) _⟩

set_option maxHeartbeats 400000 in
theorem multiSize_bad2 (n p q : Int) (h : q < 1) (hp : 1 ≤ p ∧ p ≤ 16) (W : World) : Calls Tryz.prog 234 #[.agg #[.int .i64 p, .int .i64 q], .int .i64 n] W fun e w' => e = .returned (.tuple #[.int .i64 0, .int .i64 10]) ∧ Below W.heap.size W w' := by
  have g0 : ¬ p < 1 := by omega
  have g1 : ¬ 16 < p := by omega
  clear hp
  go_enter Tryz.func234, Tryz.ntmps234
  go_wp2_with fail
  go_ret2
  exact ⟨rfl, (Below.refl _ _).alloc (Nat.le_refl _) _⟩

set_option maxHeartbeats 400000 in
theorem multiSize_bad3 (n p q : Int) (h : 64 < q) (hp : 1 ≤ p ∧ p ≤ 16) (W : World) : Calls Tryz.prog 234 #[.agg #[.int .i64 p, .int .i64 q], .int .i64 n] W fun e w' => e = .returned (.tuple #[.int .i64 0, .int .i64 10]) ∧ Below W.heap.size W w' := by
  have g0 : ¬ p < 1 := by omega
  have g1 : ¬ 16 < p := by omega
  have g2 : ¬ q < 1 := by omega
  clear hp
  go_enter Tryz.func234, Tryz.ntmps234
  go_wp2_with fail
  go_ret2
  exact ⟨rfl, (Below.refl _ _).alloc (Nat.le_refl _) _⟩

set_option maxHeartbeats 1000000 in
theorem multiSize_ok (n p q a r b : Int) (hn : 1 ≤ n ∧ n ≤ 16) (hp : 1 ≤ p ∧ p ≤ 16) (hq : 1 ≤ q ∧ q ≤ 64) (ha : n * q = a) (ha2 : 0 ≤ a ∧ a ≤ 1024) (hr : p + 1 = r) (hb : a * r = b) (hb2 : 0 ≤ b ∧ b ≤ 17408) (W : World) : Calls Tryz.prog 234 #[.agg #[.int .i64 p, .int .i64 q], .int .i64 n] W fun e w' => e = .returned (.tuple #[.int .i64 (p + b), .int .i64 0]) ∧ Below W.heap.size W w' := by
  have h2 : ¬ p < 1 := by omega
  have h3 : ¬ 16 < p := by omega
  have h4 : ¬ q < 1 := by omega
  have h5 : ¬ 64 < q := by omega
  have h2b : decide (p < 1) = false := decide_eq_false h2
  have h3b : decide (16 < p) = false := decide_eq_false h3
  have h4b : decide (q < 1) = false := decide_eq_false h4
  have h5b : decide (64 < q) = false := decide_eq_false h5
  have HR : Hid (∀ W, Calls Tryz.prog 235 #[.int .i64 p] W fun e w' => e = .returned (.int .i64 r) ∧ W = w') := Lib.hid (fun W => multiRec p r hr (by omega) W)
  have hr9 : 0 ≤ r ∧ r ≤ 17 := by omega
  clear hr
  go_enter Tryz.func234, Tryz.ntmps234
  go_wp2_with fail
  go_quiet ((go_at_call 235; exact call_keeps ⟨_, rfl⟩ (HR.out _)))
  go_wp2_with fail
  go_ret2
  exact ⟨ret_two (by omega) rfl, below_drewN ((Below.refl _ _).alloc (Nat.le_refl _) _) _⟩

set_option maxHeartbeats 1000000 in
theorem pinSize_ok (n p r s b : Int) (hn : 1 ≤ n ∧ n ≤ 16) (hp : 1 ≤ p ∧ p ≤ 8) (hr : n + 1 = r) (hs : p + 1 = s) (hb : r * s = b) (hb2 : 0 ≤ b ∧ b ≤ 153) (W : World) : Calls Tryz.prog 246 #[.agg #[.int .i64 p], .int .i64 n] W fun e w' => e = .returned (.tuple #[.int .i64 (1 + b), .int .i64 0]) ∧ Below W.heap.size W w' := by
  have h2 : ¬ p < 1 := by omega
  have h3 : ¬ 8 < p := by omega
  have h2b : decide (p < 1) = false := decide_eq_false h2
  have h3b : decide (8 < p) = false := decide_eq_false h3
  have HR : Hid (∀ W, Calls Tryz.prog 247 #[.int .i64 n] W fun e w' => e = .returned (.int .i64 r) ∧ W = w') := Lib.hid (fun W => pinBufs n r hr (by omega) W)
  have hs1 : 1 + p = s := by omega
  have hr9 : 0 ≤ r ∧ r ≤ 17 := by omega
  have hs9 : 0 ≤ s ∧ s ≤ 9 := by omega
  clear hr hs
  go_enter Tryz.func246, Tryz.ntmps246
  go_wp2_with fail
  go_quiet ((go_at_call 247; exact call_keeps ⟨_, rfl⟩ (HR.out _)))
  go_wp2_with fail
  go_ret2
  exact ⟨ret_two (by omega) rfl, below_drewN ((Below.refl _ _).alloc (Nat.le_refl _) _) _⟩

set_option maxHeartbeats 1000000 in
theorem univSize_bad0 (n p q : Int) (h : ¬ (0 ≤ p ∧ p ≤ 7)) (W : World) : Calls Tryz.prog 237 #[.agg #[.int .i64 p, .int .i64 q], .int .i64 n] W fun e w' => e = .returned (.tuple #[.int .i64 0, .int .i64 10]) ∧ Below W.heap.size W w' := by
  have HK : Hid (∀ w, Calls Tryz.prog 195 #[.int .i64 p] w fun e w' => e = .returned (.int .i64 0) ∧ Below w.heap.size w w') := Lib.hid (fun w => by have := seqKinds_any p w; rw [tbTyp_no h] at this; exact this)
  clear h
  go_enter Tryz.func237, Tryz.ntmps237
  go_wp2_with (go_at_call 195; refine (HK.out _).mono ?_; rintro e w5 ⟨rfl, hb⟩; (have hbk : w5.heap[W.heap.size]? = some (Obj.cells #[.int .i64 p, .int .i64 q] 230) := (hb.block _ (by simp)).trans (heap_alloc_new _ _)); (have k0 := cell_of_blkT (k := 0) hbk rfl); (have k1 := cell_of_blkT (k := 1) hbk rfl); (have HB := Lib.hid hb); clear hb hbk)
  go_ret2
  exact ⟨rfl, ((Below.refl _ _).alloc (Nat.le_refl _) _).trans (HB.out.mono (by simp))⟩

set_option maxHeartbeats 1000000 in
theorem univSize_bad1 (n p q : Int) (h : q < 1) (hp : 0 ≤ p ∧ p ≤ 7) (W : World) : Calls Tryz.prog 237 #[.agg #[.int .i64 p, .int .i64 q], .int .i64 n] W fun e w' => e = .returned (.tuple #[.int .i64 0, .int .i64 10]) ∧ Below W.heap.size W w' := by
  obtain ⟨t, ht, ht2⟩ : ∃ t, tbTyp p = t ∧ 2 ≤ t := by
    unfold tbTyp; rw [if_pos hp]; split
    · exact ⟨_, rfl, by omega⟩
    · exact ⟨_, rfl, by omega⟩
  have HK : Hid (∀ w, Calls Tryz.prog 195 #[.int .i64 p] w fun e w' => e = .returned (.int .i64 t) ∧ Below w.heap.size w w') := Lib.hid (fun w => by have := seqKinds_any p w; rw [ht] at this; exact this)
  have ht3 : ¬ t = 0 := by omega
  clear ht
  clear hp
  go_enter Tryz.func237, Tryz.ntmps237
  go_wp2_with (go_at_call 195; refine (HK.out _).mono ?_; rintro e w5 ⟨rfl, hb⟩; (have hbk : w5.heap[W.heap.size]? = some (Obj.cells #[.int .i64 p, .int .i64 q] 230) := (hb.block _ (by simp)).trans (heap_alloc_new _ _)); (have k0 := cell_of_blkT (k := 0) hbk rfl); (have k1 := cell_of_blkT (k := 1) hbk rfl); (have HB := Lib.hid hb); clear hb hbk)
  go_ret2
  exact ⟨rfl, ((Below.refl _ _).alloc (Nat.le_refl _) _).trans (HB.out.mono (by simp))⟩

set_option maxHeartbeats 1000000 in
theorem univSize_bad2 (n p q : Int) (h : 256 < q) (hp : 0 ≤ p ∧ p ≤ 7) (W : World) : Calls Tryz.prog 237 #[.agg #[.int .i64 p, .int .i64 q], .int .i64 n] W fun e w' => e = .returned (.tuple #[.int .i64 0, .int .i64 10]) ∧ Below W.heap.size W w' := by
  have g0 : ¬ q < 1 := by omega
  obtain ⟨t, ht, ht2⟩ : ∃ t, tbTyp p = t ∧ 2 ≤ t := by
    unfold tbTyp; rw [if_pos hp]; split
    · exact ⟨_, rfl, by omega⟩
    · exact ⟨_, rfl, by omega⟩
  have HK : Hid (∀ w, Calls Tryz.prog 195 #[.int .i64 p] w fun e w' => e = .returned (.int .i64 t) ∧ Below w.heap.size w w') := Lib.hid (fun w => by have := seqKinds_any p w; rw [ht] at this; exact this)
  have ht3 : ¬ t = 0 := by omega
  clear ht
  clear hp
  go_enter Tryz.func237, Tryz.ntmps237
  go_wp2_with (go_at_call 195; refine (HK.out _).mono ?_; rintro e w5 ⟨rfl, hb⟩; (have hbk : w5.heap[W.heap.size]? = some (Obj.cells #[.int .i64 p, .int .i64 q] 230) := (hb.block _ (by simp)).trans (heap_alloc_new _ _)); (have k0 := cell_of_blkT (k := 0) hbk rfl); (have k1 := cell_of_blkT (k := 1) hbk rfl); (have HB := Lib.hid hb); clear hb hbk)
  go_ret2
  exact ⟨rfl, ((Below.refl _ _).alloc (Nat.le_refl _) _).trans (HB.out.mono (by simp))⟩

set_option maxHeartbeats 1000000 in
theorem univSize_ok (n p q : Int) (hn : 1 ≤ n ∧ n ≤ 16) (hp : 0 ≤ p ∧ p ≤ 7) (hq : 1 ≤ q ∧ q ≤ 256) (W : World) : Calls Tryz.prog 237 #[.agg #[.int .i64 p, .int .i64 q], .int .i64 n] W fun e w' => e = .returned (.tuple #[.int .i64 (n + q), .int .i64 0]) ∧ Below W.heap.size W w' := by
  have g0 : decide (q < 1) = false := decide_eq_false (by omega)
  have g1 : decide (256 < q) = false := decide_eq_false (by omega)
  obtain ⟨t, ht, ht2⟩ : ∃ t, tbTyp p = t ∧ 2 ≤ t := by
    unfold tbTyp; rw [if_pos hp]; split
    · exact ⟨_, rfl, by omega⟩
    · exact ⟨_, rfl, by omega⟩
  have HK : Hid (∀ w, Calls Tryz.prog 195 #[.int .i64 p] w fun e w' => e = .returned (.int .i64 t) ∧ Below w.heap.size w w') := Lib.hid (fun w => by have := seqKinds_any p w; rw [ht] at this; exact this)
  have ht3 : ¬ t = 0 := by omega
  clear ht
  have g2 : (t == 0) = false := beq_false_of_ne ht3
  clear hp
  go_enter Tryz.func237, Tryz.ntmps237
  go_wp2_with (go_at_call 195; refine (HK.out _).mono ?_; rintro e w5 ⟨rfl, hb⟩; (have hbk : w5.heap[W.heap.size]? = some (Obj.cells #[.int .i64 p, .int .i64 q] 230) := (hb.block _ (by simp)).trans (heap_alloc_new _ _)); (have k0 := cell_of_blkT (k := 0) hbk rfl); (have k1 := cell_of_blkT (k := 1) hbk rfl); (have HB := Lib.hid hb); clear hb hbk)
  go_ret2
  exact ⟨rfl, ((Below.refl _ _).alloc (Nat.le_refl _) _).trans (HB.out.mono (by simp))⟩

set_option maxHeartbeats 400000 in
theorem exists_any (n k : Int) (W : World) : Calls Tryz.prog 242 #[.int .i64 n, .int .i64 k] W fun e w' => e = .returned (.bool (decide ((1 ≤ n ∧ n ≤ 16) ∧ 1 ≤ k ∧ k ≤ 32))) ∧ W = w' := by
  by_cases h1 : 1 ≤ n
  · by_cases h2 : n ≤ 16
    · by_cases h3 : 1 ≤ k
      · by_cases h4 : k ≤ 32
        · go_enter Tryz.func242, Tryz.ntmps242
          go_wp2_with fail
          go_ret
          exact ⟨ret_bool (by simp [h1, h2, h3, h4]), rfl⟩
        · go_enter Tryz.func242, Tryz.ntmps242
          go_wp2_with fail
          go_ret
          exact ⟨ret_bool (by simp; omega), rfl⟩
      · go_enter Tryz.func242, Tryz.ntmps242
        go_wp2_with fail
        go_ret
        exact ⟨ret_bool (by simp; omega), rfl⟩
    · go_enter Tryz.func242, Tryz.ntmps242
      go_wp2_with fail
      go_ret
      exact ⟨ret_bool (by simp; omega), rfl⟩
  · go_enter Tryz.func242, Tryz.ntmps242
    go_wp2_with fail
    go_ret
    exact ⟨ret_bool (by simp; omega), rfl⟩
theorem nodes_any (n k a : Int) (ha : n * k = a) (ha2 : 0 ≤ a ∧ a ≤ 512) (W : World) : Calls Tryz.prog 244 #[.int .i64 n, .int .i64 k] W fun e w' => e = .returned (.int .i64 (1 + a)) ∧ W = w' := by
  go_enter Tryz.func244, Tryz.ntmps244
  go_wp2_with fail
  go_ret
  exact ⟨rfl, rfl⟩
theorem begin_node (n i : Int) (hn : 0 ≤ n ∧ n ≤ 16) (hi : 0 ≤ i ∧ i ≤ 600) (W : World) : Calls Tryz.prog 243 #[.int .i64 n, .int .i64 i] W fun e w' => e = .returned (.int .i64 (2 + n + 4 * (i - 1))) ∧ W = w' := by
  go_enter Tryz.func243, Tryz.ntmps243
  go_wp2_with fail
  go_ret
  exact ⟨rfl, rfl⟩
set_option maxHeartbeats 400000 in
theorem nodeSize_ok (n k a : Int) (hn : 1 ≤ n ∧ n ≤ 16) (hk : 1 ≤ k ∧ k ≤ 32) (ha : n * k = a) (ha2 : 0 ≤ a ∧ a ≤ 512) (W : World) : Calls Tryz.prog 241 #[.int .i64 n, .int .i64 k] W fun e w' => e = .returned (.int .i64 (6 + n + 4 * a)) ∧ W = w' := by
  have HE : Hid (∀ W, Calls Tryz.prog 242 #[.int .i64 n, .int .i64 k] W fun e w' => e = .returned (.bool true) ∧ W = w') := Lib.hid (fun W => by have := exists_any n k W; rw [decide_eq_true (⟨hn, hk⟩ : (1 ≤ n ∧ n ≤ 16) ∧ 1 ≤ k ∧ k ≤ 32)] at this; exact this)
  have HN := Lib.hid (fun W => nodes_any n k a ha ha2 W)
  have HBg := Lib.hid (fun W => begin_node n (1 + a + 1) (by omega) (by omega) W)
  clear ha
  go_enter Tryz.func241, Tryz.ntmps241
  go_wp2_with (first
    | (go_at_call 242; refine (HE.out _).mono ?_; rintro e w5 ⟨rfl, rfl⟩)
    | (go_at_call 244; refine (HN.out _).mono ?_; rintro e w5 ⟨rfl, rfl⟩)
    | (go_at_call 243; refine (HBg.out _).mono ?_; rintro e w5 ⟨rfl, rfl⟩))
  go_ret
  exact ⟨ret_int (by omega), rfl⟩
set_option maxHeartbeats 400000 in
theorem nodeSize_no (n k : Int) (h : ¬ ((1 ≤ n ∧ n ≤ 16) ∧ 1 ≤ k ∧ k ≤ 32)) (W : World) : Calls Tryz.prog 241 #[.int .i64 n, .int .i64 k] W fun e w' => e = .returned (.int .i64 0) ∧ W = w' := by
  have HE : Hid (∀ W, Calls Tryz.prog 242 #[.int .i64 n, .int .i64 k] W fun e w' => e = .returned (.bool false) ∧ W = w') := Lib.hid (fun W => by have := exists_any n k W; rw [decide_eq_false h] at this; exact this)
  clear h
  go_enter Tryz.func241, Tryz.ntmps241
  go_wp2_with (go_at_call 242; refine (HE.out _).mono ?_; rintro e w5 ⟨rfl, rfl⟩)
  go_ret
  exact ⟨rfl, rfl⟩

set_option maxHeartbeats 1000000 in
theorem queueSize_bad0 (n p q : Int) (h : ¬ ((1 ≤ n ∧ n ≤ 16) ∧ 1 ≤ p ∧ p ≤ 32)) (W : World) : Calls Tryz.prog 239 #[.agg #[.int .i64 p, .int .i64 q], .int .i64 n] W fun e w' => e = .returned (.tuple #[.int .i64 0, .int .i64 10]) ∧ Below W.heap.size W w' := by
  have HS := Lib.hid (fun W => nodeSize_no n p h W)
  clear h
  go_enter Tryz.func239, Tryz.ntmps239
  go_wp2_with (go_at_call 241; refine (HS.out _).mono ?_; rintro e w5 ⟨rfl, rfl⟩)
  go_ret2
  exact ⟨rfl, (Below.refl _ _).alloc (Nat.le_refl _) _⟩

set_option maxHeartbeats 1000000 in
theorem queueSize_bad1 (n p q a : Int) (h : q < 0) (hn : 1 ≤ n ∧ n ≤ 16) (hp : 1 ≤ p ∧ p ≤ 32) (ha : n * p = a) (ha2 : 0 ≤ a ∧ a ≤ 512) (W : World) : Calls Tryz.prog 239 #[.agg #[.int .i64 p, .int .i64 q], .int .i64 n] W fun e w' => e = .returned (.tuple #[.int .i64 0, .int .i64 10]) ∧ Below W.heap.size W w' := by
  obtain ⟨s, hs, hs0⟩ : ∃ s, 6 + n + 4 * a = s ∧ ¬ s = 0 := ⟨_, rfl, by omega⟩
  have HS : Hid (∀ W, Calls Tryz.prog 241 #[.int .i64 n, .int .i64 p] W fun e w' => e = .returned (.int .i64 s) ∧ W = w') := Lib.hid (fun W => by have := nodeSize_ok n p a hn hp ha ha2 W; rw [hs] at this; exact this)
  clear hn hp ha ha2 hs
  go_enter Tryz.func239, Tryz.ntmps239
  go_wp2_with (go_at_call 241; refine (HS.out _).mono ?_; rintro e w5 ⟨rfl, rfl⟩)
  go_ret2
  exact ⟨rfl, (Below.refl _ _).alloc (Nat.le_refl _) _⟩

set_option maxHeartbeats 1000000 in
theorem queueSize_bad2 (n p q a : Int) (h : 3 < q) (hn : 1 ≤ n ∧ n ≤ 16) (hp : 1 ≤ p ∧ p ≤ 32) (ha : n * p = a) (ha2 : 0 ≤ a ∧ a ≤ 512) (W : World) : Calls Tryz.prog 239 #[.agg #[.int .i64 p, .int .i64 q], .int .i64 n] W fun e w' => e = .returned (.tuple #[.int .i64 0, .int .i64 10]) ∧ Below W.heap.size W w' := by
  have g0 : ¬ q < 0 := by omega
  obtain ⟨s, hs, hs0⟩ : ∃ s, 6 + n + 4 * a = s ∧ ¬ s = 0 := ⟨_, rfl, by omega⟩
  have HS : Hid (∀ W, Calls Tryz.prog 241 #[.int .i64 n, .int .i64 p] W fun e w' => e = .returned (.int .i64 s) ∧ W = w') := Lib.hid (fun W => by have := nodeSize_ok n p a hn hp ha ha2 W; rw [hs] at this; exact this)
  clear hn hp ha ha2 hs
  go_enter Tryz.func239, Tryz.ntmps239
  go_wp2_with (go_at_call 241; refine (HS.out _).mono ?_; rintro e w5 ⟨rfl, rfl⟩)
  go_ret2
  exact ⟨rfl, (Below.refl _ _).alloc (Nat.le_refl _) _⟩

set_option maxHeartbeats 1000000 in
theorem queueSize_ok (n p q a : Int) (hq : 0 ≤ q ∧ q ≤ 3) (hn : 1 ≤ n ∧ n ≤ 16) (hp : 1 ≤ p ∧ p ≤ 32) (ha : n * p = a) (ha2 : 0 ≤ a ∧ a ≤ 512) (W : World) : Calls Tryz.prog 239 #[.agg #[.int .i64 p, .int .i64 q], .int .i64 n] W fun e w' => e = .returned (.tuple #[.int .i64 (6 + n + 4 * a), .int .i64 0]) ∧ Below W.heap.size W w' := by
  have g0 : decide (q < 0) = false := decide_eq_false (by omega)
  have g1 : decide (3 < q) = false := decide_eq_false (by omega)
  obtain ⟨s, hs, hs0⟩ : ∃ s, 6 + n + 4 * a = s ∧ ¬ s = 0 := ⟨_, rfl, by omega⟩
  have HS : Hid (∀ W, Calls Tryz.prog 241 #[.int .i64 n, .int .i64 p] W fun e w' => e = .returned (.int .i64 s) ∧ W = w') := Lib.hid (fun W => by have := nodeSize_ok n p a hn hp ha ha2 W; rw [hs] at this; exact this)
  have g2 : (s == 0) = false := beq_false_of_ne hs0
  rw [hs]
  clear hn hp ha ha2 hs
  go_enter Tryz.func239, Tryz.ntmps239
  go_wp2_with (go_at_call 241; refine (HS.out _).mono ?_; rintro e w5 ⟨rfl, rfl⟩)
  go_ret2
  exact ⟨rfl, (Below.refl _ _).alloc (Nat.le_refl _) _⟩
end
section
set_option maxRecDepth 100000
open Go.ChangeShapes Go.WideShapes Go.ChangeAt Go.RowKit
set_option linter.unusedVariables false
set_option linter.unusedSimpArgs false

/-- boxes of one cell each, one behind the other -/
structure Boxes (B : Nat) (w0 w : World) (vs : List Value) : Prop where
  size : w.heap.size = B + vs.length
  cell : ∀ (j : Nat) (v : Value), vs[j]? = some v → w.cell? ⟨B + j, 0, none⟩ = some v
  bel : Below B w0 w
theorem Boxes.init (w : World) : Boxes w.heap.size w w [] := ⟨rfl, fun j v h => by simp at h, Below.refl _ _⟩
theorem Boxes.push {B : Nat} {w0 w : World} {vs : List Value} (h : Boxes B w0 w vs) (v : Value) (t : TypeId) : Boxes B w0 (w.alloc (.cells #[v] t)) (vs ++ [v]) := by
  refine ⟨?_, fun j u hj => ?_, h.bel.alloc (by rw [h.size]; omega) _⟩
  · rw [World.size_alloc, h.size, List.length_append]; rfl
  · rcases Nat.lt_trichotomy j vs.length with hl | hl | hl
    · rw [List.getElem?_append_left hl] at hj
      have h1 := h.cell j u hj
      have hlt := World.block_lt_of_cell? w _ h1
      exact (((Below.refl w.heap.size w).alloc (Nat.le_refl _) _).cell hlt).trans h1
    · subst hl
      rw [List.getElem?_append_right (Nat.le_refl _), Nat.sub_self] at hj
      cases hj
      exact World.cell?_alloc_at _ _ _ _ (by rw [h.size])
    · rw [List.getElem?_append_right (by omega)] at hj
      have : ([v] : List Value)[j - vs.length]? = none := by rw [List.getElem?_eq_none_iff]; simp; omega
      rw [this] at hj; cases hj
theorem run_makeFuncT (fn : Fn) (first cap : Array Value) (w : World) : (Instr.makeFunc fn first cap).run Tryz.prog w = .ok (.func fn first cap) w := rfl

set_option maxHeartbeats 400000 in
theorem withP_box (f : Nat) (B : Nat) (w0 w : World) (vs : List Value) (h : Boxes B w0 w vs) :
    Calls Tryz.prog 184 #[.func (.func f) #[] #[]] w fun e w' => e = .returned (.func (.func 199) #[] #[.pointer (some ⟨B + vs.length, 0, none⟩)]) ∧ Boxes B w0 w' (vs ++ [.func (.func f) #[] #[]]) := by
  have hmf := run_makeFuncT
  have HS := Lib.hid h.size
  have HB := Lib.hid h
  clear h
  go_enter Tryz.func184, Tryz.ntmps184
  go_wp2_with fail
  go_ret
  exact ⟨by rw [HS.out]; rfl, HB.out.push _ _⟩

set_option maxHeartbeats 400000 in
theorem plain_box (f : Nat) (B : Nat) (w0 w : World) (vs : List Value) (h : Boxes B w0 w vs) :
    Calls Tryz.prog 187 #[.func (.func f) #[] #[]] w fun e w' => e = .returned (.func (.func 201) #[] #[.pointer (some ⟨B + vs.length, 0, none⟩)]) ∧ Boxes B w0 w' (vs ++ [.func (.func f) #[] #[]]) := by
  have hmf := run_makeFuncT
  have HS := Lib.hid h.size
  have HB := Lib.hid h
  clear h
  go_enter Tryz.func187, Tryz.ntmps187
  go_wp2_with fail
  go_ret
  exact ⟨by rw [HS.out]; rfl, HB.out.push _ _⟩

set_option maxHeartbeats 400000 in
theorem always_box (f : Int) (B : Nat) (w0 w : World) (vs : List Value) (h : Boxes B w0 w vs) :
    Calls Tryz.prog 186 #[.int .i64 f] w fun e w' => e = .returned (.func (.func 200) #[] #[.pointer (some ⟨B + vs.length, 0, none⟩)]) ∧ Boxes B w0 w' (vs ++ [.int .i64 f]) := by
  have hmf := run_makeFuncT
  have HS := Lib.hid h.size
  have HB := Lib.hid h
  clear h
  go_enter Tryz.func186, Tryz.ntmps186
  go_wp2_with fail
  go_ret
  exact ⟨by rw [HS.out]; rfl, HB.out.push _ _⟩

def rowBoxes : List Value := [.func (.func 185) #[] #[], .int .i64 4, .func (.func 188) #[] #[], .int .i64 2, .func (.func 189) #[] #[], .int .i64 2, .func (.func 190) #[] #[], .int .i64 3, .func (.func 191) #[] #[], .int .i64 2, .func (.func 192) #[] #[], .int .i64 2, .int .i64 2, .int .i64 2, .func (.func 197) #[] #[], .int .i64 2]
def rowCells (B : Nat) : Array Value := #[.func (.func 199) #[] #[.pointer (some ⟨B + 0, 0, none⟩)], .func (.func 200) #[] #[.pointer (some ⟨B + 1, 0, none⟩)], .func (.func 201) #[] #[.pointer (some ⟨B + 2, 0, none⟩)], .func (.func 200) #[] #[.pointer (some ⟨B + 3, 0, none⟩)], .func (.func 201) #[] #[.pointer (some ⟨B + 4, 0, none⟩)], .func (.func 200) #[] #[.pointer (some ⟨B + 5, 0, none⟩)], .func (.func 201) #[] #[.pointer (some ⟨B + 6, 0, none⟩)], .func (.func 200) #[] #[.pointer (some ⟨B + 7, 0, none⟩)], .func (.func 199) #[] #[.pointer (some ⟨B + 8, 0, none⟩)], .func (.func 200) #[] #[.pointer (some ⟨B + 9, 0, none⟩)], .func (.func 199) #[] #[.pointer (some ⟨B + 10, 0, none⟩)], .func (.func 200) #[] #[.pointer (some ⟨B + 11, 0, none⟩)], .func (.func 193) #[] #[], .func (.func 200) #[] #[.pointer (some ⟨B + 12, 0, none⟩)], .func (.func 194) #[] #[], .func (.func 195) #[] #[], .func (.func 196) #[] #[], .func (.func 200) #[] #[.pointer (some ⟨B + 13, 0, none⟩)], .func (.func 199) #[] #[.pointer (some ⟨B + 14, 0, none⟩)], .func (.func 200) #[] #[.pointer (some ⟨B + 15, 0, none⟩)]]
def RowsP (W : World) (e : Ending) (w' : World) : Prop := ∃ wz, Boxes W.heap.size W wz rowBoxes ∧ w' = wz.alloc (.cells (rowCells W.heap.size) 176) ∧ e = .returned (.slice (some ⟨W.heap.size + 16, 0, none⟩) 10 10)
set_option maxRecDepth 100000 in
set_option maxHeartbeats 2000000 in
theorem rows_any (w : World) : Calls Tryz.prog 170 #[] w (RowsP w) := by
  have HB : Hid (Boxes w.heap.size w w []) := Lib.hid (Boxes.init w)
  go_enter Tryz.func170, Tryz.ntmps170
  go_wp2_with (first
    | (go_at_call 184; refine (withP_box _ _ _ _ _ HB.out).mono ?_; rintro e w5 ⟨rfl, hB⟩; (replace HB := Lib.hid hB); clear hB)
    | (go_at_call 186; refine (always_box _ _ _ _ _ HB.out).mono ?_; rintro e w5 ⟨rfl, hB⟩; (replace HB := Lib.hid hB); clear hB)
    | (go_at_call 187; refine (plain_box _ _ _ _ _ HB.out).mono ?_; rintro e w5 ⟨rfl, hB⟩; (replace HB := Lib.hid hB); clear hB))
  go_ret
  exact ⟨_, HB.out, rfl, by rw [HB.out.size]; rfl⟩
end
section
set_option maxRecDepth 100000
open Go.ChangeShapes Go.WideShapes Go.ChangeAt Go.RowKit
set_option linter.unusedVariables false
set_option linter.unusedSimpArgs false

def rowZ : Obj := .cells #[.nilFunc, .nilFunc] 176
theorem rows_in {w w5 : World} {wz : World} (hB : Boxes (w.alloc rowZ).heap.size (w.alloc rowZ) wz rowBoxes) (h5 : w5 = wz.alloc (.cells (rowCells (w.alloc rowZ).heap.size) 176)) :
    w5.heap[w.heap.size]? = some rowZ ∧ Below w.heap.size w w5 ∧ (∀ (j : Nat) (v : Value), rowBoxes[j]? = some v → w5.cell? ⟨w.heap.size + 1 + j, 0, none⟩ = some v) ∧ (∀ (j : Nat) (v : Value), (rowCells (w.heap.size + 1))[j]? = some v → w5.cell? ⟨w.heap.size + 1 + 16, j, none⟩ = some v) := by
  have hs : (w.alloc rowZ).heap.size = w.heap.size + 1 := World.size_alloc _ _
  have hb1 : Below w.heap.size w (w.alloc rowZ) := (Below.refl _ _).alloc (Nat.le_refl _) _
  have hb : Below (w.alloc rowZ).heap.size (w.alloc rowZ) w5 := by subst h5; exact hB.bel.alloc (by rw [hB.size]; omega) _
  refine ⟨(hb.block _ (by rw [hs]; omega)).trans (heap_alloc_new _ _), hb1.trans (hb.mono (by rw [hs]; omega)), fun j v hj => ?_, fun j v hj => ?_⟩
  · have h1 := hB.cell j v hj
    have hlt := World.block_lt_of_cell? wz _ h1
    rw [hs] at h1
    subst h5
    exact (((Below.refl wz.heap.size wz).alloc (Nat.le_refl _) _).cell (by rw [hs] at hlt; exact hlt)).trans h1
  · subst h5
    rw [← hs] at hj ⊢
    have hsz := hB.size
    exact cell_of_blkT (by rw [show (w.alloc rowZ).heap.size + 16 = wz.heap.size from hsz.symm]; exact heap_alloc_new _ _) hj
/-- two cells of one block are stored -/
def put2 (w : World) (b : Nat) (v0 v1 : Value) : World := (w.setCell ⟨b, 0, none⟩ v0).setCell ⟨b, 1, none⟩ v1
theorem put2_below {a w : World} {B b : Nat} (h : Below B a w) (hb : B ≤ b) (v0 v1 : Value) : Below B a (put2 w b v0 v1) :=
  (h.setCell (p := ⟨b, 0, none⟩) hb _).setCell (p := ⟨b, 1, none⟩) hb _
theorem put2_cell (w : World) (b q : Nat) (hq : q ≠ b) (v0 v1 : Value) : (put2 w b v0 v1).cell? ⟨q, 0, none⟩ = w.cell? ⟨q, 0, none⟩ := by
  have h : ∀ (w : World) (k : Nat) (u : Value), (w.setCell ⟨b, k, none⟩ u).cell? ⟨q, 0, none⟩ = w.cell? ⟨q, 0, none⟩ := fun w k u => by
    unfold World.cell?
    rw [Below.heap_setCell w ⟨b, k, none⟩ u q hq]
  unfold put2
  rw [h, h]

def TFind0 (w : World) (e : Ending) (w' : World) : Prop := ∃ b0 : Nat, ∃ b1 : Nat, e = .returned (.tuple #[.agg #[.func (.func 199) #[] #[.pointer (some ⟨b0, 0, none⟩)], .func (.func 200) #[] #[.pointer (some ⟨b1, 0, none⟩)]], .bool true]) ∧ w'.cell? ⟨b0, 0, none⟩ = some (.func (.func 185) #[] #[]) ∧ w'.cell? ⟨b1, 0, none⟩ = some (.int .i64 4) ∧ Below w.heap.size w w'
set_option maxRecDepth 100000 in
set_option maxHeartbeats 1000000 in
theorem tfind_0 (w : World) : Calls Tryz.prog 128 #[.int .i64 0] w (TFind0 w) := by
  go_enter Tryz.func128, Tryz.ntmps128
  go_wp2_with (go_at_call 170; refine (rows_any _).mono ?_; rintro e w5 ⟨wz, hB, hw5, rfl⟩; (obtain ⟨hbk, hb, hx, hy⟩ := rows_in hB hw5); (have y0 : w5.cell? ⟨w.heap.size + 1 + 16, 0, none⟩ = some (.func (.func 199) #[] #[.pointer (some ⟨w.heap.size + 1 + 0, 0, none⟩)]) := hy 0 _ rfl); (have y1 : w5.cell? ⟨w.heap.size + 1 + 16, 1, none⟩ = some (.func (.func 200) #[] #[.pointer (some ⟨w.heap.size + 1 + 1, 0, none⟩)]) := hy 1 _ rfl); (have k0 : w5.cell? ⟨w.heap.size, 0, none⟩ = some .nilFunc := cell_of_blkT (k := 0) hbk rfl); (have k1 : w5.cell? ⟨w.heap.size, 1, none⟩ = some .nilFunc := cell_of_blkT (k := 1) hbk rfl); (have z0 := free_of_blkT (k := 0) hbk); (have z1 := free_of_blkT (k := 1) hbk); (have HX := Lib.hid hx); (have HB := Lib.hid hb); clear hB hw5 hbk hb hx hy)
  refine bodyPost_ret (v := .tuple #[.agg #[.func (.func 199) #[] #[.pointer (some ⟨w.heap.size + 1 + 0, 0, none⟩)], .func (.func 200) #[] #[.pointer (some ⟨w.heap.size + 1 + 1, 0, none⟩)]], .bool true]) (by simp [results, Tryz.results128, go_sem, k0, k1]) rfl ⟨_, _, rfl, (put2_cell w5 w.heap.size (w.heap.size + 1 + 0) (by omega) _ _).trans (HX.out 0 _ rfl), (put2_cell w5 w.heap.size (w.heap.size + 1 + 1) (by omega) _ _).trans (HX.out 1 _ rfl), put2_below HB.out (Nat.le_refl _) _ _⟩

def TFind1 (w : World) (e : Ending) (w' : World) : Prop := ∃ b0 : Nat, ∃ b1 : Nat, e = .returned (.tuple #[.agg #[.func (.func 201) #[] #[.pointer (some ⟨b0, 0, none⟩)], .func (.func 200) #[] #[.pointer (some ⟨b1, 0, none⟩)]], .bool true]) ∧ w'.cell? ⟨b0, 0, none⟩ = some (.func (.func 188) #[] #[]) ∧ w'.cell? ⟨b1, 0, none⟩ = some (.int .i64 2) ∧ Below w.heap.size w w'
set_option maxRecDepth 100000 in
set_option maxHeartbeats 1000000 in
theorem tfind_1 (w : World) : Calls Tryz.prog 128 #[.int .i64 1] w (TFind1 w) := by
  go_enter Tryz.func128, Tryz.ntmps128
  go_wp2_with (go_at_call 170; refine (rows_any _).mono ?_; rintro e w5 ⟨wz, hB, hw5, rfl⟩; (obtain ⟨hbk, hb, hx, hy⟩ := rows_in hB hw5); (have y0 : w5.cell? ⟨w.heap.size + 1 + 16, 2, none⟩ = some (.func (.func 201) #[] #[.pointer (some ⟨w.heap.size + 1 + 2, 0, none⟩)]) := hy 2 _ rfl); (have y1 : w5.cell? ⟨w.heap.size + 1 + 16, 3, none⟩ = some (.func (.func 200) #[] #[.pointer (some ⟨w.heap.size + 1 + 3, 0, none⟩)]) := hy 3 _ rfl); (have k0 : w5.cell? ⟨w.heap.size, 0, none⟩ = some .nilFunc := cell_of_blkT (k := 0) hbk rfl); (have k1 : w5.cell? ⟨w.heap.size, 1, none⟩ = some .nilFunc := cell_of_blkT (k := 1) hbk rfl); (have z0 := free_of_blkT (k := 0) hbk); (have z1 := free_of_blkT (k := 1) hbk); (have HX := Lib.hid hx); (have HB := Lib.hid hb); clear hB hw5 hbk hb hx hy)
  refine bodyPost_ret (v := .tuple #[.agg #[.func (.func 201) #[] #[.pointer (some ⟨w.heap.size + 1 + 2, 0, none⟩)], .func (.func 200) #[] #[.pointer (some ⟨w.heap.size + 1 + 3, 0, none⟩)]], .bool true]) (by simp [results, Tryz.results128, go_sem, k0, k1]) rfl ⟨_, _, rfl, (put2_cell w5 w.heap.size (w.heap.size + 1 + 2) (by omega) _ _).trans (HX.out 2 _ rfl), (put2_cell w5 w.heap.size (w.heap.size + 1 + 3) (by omega) _ _).trans (HX.out 3 _ rfl), put2_below HB.out (Nat.le_refl _) _ _⟩

def TFind2 (w : World) (e : Ending) (w' : World) : Prop := ∃ b0 : Nat, ∃ b1 : Nat, e = .returned (.tuple #[.agg #[.func (.func 201) #[] #[.pointer (some ⟨b0, 0, none⟩)], .func (.func 200) #[] #[.pointer (some ⟨b1, 0, none⟩)]], .bool true]) ∧ w'.cell? ⟨b0, 0, none⟩ = some (.func (.func 189) #[] #[]) ∧ w'.cell? ⟨b1, 0, none⟩ = some (.int .i64 2) ∧ Below w.heap.size w w'
set_option maxRecDepth 100000 in
set_option maxHeartbeats 1000000 in
theorem tfind_2 (w : World) : Calls Tryz.prog 128 #[.int .i64 2] w (TFind2 w) := by
  go_enter Tryz.func128, Tryz.ntmps128
  go_wp2_with (go_at_call 170; refine (rows_any _).mono ?_; rintro e w5 ⟨wz, hB, hw5, rfl⟩; (obtain ⟨hbk, hb, hx, hy⟩ := rows_in hB hw5); (have y0 : w5.cell? ⟨w.heap.size + 1 + 16, 4, none⟩ = some (.func (.func 201) #[] #[.pointer (some ⟨w.heap.size + 1 + 4, 0, none⟩)]) := hy 4 _ rfl); (have y1 : w5.cell? ⟨w.heap.size + 1 + 16, 5, none⟩ = some (.func (.func 200) #[] #[.pointer (some ⟨w.heap.size + 1 + 5, 0, none⟩)]) := hy 5 _ rfl); (have k0 : w5.cell? ⟨w.heap.size, 0, none⟩ = some .nilFunc := cell_of_blkT (k := 0) hbk rfl); (have k1 : w5.cell? ⟨w.heap.size, 1, none⟩ = some .nilFunc := cell_of_blkT (k := 1) hbk rfl); (have z0 := free_of_blkT (k := 0) hbk); (have z1 := free_of_blkT (k := 1) hbk); (have HX := Lib.hid hx); (have HB := Lib.hid hb); clear hB hw5 hbk hb hx hy)
  refine bodyPost_ret (v := .tuple #[.agg #[.func (.func 201) #[] #[.pointer (some ⟨w.heap.size + 1 + 4, 0, none⟩)], .func (.func 200) #[] #[.pointer (some ⟨w.heap.size + 1 + 5, 0, none⟩)]], .bool true]) (by simp [results, Tryz.results128, go_sem, k0, k1]) rfl ⟨_, _, rfl, (put2_cell w5 w.heap.size (w.heap.size + 1 + 4) (by omega) _ _).trans (HX.out 4 _ rfl), (put2_cell w5 w.heap.size (w.heap.size + 1 + 5) (by omega) _ _).trans (HX.out 5 _ rfl), put2_below HB.out (Nat.le_refl _) _ _⟩

def TFind3 (w : World) (e : Ending) (w' : World) : Prop := ∃ b0 : Nat, ∃ b1 : Nat, e = .returned (.tuple #[.agg #[.func (.func 201) #[] #[.pointer (some ⟨b0, 0, none⟩)], .func (.func 200) #[] #[.pointer (some ⟨b1, 0, none⟩)]], .bool true]) ∧ w'.cell? ⟨b0, 0, none⟩ = some (.func (.func 190) #[] #[]) ∧ w'.cell? ⟨b1, 0, none⟩ = some (.int .i64 3) ∧ Below w.heap.size w w'
set_option maxRecDepth 100000 in
set_option maxHeartbeats 1000000 in
theorem tfind_3 (w : World) : Calls Tryz.prog 128 #[.int .i64 3] w (TFind3 w) := by
  go_enter Tryz.func128, Tryz.ntmps128
  go_wp2_with (go_at_call 170; refine (rows_any _).mono ?_; rintro e w5 ⟨wz, hB, hw5, rfl⟩; (obtain ⟨hbk, hb, hx, hy⟩ := rows_in hB hw5); (have y0 : w5.cell? ⟨w.heap.size + 1 + 16, 6, none⟩ = some (.func (.func 201) #[] #[.pointer (some ⟨w.heap.size + 1 + 6, 0, none⟩)]) := hy 6 _ rfl); (have y1 : w5.cell? ⟨w.heap.size + 1 + 16, 7, none⟩ = some (.func (.func 200) #[] #[.pointer (some ⟨w.heap.size + 1 + 7, 0, none⟩)]) := hy 7 _ rfl); (have k0 : w5.cell? ⟨w.heap.size, 0, none⟩ = some .nilFunc := cell_of_blkT (k := 0) hbk rfl); (have k1 : w5.cell? ⟨w.heap.size, 1, none⟩ = some .nilFunc := cell_of_blkT (k := 1) hbk rfl); (have z0 := free_of_blkT (k := 0) hbk); (have z1 := free_of_blkT (k := 1) hbk); (have HX := Lib.hid hx); (have HB := Lib.hid hb); clear hB hw5 hbk hb hx hy)
  refine bodyPost_ret (v := .tuple #[.agg #[.func (.func 201) #[] #[.pointer (some ⟨w.heap.size + 1 + 6, 0, none⟩)], .func (.func 200) #[] #[.pointer (some ⟨w.heap.size + 1 + 7, 0, none⟩)]], .bool true]) (by simp [results, Tryz.results128, go_sem, k0, k1]) rfl ⟨_, _, rfl, (put2_cell w5 w.heap.size (w.heap.size + 1 + 6) (by omega) _ _).trans (HX.out 6 _ rfl), (put2_cell w5 w.heap.size (w.heap.size + 1 + 7) (by omega) _ _).trans (HX.out 7 _ rfl), put2_below HB.out (Nat.le_refl _) _ _⟩

def TFind4 (w : World) (e : Ending) (w' : World) : Prop := ∃ b0 : Nat, ∃ b1 : Nat, e = .returned (.tuple #[.agg #[.func (.func 199) #[] #[.pointer (some ⟨b0, 0, none⟩)], .func (.func 200) #[] #[.pointer (some ⟨b1, 0, none⟩)]], .bool true]) ∧ w'.cell? ⟨b0, 0, none⟩ = some (.func (.func 191) #[] #[]) ∧ w'.cell? ⟨b1, 0, none⟩ = some (.int .i64 2) ∧ Below w.heap.size w w'
set_option maxRecDepth 100000 in
set_option maxHeartbeats 1000000 in
theorem tfind_4 (w : World) : Calls Tryz.prog 128 #[.int .i64 4] w (TFind4 w) := by
  go_enter Tryz.func128, Tryz.ntmps128
  go_wp2_with (go_at_call 170; refine (rows_any _).mono ?_; rintro e w5 ⟨wz, hB, hw5, rfl⟩; (obtain ⟨hbk, hb, hx, hy⟩ := rows_in hB hw5); (have y0 : w5.cell? ⟨w.heap.size + 1 + 16, 8, none⟩ = some (.func (.func 199) #[] #[.pointer (some ⟨w.heap.size + 1 + 8, 0, none⟩)]) := hy 8 _ rfl); (have y1 : w5.cell? ⟨w.heap.size + 1 + 16, 9, none⟩ = some (.func (.func 200) #[] #[.pointer (some ⟨w.heap.size + 1 + 9, 0, none⟩)]) := hy 9 _ rfl); (have k0 : w5.cell? ⟨w.heap.size, 0, none⟩ = some .nilFunc := cell_of_blkT (k := 0) hbk rfl); (have k1 : w5.cell? ⟨w.heap.size, 1, none⟩ = some .nilFunc := cell_of_blkT (k := 1) hbk rfl); (have z0 := free_of_blkT (k := 0) hbk); (have z1 := free_of_blkT (k := 1) hbk); (have HX := Lib.hid hx); (have HB := Lib.hid hb); clear hB hw5 hbk hb hx hy)
  refine bodyPost_ret (v := .tuple #[.agg #[.func (.func 199) #[] #[.pointer (some ⟨w.heap.size + 1 + 8, 0, none⟩)], .func (.func 200) #[] #[.pointer (some ⟨w.heap.size + 1 + 9, 0, none⟩)]], .bool true]) (by simp [results, Tryz.results128, go_sem, k0, k1]) rfl ⟨_, _, rfl, (put2_cell w5 w.heap.size (w.heap.size + 1 + 8) (by omega) _ _).trans (HX.out 8 _ rfl), (put2_cell w5 w.heap.size (w.heap.size + 1 + 9) (by omega) _ _).trans (HX.out 9 _ rfl), put2_below HB.out (Nat.le_refl _) _ _⟩

def TFind5 (w : World) (e : Ending) (w' : World) : Prop := ∃ b0 : Nat, ∃ b1 : Nat, e = .returned (.tuple #[.agg #[.func (.func 199) #[] #[.pointer (some ⟨b0, 0, none⟩)], .func (.func 200) #[] #[.pointer (some ⟨b1, 0, none⟩)]], .bool true]) ∧ w'.cell? ⟨b0, 0, none⟩ = some (.func (.func 192) #[] #[]) ∧ w'.cell? ⟨b1, 0, none⟩ = some (.int .i64 2) ∧ Below w.heap.size w w'
set_option maxRecDepth 100000 in
set_option maxHeartbeats 1000000 in
theorem tfind_5 (w : World) : Calls Tryz.prog 128 #[.int .i64 5] w (TFind5 w) := by
  go_enter Tryz.func128, Tryz.ntmps128
  go_wp2_with (go_at_call 170; refine (rows_any _).mono ?_; rintro e w5 ⟨wz, hB, hw5, rfl⟩; (obtain ⟨hbk, hb, hx, hy⟩ := rows_in hB hw5); (have y0 : w5.cell? ⟨w.heap.size + 1 + 16, 10, none⟩ = some (.func (.func 199) #[] #[.pointer (some ⟨w.heap.size + 1 + 10, 0, none⟩)]) := hy 10 _ rfl); (have y1 : w5.cell? ⟨w.heap.size + 1 + 16, 11, none⟩ = some (.func (.func 200) #[] #[.pointer (some ⟨w.heap.size + 1 + 11, 0, none⟩)]) := hy 11 _ rfl); (have k0 : w5.cell? ⟨w.heap.size, 0, none⟩ = some .nilFunc := cell_of_blkT (k := 0) hbk rfl); (have k1 : w5.cell? ⟨w.heap.size, 1, none⟩ = some .nilFunc := cell_of_blkT (k := 1) hbk rfl); (have z0 := free_of_blkT (k := 0) hbk); (have z1 := free_of_blkT (k := 1) hbk); (have HX := Lib.hid hx); (have HB := Lib.hid hb); clear hB hw5 hbk hb hx hy)
  refine bodyPost_ret (v := .tuple #[.agg #[.func (.func 199) #[] #[.pointer (some ⟨w.heap.size + 1 + 10, 0, none⟩)], .func (.func 200) #[] #[.pointer (some ⟨w.heap.size + 1 + 11, 0, none⟩)]], .bool true]) (by simp [results, Tryz.results128, go_sem, k0, k1]) rfl ⟨_, _, rfl, (put2_cell w5 w.heap.size (w.heap.size + 1 + 10) (by omega) _ _).trans (HX.out 10 _ rfl), (put2_cell w5 w.heap.size (w.heap.size + 1 + 11) (by omega) _ _).trans (HX.out 11 _ rfl), put2_below HB.out (Nat.le_refl _) _ _⟩

def TFind6 (w : World) (e : Ending) (w' : World) : Prop := ∃ b1 : Nat, e = .returned (.tuple #[.agg #[.func (.func 193) #[] #[], .func (.func 200) #[] #[.pointer (some ⟨b1, 0, none⟩)]], .bool true]) ∧ w'.cell? ⟨b1, 0, none⟩ = some (.int .i64 2) ∧ Below w.heap.size w w'
set_option maxRecDepth 100000 in
set_option maxHeartbeats 1000000 in
theorem tfind_6 (w : World) : Calls Tryz.prog 128 #[.int .i64 6] w (TFind6 w) := by
  go_enter Tryz.func128, Tryz.ntmps128
  go_wp2_with (go_at_call 170; refine (rows_any _).mono ?_; rintro e w5 ⟨wz, hB, hw5, rfl⟩; (obtain ⟨hbk, hb, hx, hy⟩ := rows_in hB hw5); (have y0 : w5.cell? ⟨w.heap.size + 1 + 16, 12, none⟩ = some (.func (.func 193) #[] #[]) := hy 12 _ rfl); (have y1 : w5.cell? ⟨w.heap.size + 1 + 16, 13, none⟩ = some (.func (.func 200) #[] #[.pointer (some ⟨w.heap.size + 1 + 12, 0, none⟩)]) := hy 13 _ rfl); (have k0 : w5.cell? ⟨w.heap.size, 0, none⟩ = some .nilFunc := cell_of_blkT (k := 0) hbk rfl); (have k1 : w5.cell? ⟨w.heap.size, 1, none⟩ = some .nilFunc := cell_of_blkT (k := 1) hbk rfl); (have z0 := free_of_blkT (k := 0) hbk); (have z1 := free_of_blkT (k := 1) hbk); (have HX := Lib.hid hx); (have HB := Lib.hid hb); clear hB hw5 hbk hb hx hy)
  refine bodyPost_ret (v := .tuple #[.agg #[.func (.func 193) #[] #[], .func (.func 200) #[] #[.pointer (some ⟨w.heap.size + 1 + 12, 0, none⟩)]], .bool true]) (by simp [results, Tryz.results128, go_sem, k0, k1]) rfl ⟨_, rfl, (put2_cell w5 w.heap.size (w.heap.size + 1 + 12) (by omega) _ _).trans (HX.out 12 _ rfl), put2_below HB.out (Nat.le_refl _) _ _⟩

def TFind7 (w : World) (e : Ending) (w' : World) : Prop := e = .returned (.tuple #[.agg #[.func (.func 194) #[] #[], .func (.func 195) #[] #[]], .bool true]) ∧ Below w.heap.size w w'
set_option maxRecDepth 100000 in
set_option maxHeartbeats 1000000 in
theorem tfind_7 (w : World) : Calls Tryz.prog 128 #[.int .i64 7] w (TFind7 w) := by
  go_enter Tryz.func128, Tryz.ntmps128
  go_wp2_with (go_at_call 170; refine (rows_any _).mono ?_; rintro e w5 ⟨wz, hB, hw5, rfl⟩; (obtain ⟨hbk, hb, hx, hy⟩ := rows_in hB hw5); (have y0 : w5.cell? ⟨w.heap.size + 1 + 16, 14, none⟩ = some (.func (.func 194) #[] #[]) := hy 14 _ rfl); (have y1 : w5.cell? ⟨w.heap.size + 1 + 16, 15, none⟩ = some (.func (.func 195) #[] #[]) := hy 15 _ rfl); (have k0 : w5.cell? ⟨w.heap.size, 0, none⟩ = some .nilFunc := cell_of_blkT (k := 0) hbk rfl); (have k1 : w5.cell? ⟨w.heap.size, 1, none⟩ = some .nilFunc := cell_of_blkT (k := 1) hbk rfl); (have z0 := free_of_blkT (k := 0) hbk); (have z1 := free_of_blkT (k := 1) hbk); (have HX := Lib.hid hx); (have HB := Lib.hid hb); clear hB hw5 hbk hb hx hy)
  refine bodyPost_ret (v := .tuple #[.agg #[.func (.func 194) #[] #[], .func (.func 195) #[] #[]], .bool true]) (by simp [results, Tryz.results128, go_sem, k0, k1]) rfl ⟨rfl, put2_below HB.out (Nat.le_refl _) _ _⟩

def TFind8 (w : World) (e : Ending) (w' : World) : Prop := ∃ b1 : Nat, e = .returned (.tuple #[.agg #[.func (.func 196) #[] #[], .func (.func 200) #[] #[.pointer (some ⟨b1, 0, none⟩)]], .bool true]) ∧ w'.cell? ⟨b1, 0, none⟩ = some (.int .i64 2) ∧ Below w.heap.size w w'
set_option maxRecDepth 100000 in
set_option maxHeartbeats 1000000 in
theorem tfind_8 (w : World) : Calls Tryz.prog 128 #[.int .i64 8] w (TFind8 w) := by
  go_enter Tryz.func128, Tryz.ntmps128
  go_wp2_with (go_at_call 170; refine (rows_any _).mono ?_; rintro e w5 ⟨wz, hB, hw5, rfl⟩; (obtain ⟨hbk, hb, hx, hy⟩ := rows_in hB hw5); (have y0 : w5.cell? ⟨w.heap.size + 1 + 16, 16, none⟩ = some (.func (.func 196) #[] #[]) := hy 16 _ rfl); (have y1 : w5.cell? ⟨w.heap.size + 1 + 16, 17, none⟩ = some (.func (.func 200) #[] #[.pointer (some ⟨w.heap.size + 1 + 13, 0, none⟩)]) := hy 17 _ rfl); (have k0 : w5.cell? ⟨w.heap.size, 0, none⟩ = some .nilFunc := cell_of_blkT (k := 0) hbk rfl); (have k1 : w5.cell? ⟨w.heap.size, 1, none⟩ = some .nilFunc := cell_of_blkT (k := 1) hbk rfl); (have z0 := free_of_blkT (k := 0) hbk); (have z1 := free_of_blkT (k := 1) hbk); (have HX := Lib.hid hx); (have HB := Lib.hid hb); clear hB hw5 hbk hb hx hy)
  refine bodyPost_ret (v := .tuple #[.agg #[.func (.func 196) #[] #[], .func (.func 200) #[] #[.pointer (some ⟨w.heap.size + 1 + 13, 0, none⟩)]], .bool true]) (by simp [results, Tryz.results128, go_sem, k0, k1]) rfl ⟨_, rfl, (put2_cell w5 w.heap.size (w.heap.size + 1 + 13) (by omega) _ _).trans (HX.out 13 _ rfl), put2_below HB.out (Nat.le_refl _) _ _⟩

def TFind9 (w : World) (e : Ending) (w' : World) : Prop := ∃ b0 : Nat, ∃ b1 : Nat, e = .returned (.tuple #[.agg #[.func (.func 199) #[] #[.pointer (some ⟨b0, 0, none⟩)], .func (.func 200) #[] #[.pointer (some ⟨b1, 0, none⟩)]], .bool true]) ∧ w'.cell? ⟨b0, 0, none⟩ = some (.func (.func 197) #[] #[]) ∧ w'.cell? ⟨b1, 0, none⟩ = some (.int .i64 2) ∧ Below w.heap.size w w'
set_option maxRecDepth 100000 in
set_option maxHeartbeats 1000000 in
theorem tfind_9 (w : World) : Calls Tryz.prog 128 #[.int .i64 9] w (TFind9 w) := by
  go_enter Tryz.func128, Tryz.ntmps128
  go_wp2_with (go_at_call 170; refine (rows_any _).mono ?_; rintro e w5 ⟨wz, hB, hw5, rfl⟩; (obtain ⟨hbk, hb, hx, hy⟩ := rows_in hB hw5); (have y0 : w5.cell? ⟨w.heap.size + 1 + 16, 18, none⟩ = some (.func (.func 199) #[] #[.pointer (some ⟨w.heap.size + 1 + 14, 0, none⟩)]) := hy 18 _ rfl); (have y1 : w5.cell? ⟨w.heap.size + 1 + 16, 19, none⟩ = some (.func (.func 200) #[] #[.pointer (some ⟨w.heap.size + 1 + 15, 0, none⟩)]) := hy 19 _ rfl); (have k0 : w5.cell? ⟨w.heap.size, 0, none⟩ = some .nilFunc := cell_of_blkT (k := 0) hbk rfl); (have k1 : w5.cell? ⟨w.heap.size, 1, none⟩ = some .nilFunc := cell_of_blkT (k := 1) hbk rfl); (have z0 := free_of_blkT (k := 0) hbk); (have z1 := free_of_blkT (k := 1) hbk); (have HX := Lib.hid hx); (have HB := Lib.hid hb); clear hB hw5 hbk hb hx hy)
  refine bodyPost_ret (v := .tuple #[.agg #[.func (.func 199) #[] #[.pointer (some ⟨w.heap.size + 1 + 14, 0, none⟩)], .func (.func 200) #[] #[.pointer (some ⟨w.heap.size + 1 + 15, 0, none⟩)]], .bool true]) (by simp [results, Tryz.results128, go_sem, k0, k1]) rfl ⟨_, _, rfl, (put2_cell w5 w.heap.size (w.heap.size + 1 + 14) (by omega) _ _).trans (HX.out 14 _ rfl), (put2_cell w5 w.heap.size (w.heap.size + 1 + 15) (by omega) _ _).trans (HX.out 15 _ rfl), put2_below HB.out (Nat.le_refl _) _ _⟩

set_option maxRecDepth 100000 in
set_option maxHeartbeats 1000000 in
theorem tfind_none (k : Int) (w : World) (hk : ¬ (0 ≤ k ∧ k ≤ 9)) : Calls Tryz.prog 128 #[.int .i64 k] w fun e w' => e = .returned (.tuple #[.agg #[.nilFunc, .nilFunc], .bool false]) ∧ Below w.heap.size w w' := by
  by_cases h0 : k < 0
  · clear hk
    go_enter Tryz.func128, Tryz.ntmps128
    go_wp2_with (go_at_call 170; refine (rows_any _).mono ?_; rintro e w5 ⟨wz, hB, hw5, rfl⟩; (obtain ⟨hbk, hb, hx, hy⟩ := rows_in hB hw5); (have k0 : w5.cell? ⟨w.heap.size, 0, none⟩ = some .nilFunc := cell_of_blkT (k := 0) hbk rfl); (have k1 : w5.cell? ⟨w.heap.size, 1, none⟩ = some .nilFunc := cell_of_blkT (k := 1) hbk rfl); (have z0 := free_of_blkT (k := 0) hbk); (have z1 := free_of_blkT (k := 1) hbk); (have HB := Lib.hid hb); clear hB hw5 hbk hb hx hy)
    refine bodyPost_ret (v := .tuple #[.agg #[.nilFunc, .nilFunc], .bool false]) (by simp [results, Tryz.results128, go_sem, k0, k1]) rfl ⟨rfl, put2_below HB.out (Nat.le_refl _) _ _⟩
  · have h9 : 10 ≤ k := by omega
    clear hk
    go_enter Tryz.func128, Tryz.ntmps128
    go_wp2_with (go_at_call 170; refine (rows_any _).mono ?_; rintro e w5 ⟨wz, hB, hw5, rfl⟩; (obtain ⟨hbk, hb, hx, hy⟩ := rows_in hB hw5); (have k0 : w5.cell? ⟨w.heap.size, 0, none⟩ = some .nilFunc := cell_of_blkT (k := 0) hbk rfl); (have k1 : w5.cell? ⟨w.heap.size, 1, none⟩ = some .nilFunc := cell_of_blkT (k := 1) hbk rfl); (have z0 := free_of_blkT (k := 0) hbk); (have z1 := free_of_blkT (k := 1) hbk); (have HB := Lib.hid hb); clear hB hw5 hbk hb hx hy)
    refine bodyPost_ret (v := .tuple #[.agg #[.nilFunc, .nilFunc], .bool false]) (by simp [results, Tryz.results128, go_sem, k0, k1]) rfl ⟨rfl, put2_below HB.out (Nat.le_refl _) _ _⟩
end
end Go.Proofs.YtjjleghalajidaaGreat.Tb
