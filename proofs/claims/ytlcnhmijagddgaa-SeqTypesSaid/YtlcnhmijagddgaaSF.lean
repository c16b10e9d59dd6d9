/- The table of types: find; Kinds, New, Right; refuse. -/
import Derived.Test.YtlcnhmijagddgaaSE
import Derived.Test.YtlcnhmijagddgaaK7
namespace Go.Proofs.Ytlcnhmijagddgaa
open Go.ChangeShapes Go.WideShapes Go.ChangeAt Go.RowKit
set_option linter.unusedVariables false

/-- a function's value, and what comes of a call of it: k of type t -/
def EffC (w : World) (t k : Nat) (f : Value) : Prop :=
  ∃ (fid : FuncId) (ex : List Value), f = .func (.func fid) #[] ex.toArray ∧ (∀ (args : Array Value) (w : World), (callFunc fid args).run Try.prog w = .ok (.enter fid args) w) ∧
    ∀ (W : World) (B : Nat) (v : Value) (l : List Nat) (a : Nat), Below w.heap.size w W → w.heap.size ≤ B → B ≤ W.heap.size → OwnW W B v l → sqOk t l.length → (∀ x ∈ l, x < 18446744073709551616) → a < 18446744073709551616 →
      Calls Try.prog fid (v :: .int .u64 (a : Int) :: ex).toArray W (EffP B W (sqDo t k l a))

/-- the value of a type -/
def SeqV (w : World) (t : Nat) (s : Value) : Prop :=
  ∃ f0 f1 f2, s = .agg #[.int .i64 (sqLo t : Int), .int .i64 (sqHi t : Int), f0, f1, f2] ∧ EffC w t 0 f0 ∧ EffC w t 1 f1 ∧ (if sqN t = 3 then EffC w t 2 f2 else f2 = .nilFunc)

theorem one_of {l : List Nat} {t : Nat} (h : sqOk t l.length) (ht : t = 0 ∨ t = 1 ∨ t = 4 ∨ t = 5 ∨ t = 6) : ∃ x, l = [x] := by
  unfold sqOk sqLo sqHi at h
  rcases l with _ | ⟨x, _ | ⟨y, l⟩⟩
  · rcases ht with rfl | rfl | rfl | rfl | rfl <;> simp at h
  · exact ⟨x, rfl⟩
  · rcases ht with rfl | rfl | rfl | rfl | rfl <;> simp at h
theorem many_of {l : List Nat} {t : Nat} (h : sqOk t l.length) : l.length ≤ 8 := by
  unfold sqOk sqHi at h
  split at h <;> omega
theorem eight_of {l : List Nat} (h : sqOk 7 l.length) : l.length = 8 := by
  unfold sqOk sqLo sqHi at h; simp at h; omega

theorem effC_look (w : World) (t : Nat) (ht : t = 0 ∨ t = 1 ∨ t = 5 ∨ t = 6) : EffC w t 0 (.func (.func 24) #[] #[]) := by
  refine ⟨24, [], rfl, fun args w => by kernel_rfl, fun W B v l a _ _ hB ho hok hx ha => ?_⟩
  obtain ⟨x, rfl⟩ := one_of hok (by omega)
  have := eff_look v x a B W ho
  rcases ht with rfl | rfl | rfl | rfl <;> exact this
theorem effC_update (w : World) (t q f : Nat) (z : Nat → Nat → Nat) (hz : NextP f z) (ht : t = 0 ∨ t = 1 ∨ t = 5) (hd : ∀ x a, x < 18446744073709551616 → a < 18446744073709551616 → sqDo t 1 [x] a = ([z x a], x, 0)) (hq : w.cell? ⟨q, 0, none⟩ = some (.func (.func f) #[] #[])) :
    EffC w t 1 (.func (.func 40) #[] #[.pointer (some ⟨q, 0, none⟩)]) := by
  refine ⟨40, [.pointer (some ⟨q, 0, none⟩)], rfl, fun args w => by kernel_rfl, fun W B v l a hb hwB hB ho hok hx ha => ?_⟩
  obtain ⟨x, rfl⟩ := one_of hok (by omega)
  have hlt := World.block_lt_of_cell? w _ hq
  rw [hd x a (hx x (by simp)) ha]
  exact eff_update v x a B q f z hz W ho (hx x (by simp)) ha ((hb.cell hlt).trans hq) (by simp at hlt; omega) hB
theorem effC_swap (w : World) : EffC w 6 1 (.func (.func 37) #[] #[]) := by
  refine ⟨37, [], rfl, fun args w => by kernel_rfl, fun W B v l a hb hwB hB ho hok hx ha => ?_⟩
  obtain ⟨x, rfl⟩ := one_of hok (by omega)
  exact eff_swap v x a B W ho ha hB
theorem effC_has (w : World) : EffC w 4 0 (.func (.func 33) #[] #[]) := by
  refine ⟨33, [], rfl, fun args w => by kernel_rfl, fun W B v l a hb hwB hB ho hok hx ha => ?_⟩
  obtain ⟨x, rfl⟩ := one_of hok (by omega)
  refine (has_any v x a B W ho (hx x (by simp)) ha).mono ?_
  rintro e w' ⟨rfl, m, rfl⟩
  unfold sqDo
  by_cases h8 : 64 ≤ a
  · simp only [if_pos h8]; exact ⟨v, rfl, ho.drewN _, below_drewN (Below.refl _ _) _⟩
  · simp only [if_neg h8]; exact ⟨v, rfl, ho.drewN _, below_drewN (Below.refl _ _) _⟩
theorem effC_include (w : World) : EffC w 4 1 (.func (.func 34) #[] #[]) := by
  refine ⟨34, [], rfl, fun args w => by kernel_rfl, fun W B v l a hb hwB hB ho hok hx ha => ?_⟩
  obtain ⟨x, rfl⟩ := one_of hok (by omega)
  exact eff_include v x a B W ho (hx x (by simp)) ha hB
theorem effC_exclude (w : World) : EffC w 4 2 (.func (.func 35) #[] #[]) := by
  refine ⟨35, [], rfl, fun args w => by kernel_rfl, fun W B v l a hb hwB hB ho hok hx ha => ?_⟩
  obtain ⟨x, rfl⟩ := one_of hok (by omega)
  exact eff_exclude v x a B W ho (hx x (by simp)) ha hB
theorem effC_add (w : World) (t : Nat) (ht : t = 2 ∨ t = 3) : EffC w t 0 (.func (.func 28) #[] #[]) := by
  refine ⟨28, [], rfl, fun args w => by kernel_rfl, fun W B v l a hb hwB hB ho hok hx ha => ?_⟩
  have := eff_add v l a B W ho (many_of hok) hB
  rcases ht with rfl | rfl <;> exact this
theorem effC_removeLast (w : World) : EffC w 2 1 (.func (.func 29) #[] #[]) := by
  refine ⟨29, [], rfl, fun args w => by kernel_rfl, fun W B v l a hb hwB hB ho hok hx ha => ?_⟩
  exact eff_removeLast v l a B W ho (many_of hok) hB
theorem effC_removeFirst (w : World) : EffC w 3 1 (.func (.func 31) #[] #[]) := by
  refine ⟨31, [], rfl, fun args w => by kernel_rfl, fun W B v l a hb hwB hB ho hok hx ha => ?_⟩
  exact eff_removeFirst v l a B W ho (many_of hok) hB
theorem effC_showLast (w : World) : EffC w 2 2 (.func (.func 30) #[] #[]) := by
  refine ⟨30, [], rfl, fun args w => by kernel_rfl, fun W B v l a hb hwB hB ho hok hx ha => ?_⟩
  refine (eff_showLast v l a B W ho (many_of hok)).mono ?_
  rintro e w' ⟨rfl, m, rfl⟩
  unfold sqDo
  by_cases h8 : l.length = 0
  · simp only [if_pos h8]; exact ⟨v, rfl, ho.drewN _, below_drewN (Below.refl _ _) _⟩
  · simp only [if_neg h8]; exact ⟨v, rfl, ho.drewN _, below_drewN (Below.refl _ _) _⟩
theorem effC_showFirst (w : World) : EffC w 3 2 (.func (.func 32) #[] #[]) := by
  refine ⟨32, [], rfl, fun args w => by kernel_rfl, fun W B v l a hb hwB hB ho hok hx ha => ?_⟩
  refine (eff_showFirst v l a B W ho).mono ?_
  rintro e w' ⟨rfl, m, rfl⟩
  unfold sqDo
  by_cases h8 : l.length = 0
  · simp only [if_pos h8]; exact ⟨v, rfl, ho.drewN _, below_drewN (Below.refl _ _) _⟩
  · simp only [if_neg h8]; exact ⟨v, rfl, ho.drewN _, below_drewN (Below.refl _ _) _⟩
theorem effC_lookUp (w : World) : EffC w 7 0 (.func (.func 38) #[] #[]) := by
  refine ⟨38, [], rfl, fun args w => by kernel_rfl, fun W B v l a hb hwB hB ho hok hx ha => ?_⟩
  refine (lookUp_any v l a B W ho (eight_of hok) ha).mono ?_
  rintro e w' ⟨rfl, m, rfl⟩
  unfold sqDo
  by_cases h8 : 8 ≤ a
  · simp only [if_pos h8]; exact ⟨v, rfl, ho.drewN _, below_drewN (Below.refl _ _) _⟩
  · simp only [if_neg h8]; exact ⟨v, rfl, ho.drewN _, below_drewN (Below.refl _ _) _⟩
theorem effC_store (w : World) : EffC w 7 1 (.func (.func 39) #[] #[]) := by
  refine ⟨39, [], rfl, fun args w => by kernel_rfl, fun W B v l a hb hwB hB ho hok hx ha => ?_⟩
  exact eff_store v l a B W ho (eight_of hok) ha hB

/-- what find leaves, if there is the type -/
def FindP (t : Nat) (W : World) (e : Ending) (w' : World) : Prop := ∃ s, e = .returned (.tuple #[s, .bool true]) ∧ SeqV w' t s ∧ Below W.heap.size W w'

set_option maxHeartbeats 1000000 in
theorem update_any (f : Nat) (w : World) :
    Calls Try.prog 25 #[.func (.func f) #[] #[]] w fun e w' => e = .returned (.func (.func 40) #[] #[.pointer (some ⟨w.heap.size, 0, none⟩)]) ∧ w'.cell? ⟨w.heap.size, 0, none⟩ = some (.func (.func f) #[] #[]) ∧ Below w.heap.size w w' ∧ w'.heap.size = w.heap.size + 1 := by
  have hmf : ∀ (fn : Fn) (first cap : Array Value) (w : World), (Instr.makeFunc fn first cap).run Try.prog w = .ok (.func fn first cap) w := fun _ _ _ _ => rfl
  go_enter Try.func25, Try.ntmps25
  go_wp2_with fail
  go_ret
  exact ⟨rfl, World.cell?_alloc_at _ _ _ _ rfl, (Below.refl _ _).alloc (Nat.le_refl _) _, by simp⟩
end Go.Proofs.Ytlcnhmijagddgaa
