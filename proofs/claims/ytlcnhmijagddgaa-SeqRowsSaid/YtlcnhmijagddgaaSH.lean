/- Kinds, New, Right, refuse, effect. -/
import Derived.Test.YtlcnhmijagddgaaSG
namespace Go.Proofs.Ytlcnhmijagddgaa
open Go.ChangeShapes Go.WideShapes Go.ChangeAt Go.RowKit
set_option linter.unusedVariables false

def sqRight (t : Int) (l : List Nat) : Bool := sqIs t && (decide (sqLo t.toNat ≤ l.length) && decide (l.length ≤ sqHi t.toNat))
def sqKinds (t : Int) : Nat := if sqIs t then sqN t.toNat else 0
theorem sqLo_le (t : Nat) : sqLo t ≤ 8 := by unfold sqLo; split <;> (try split) <;> omega
theorem sqHi_le (t : Nat) : sqHi t ≤ 8 := by unfold sqHi; split <;> omega
theorem sqIs_yes {t : Int} (h : 0 ≤ t ∧ t ≤ 7) : sqIs t = true := by unfold sqIs; simp [h]
theorem sqIs_no {t : Int} (h : ¬ (0 ≤ t ∧ t ≤ 7)) : sqIs t = false := by
  unfold sqIs
  by_cases h0 : 0 ≤ t
  · have : ¬ t ≤ 7 := by omega
    simp [this]
  · simp [h0]

theorem run_eql_func (fn : Fn) (first cap : Array Value) (w : World) : (binOp .eql 41 (.func fn first cap) .nilFunc).run Try.prog w = .ok (.bool false) w := by kernel_rfl
theorem run_eql_nilF (w : World) : (binOp .eql 41 .nilFunc .nilFunc).run Try.prog w = .ok (.bool true) w := by kernel_rfl

/-- what a call of an operation's function gives -/
def EffK (w : World) (t k fid : Nat) (ex : List Value) : Prop :=
  (∀ (args : Array Value) (w : World), (callFunc fid args).run Try.prog w = .ok (.enter fid args) w) ∧
    ∀ (W : World) (B : Nat) (v : Value) (l : List Nat) (a : Nat), Below w.heap.size w W → w.heap.size ≤ B → B ≤ W.heap.size → OwnW W B v l → sqOk t l.length → (∀ x ∈ l, x < 18446744073709551616) → a < 18446744073709551616 →
      Calls Try.prog fid (v :: .int .u64 (a : Int) :: ex).toArray W (EffP B W (sqDo t k l a))

/-- what find leaves: a type of 2 operations -/
def Find2 (t : Nat) (W : World) (e : Ending) (w' : World) : Prop :=
  ∃ (g0 : Nat) (e0 : List Value) (g1 : Nat) (e1 : List Value), e = .returned (.tuple #[.agg #[.int .i64 (sqLo t : Int), .int .i64 (sqHi t : Int), .func (.func g0) #[] e0.toArray, .func (.func g1) #[] e1.toArray, .nilFunc], .bool true]) ∧ EffK w' t 0 g0 e0 ∧ EffK w' t 1 g1 e1 ∧ Below W.heap.size W w'
theorem find2_any (t : Nat) (ht : t ≤ 7) (hN : sqN t = 2) (w : World) : Calls Try.prog 16 #[.int .i64 (t : Int)] w (Find2 t w) := by
  refine (find_any t ht w).mono ?_
  rintro e w' ⟨s, rfl, ⟨f0, f1, f2, rfl, ⟨g0, e0, rfl, h0⟩, ⟨g1, e1, rfl, h1⟩, h2⟩, hb⟩
  rw [hN] at h2
  rw [if_neg (by decide)] at h2
  subst h2
  exact ⟨g0, e0, g1, e1, rfl, h0, h1, hb⟩

/-- what find leaves: a type of 3 operations -/
def Find3 (t : Nat) (W : World) (e : Ending) (w' : World) : Prop :=
  ∃ (g0 : Nat) (e0 : List Value) (g1 : Nat) (e1 : List Value) (g2 : Nat) (e2 : List Value), e = .returned (.tuple #[.agg #[.int .i64 (sqLo t : Int), .int .i64 (sqHi t : Int), .func (.func g0) #[] e0.toArray, .func (.func g1) #[] e1.toArray, .func (.func g2) #[] e2.toArray], .bool true]) ∧ EffK w' t 0 g0 e0 ∧ EffK w' t 1 g1 e1 ∧ EffK w' t 2 g2 e2 ∧ Below W.heap.size W w'
theorem find3_any (t : Nat) (ht : t ≤ 7) (hN : sqN t = 3) (w : World) : Calls Try.prog 16 #[.int .i64 (t : Int)] w (Find3 t w) := by
  refine (find_any t ht w).mono ?_
  rintro e w' ⟨s, rfl, ⟨f0, f1, f2, rfl, ⟨g0, e0, rfl, h0⟩, ⟨g1, e1, rfl, h1⟩, h2⟩, hb⟩
  rw [hN] at h2
  rw [if_pos rfl] at h2
  obtain ⟨g2, e2, rfl, h2⟩ := h2
  exact ⟨g0, e0, g1, e1, g2, e2, rfl, h0, h1, h2, hb⟩

set_option maxHeartbeats 400000 in
theorem kinds2_any (lo hi : Nat) (g0 : Nat) (e0 : List Value) (g1 : Nat) (e1 : List Value) (w : World) :
    Calls Try.prog 17 #[.agg #[.int .i64 (lo : Int), .int .i64 (hi : Int), .func (.func g0) #[] e0.toArray, .func (.func g1) #[] e1.toArray, .nilFunc]] w fun e w' => e = .returned (.int .i64 2) ∧ Below w.heap.size w w' := by
  have qF := run_eql_func
  have qN := run_eql_nilF
  go_enter Try.func17, Try.ntmps17
  go_wp2_with fail
  go_ret
  exact ⟨rfl, (Below.refl _ _).alloc (Nat.le_refl _) _⟩
set_option maxHeartbeats 400000 in
theorem kinds3_any (lo hi : Nat) (g0 : Nat) (e0 : List Value) (g1 : Nat) (e1 : List Value) (g2 : Nat) (e2 : List Value) (w : World) :
    Calls Try.prog 17 #[.agg #[.int .i64 (lo : Int), .int .i64 (hi : Int), .func (.func g0) #[] e0.toArray, .func (.func g1) #[] e1.toArray, .func (.func g2) #[] e2.toArray]] w fun e w' => e = .returned (.int .i64 3) ∧ Below w.heap.size w w' := by
  have qF := run_eql_func
  have qN := run_eql_nilF
  go_enter Try.func17, Try.ntmps17
  go_wp2_with fail
  go_ret
  exact ⟨rfl, (Below.refl _ _).alloc (Nat.le_refl _) _⟩
set_option maxHeartbeats 400000 in
theorem right_any (lo hi : Nat) (f0 f1 f2 v : Value) (l : List Nat) (w : World) (h : ArgW w v l) (hl : l.length ≤ 9223372036854775807) :
    Calls Try.prog 18 #[.agg #[.int .i64 (lo : Int), .int .i64 (hi : Int), f0, f1, f2], v] w fun e w' => e = .returned (.bool (decide (lo ≤ l.length) && decide (l.length ≤ hi))) ∧ Below w.heap.size w w' := by
  obtain ⟨ao, cap, rfl⟩ := h.isSlice
  clear h
  generalize l.length = n at *
  by_cases h1 : lo ≤ n
  · by_cases h2 : n ≤ hi
    · go_enter Try.func18, Try.ntmps18
      go_wp2_with fail
      go_ret
      exact ⟨ret_bool (by simp [h1, h2]), (Below.refl _ _).alloc (Nat.le_refl _) _⟩
    · go_enter Try.func18, Try.ntmps18
      go_wp2_with fail
      go_ret
      exact ⟨ret_bool (by simp [h1]; omega), (Below.refl _ _).alloc (Nat.le_refl _) _⟩
  · go_enter Try.func18, Try.ntmps18
    go_wp2_with fail
    go_ret
    exact ⟨ret_bool (by simp [h1]), (Below.refl _ _).alloc (Nat.le_refl _) _⟩

set_option maxHeartbeats 400000 in
theorem effect_any (z : Value) (lo hi : Int) (f0 f1 f2 : Value) (k : Int) (w : World) (hk : k = 0 ∧ z = f0 ∨ k = 1 ∧ z = f1 ∨ k = 2 ∧ z = f2 ∨ (k < 0 ∨ 2 < k) ∧ z = .nilFunc) :
    Calls Try.prog 20 #[.agg #[.int .i64 lo, .int .i64 hi, f0, f1, f2], .int .i64 k] w fun e w' => e = .returned z ∧ Below w.heap.size w w' := by
  rcases hk with ⟨rfl, rfl⟩ | ⟨rfl, rfl⟩ | ⟨rfl, rfl⟩ | ⟨hk, rfl⟩
  · go_enter Try.func20, Try.ntmps20
    go_wp2_with fail
    go_ret
    exact ⟨rfl, (Below.refl _ _).alloc (Nat.le_refl _) _⟩
  · go_enter Try.func20, Try.ntmps20
    go_wp2_with fail
    go_ret
    exact ⟨rfl, (Below.refl _ _).alloc (Nat.le_refl _) _⟩
  · go_enter Try.func20, Try.ntmps20
    go_wp2_with fail
    go_ret
    exact ⟨rfl, (Below.refl _ _).alloc (Nat.le_refl _) _⟩
  · have n0 : ¬ k = 0 := by omega
    have n1 : ¬ k = 1 := by omega
    have n2 : ¬ k = 2 := by omega
    clear hk
    go_enter Try.func20, Try.ntmps20
    go_wp2_with fail
    go_ret
    exact ⟨rfl, (Below.refl _ _).alloc (Nat.le_refl _) _⟩

set_option maxHeartbeats 400000 in
theorem seqKinds_any (t : Int) (w : World) :
    Calls Try.prog 6 #[.int .i64 t] w fun e w' => e = .returned (.int .i64 (sqKinds t : Int)) ∧ Below w.heap.size w w' := by
  by_cases h : 0 ≤ t ∧ t ≤ 7
  · obtain ⟨n, rfl⟩ : ∃ n : Nat, t = n := ⟨t.toNat, by omega⟩
    have hn : n ≤ 7 := by omega
    have hN : sqN n = 3 ∨ sqN n = 2 := by unfold sqN; split <;> omega
    have hlo := sqLo_le n
    have hhi := sqHi_le n
    unfold sqKinds
    rw [sqIs_yes h, if_pos rfl, Int.toNat_natCast]
    clear h
    rcases hN with hN | hN
    · have HF := Lib.hid (fun w => find3_any n hn hN w)
      rw [hN]
      unfold Find3 at HF
      generalize sqLo n = lo at *
      generalize sqHi n = hi at *
      go_enter Try.func6, Try.ntmps6
      go_wp2_with (first
        | (go_at_call 16; refine (HF.out _).mono ?_; rintro e w5 ⟨g0, e0, g1, e1, g2, e2, rfl, hk0, hk1, hk2, hb⟩; (have HB := Lib.hid hb); (have HK0 := Lib.hid hk0); (have HK1 := Lib.hid hk1); (have HK2 := Lib.hid hk2); clear hb hk0 hk1 hk2)
        | (go_at_call 17; refine (kinds3_any lo hi _ _ _ _ _ _ _).mono ?_; rintro e w6 ⟨rfl, hb⟩; (have HB6 := Lib.hid hb); clear hb))
      go_ret
      exact ⟨rfl, (HB.out.alloc HB.out.size _).trans (HB6.out.mono (by have := HB.out.size; simp; omega))⟩
    · have HF := Lib.hid (fun w => find2_any n hn hN w)
      rw [hN]
      unfold Find2 at HF
      generalize sqLo n = lo at *
      generalize sqHi n = hi at *
      go_enter Try.func6, Try.ntmps6
      go_wp2_with (first
        | (go_at_call 16; refine (HF.out _).mono ?_; rintro e w5 ⟨g0, e0, g1, e1, rfl, hk0, hk1, hb⟩; (have HB := Lib.hid hb); (have HK0 := Lib.hid hk0); (have HK1 := Lib.hid hk1); clear hb hk0 hk1)
        | (go_at_call 17; refine (kinds2_any lo hi _ _ _ _ _).mono ?_; rintro e w6 ⟨rfl, hb⟩; (have HB6 := Lib.hid hb); clear hb))
      go_ret
      exact ⟨rfl, (HB.out.alloc HB.out.size _).trans (HB6.out.mono (by have := HB.out.size; simp; omega))⟩
  · unfold sqKinds
    rw [sqIs_no h, if_neg (by simp)]
    have HF := Lib.hid (fun w => find_none t w h)
    clear h
    go_enter Try.func6, Try.ntmps6
    go_wp2_with (go_at_call 16; refine (HF.out _).mono ?_; rintro e w5 ⟨rfl, hb⟩; (have HB := Lib.hid hb); clear hb)
    go_ret
    exact ⟨rfl, HB.out.alloc HB.out.size _⟩

theorem made_own (w : World) (n B b : Nat) (hb : b = w.heap.size) (hn : n ≤ 4294967296) (hB : B ≤ w.heap.size) : OwnW (w.alloc (.cells (Array.replicate n (wU 0)) 29)) B (.slice (some ⟨b, 0, none⟩) n n) (List.replicate n 0) := by
  subst hb
  unfold OwnW
  rw [List.length_replicate]
  have := World.ownsRow_lit (base := B) (e := 29) (size := 1) w (Array.replicate n (wU 0)) n hB (by unfold maxLen; omega) (by simp)
  simpa using this
theorem run_mkW (n : Nat) (hn : n ≤ 4294967296) (w : World) : (Instr.makeSlice 22 (.int .i64 (n : Int)) (.int .i64 (n : Int))).run Try.prog w = .ok (.slice (some ⟨w.heap.size, 0, none⟩) n n) (w.alloc (.cells (Array.replicate n (wU 0)) 29)) := by
  obtain ⟨i0, hi, hz0, hz1, hz2⟩ := info_parts info22
  have h := run_make (P := Try.prog) w 22 29 i0 (.int .u64 0) Try.underlying22 hi hz0 .i64 .i64 n n (by omega) (by omega) (by rw [hz2]; omega) (by omega)
  simp only [Int.toNat_natCast] at h
  have e : madeCells (Value.int .u64 0).cells n = Array.replicate n (wU 0) := by
    apply Array.ext'
    rw [Array.toList_replicate]
    exact toList_madeCells_one (.int .u64 0) n
  rw [h, hz1, Nat.mul_one, e]

set_option maxHeartbeats 400000 in
theorem seqNew_any (t : Int) (w : World) :
    Calls Try.prog 9 #[.int .i64 t] w (GivesW (if sqIs t then List.replicate (sqLo t.toNat) 0 else []) w) := by
  by_cases h : 0 ≤ t ∧ t ≤ 7
  · obtain ⟨n, rfl⟩ : ∃ n : Nat, t = n := ⟨t.toNat, by omega⟩
    have hn : n ≤ 7 := by omega
    have hN : sqN n = 3 ∨ sqN n = 2 := by unfold sqN; split <;> omega
    have hlo := sqLo_le n
    rw [sqIs_yes h, if_pos rfl, Int.toNat_natCast]
    have HM := run_mkW (sqLo n) (by omega)
    clear h
    rcases hN with hN | hN
    · have HF := Lib.hid (fun w => find3_any n hn hN w)
      unfold Find3 at HF
      generalize sqLo n = lo at *
      generalize sqHi n = hi at *
      go_enter Try.func9, Try.ntmps9
      go_wp2_with (go_at_call 16; refine (HF.out _).mono ?_; rintro e w5 ⟨g0, e0, g1, e1, g2, e2, rfl, hk0, hk1, hk2, hb⟩; (have HB := Lib.hid hb); (have HK0 := Lib.hid hk0); (have HK1 := Lib.hid hk1); (have HK2 := Lib.hid hk2); clear hb hk0 hk1 hk2)
      go_ret
      have hsz : w.heap.size ≤ w5.heap.size := HB.out.size
      refine ⟨_, rfl, made_own (w5.alloc _) lo _ _ (by simp) (by omega) (by simp; omega), (HB.out.alloc hsz _).alloc (by first | omega | (simp; omega)) _⟩
    · have HF := Lib.hid (fun w => find2_any n hn hN w)
      unfold Find2 at HF
      generalize sqLo n = lo at *
      generalize sqHi n = hi at *
      go_enter Try.func9, Try.ntmps9
      go_wp2_with (go_at_call 16; refine (HF.out _).mono ?_; rintro e w5 ⟨g0, e0, g1, e1, rfl, hk0, hk1, hb⟩; (have HB := Lib.hid hb); (have HK0 := Lib.hid hk0); (have HK1 := Lib.hid hk1); clear hb hk0 hk1)
      go_ret
      have hsz : w.heap.size ≤ w5.heap.size := HB.out.size
      refine ⟨_, rfl, made_own (w5.alloc _) lo _ _ (by simp) (by omega) (by simp; omega), (HB.out.alloc hsz _).alloc (by first | omega | (simp; omega)) _⟩
  · rw [sqIs_no h, if_neg (by simp)]
    have HF := Lib.hid (fun w => find_none t w h)
    clear h
    go_enter Try.func9, Try.ntmps9
    go_wp2_with (go_at_call 16; refine (HF.out _).mono ?_; rintro e w5 ⟨rfl, hb⟩; (have HB := Lib.hid hb); clear hb)
    go_ret
    exact ⟨_, rfl, OwnW.nil _ _, HB.out.alloc HB.out.size _⟩

set_option maxHeartbeats 400000 in
theorem seqRight_any (t : Int) (v : Value) (l : List Nat) (w : World) (ha : ArgW w v l) (hl : l.length ≤ 9223372036854775807) :
    Calls Try.prog 11 #[.int .i64 t, v] w fun e w' => e = .returned (.bool (sqRight t l)) ∧ Below w.heap.size w w' := by
  by_cases h : 0 ≤ t ∧ t ≤ 7
  · obtain ⟨n, rfl⟩ : ∃ n : Nat, t = n := ⟨t.toNat, by omega⟩
    have hn : n ≤ 7 := by omega
    have hN : sqN n = 3 ∨ sqN n = 2 := by unfold sqN; split <;> omega
    unfold sqRight
    rw [sqIs_yes h, Bool.true_and, Int.toNat_natCast]
    have HA := Lib.hid ha
    have hlo := sqLo_le n
    have hhi := sqHi_le n
    have HR := Lib.hid (fun lo hi f0 f1 f2 W (h : ArgW W v l) => right_any lo hi f0 f1 f2 v l W h hl)
    clear h ha
    rcases hN with hN | hN
    · have HF := Lib.hid (fun w => find3_any n hn hN w)
      unfold Find3 at HF
      generalize sqLo n = lo at *
      generalize sqHi n = hi at *
      have HR2 := Lib.hid (HR.out lo hi)
      generalize (decide (lo ≤ l.length) && decide (l.length ≤ hi)) = d at *
      go_enter Try.func11, Try.ntmps11
      go_wp2_with (first
        | (go_at_call 16; refine (HF.out _).mono ?_; rintro e w5 ⟨g0, e0, g1, e1, g2, e2, rfl, hk0, hk1, hk2, hb⟩; (have HB := Lib.hid hb); (have HA5 : Hid (ArgW (w5.alloc (Obj.cells #[Value.int .i64 (lo : Int), .int .i64 (hi : Int), .func (.func g0) #[] e0.toArray, .func (.func g1) #[] e1.toArray, .func (.func g2) #[] e2.toArray] 43)) v l) := Lib.hid (ArgW.alloc (HA.out.below hb) _)); (have HK0 := Lib.hid hk0); (have HK1 := Lib.hid hk1); (have HK2 := Lib.hid hk2); clear hb hk0 hk1 hk2)
        | (go_at_call 18; refine (HR2.out _ _ _ _ HA5.out).mono ?_; rintro e w6 ⟨rfl, hb⟩; (have HB6 := Lib.hid hb); clear hb))
      go_ret
      exact ⟨rfl, (HB.out.alloc HB.out.size _).trans (HB6.out.mono (by have := HB.out.size; simp; omega))⟩
    · have HF := Lib.hid (fun w => find2_any n hn hN w)
      unfold Find2 at HF
      generalize sqLo n = lo at *
      generalize sqHi n = hi at *
      have HR2 := Lib.hid (HR.out lo hi)
      generalize (decide (lo ≤ l.length) && decide (l.length ≤ hi)) = d at *
      go_enter Try.func11, Try.ntmps11
      go_wp2_with (first
        | (go_at_call 16; refine (HF.out _).mono ?_; rintro e w5 ⟨g0, e0, g1, e1, rfl, hk0, hk1, hb⟩; (have HB := Lib.hid hb); (have HA5 : Hid (ArgW (w5.alloc (Obj.cells #[Value.int .i64 (lo : Int), .int .i64 (hi : Int), .func (.func g0) #[] e0.toArray, .func (.func g1) #[] e1.toArray, .nilFunc] 43)) v l) := Lib.hid (ArgW.alloc (HA.out.below hb) _)); (have HK0 := Lib.hid hk0); (have HK1 := Lib.hid hk1); clear hb hk0 hk1)
        | (go_at_call 18; refine (HR2.out _ _ _ _ HA5.out).mono ?_; rintro e w6 ⟨rfl, hb⟩; (have HB6 := Lib.hid hb); clear hb))
      go_ret
      exact ⟨rfl, (HB.out.alloc HB.out.size _).trans (HB6.out.mono (by have := HB.out.size; simp; omega))⟩
  · unfold sqRight
    rw [sqIs_no h, Bool.false_and]
    have HF := Lib.hid (fun w => find_none t w h)
    clear h
    go_enter Try.func11, Try.ntmps11
    go_wp2_with (go_at_call 16; refine (HF.out _).mono ?_; rintro e w5 ⟨rfl, hb⟩; (have HB := Lib.hid hb); clear hb)
    go_ret
    exact ⟨rfl, HB.out.alloc HB.out.size _⟩

/-- a state as it is given, and an error -/
def ApP (W : World) (r : List Nat × Nat × Nat) (e : Ending) (w' : World) : Prop :=
  ∃ v', e = .returned (.tuple #[v', .agg #[.int .i64 (r.2.2 : Int), .int .u64 (r.2.1 : Int), .slice none 0 0]]) ∧ OwnW w' W.heap.size v' r.1 ∧ Below W.heap.size W w'
set_option maxHeartbeats 400000 in
theorem refuse_any (v : Value) (l : List Nat) (k : Nat) (w : World) (h : ArgW w v l) (hl : l.length ≤ 4294967296) :
    Calls Try.prog 19 #[v, .int .i64 (k : Int)] w (ApP w (l, 0, k)) := by
  have HC : Hid (∀ W, ArgW W v l → Calls Try.prog 21 #[v] W (GivesW l W)) := Lib.hid (fun W h => clone_own v l W h hl)
  have HA := Lib.hid (h.alloc (.cells #[.int .i64 0, .int .u64 0, .slice none 0 0] 32))
  clear h
  go_enter Try.func19, Try.ntmps19
  go_wp2_with (go_at_call 21; refine (HC.out _ HA.out).mono ?_; rintro e w5 ⟨v5, rfl, ho, hb⟩; (have hbk : w5.heap[w.heap.size]? = some (.cells #[.int .i64 0, .int .u64 0, .slice none 0 0] 32 (0, 0)) := (hb.block _ (by simp)).trans (heap_alloc_new _ _)); (have k0 := cell_of_blk (k := 0) hbk rfl); (have k1 := cell_of_blk (k := 1) hbk rfl); (have k2 := cell_of_blk (k := 2) hbk rfl); (have z0 := free_of_blk (k := 0) hbk); (have z1 := free_of_blk (k := 1) hbk); (have z2 := free_of_blk (k := 2) hbk); (have HO := Lib.hid ho); (have HB := Lib.hid hb); clear hb hbk ho)
  have HB2 : Below w.heap.size w w5 := ((Below.refl _ _).alloc (Nat.le_refl _) _).trans (HB.out.mono (by simp))
  have ho : OwnW w5 (w.heap.size + 1) v5 l := by have := HO.out; simpa using this
  refine bodyPost_ret (v := .tuple #[v5, .agg #[.int .i64 (k : Int), .int .u64 0, .slice none 0 0]]) (by simp [results, Try.results19, go_sem, k0, k1, k2]) rfl ⟨_, rfl, ?_, ?_⟩
  · exact (((ho.other _ (ho.lt (a := ⟨w.heap.size, 0, none⟩) (by simp))).other _ (ho.lt (a := ⟨w.heap.size, 1, none⟩) (by simp))).other _ (ho.lt (a := ⟨w.heap.size, 2, none⟩) (by simp))).mono (by omega)
  · exact ((HB2.setCell (p := ⟨w.heap.size, 0, none⟩) (Nat.le_refl _) _).setCell (p := ⟨w.heap.size, 1, none⟩) (Nat.le_refl _) _).setCell (p := ⟨w.heap.size, 2, none⟩) (Nat.le_refl _) _
end Go.Proofs.Ytlcnhmijagddgaa
