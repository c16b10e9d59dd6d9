/- Any access, of the memory and of the reference: both by one plain step. -/
import Derived.Test.YtehcfflofacapaaN6
namespace Go.Proofs.Ytehcfflofacapaa
open Go.RowKit
set_option linter.unusedVariables false

/-- an access: the answer, the words, the counts -/
def stepA (k a : Int) (x y : Nat) (l : List Nat) (c : Cn) : Nat × List Nat × Cn :=
  if a < 0 ∨ (l.length : Int) ≤ a then (0, l, { c with f := c.f + 1 })
  else if k = 0 then (l.getD a.toNat 0, l, { c with r := c.r + 1 })
  else if k = 1 then (0, l.set a.toNat x, { c with w := c.w + 1 })
  else if k = 2 then if l.getD a.toNat 0 = x then (1, l.set a.toNat y, { c with s := c.s + 1 }) else (0, l, { c with s := c.s + 1 })
  else (l.getD a.toNat 0, l.set a.toNat ((l.getD a.toNat 0 + x) % 18446744073709551616), { c with a := c.a + 1 })

def Cn.le (c : Cn) (n : Nat) : Prop := c.r ≤ n ∧ c.w ≤ n ∧ c.s ≤ n ∧ c.a ≤ n ∧ c.f ≤ n
theorem stepA_len (k a : Int) (x y : Nat) (l : List Nat) (c : Cn) : (stepA k a x y l c).2.1.length = l.length := by
  unfold stepA
  repeat' split
  all_goals simp
theorem stepA_le (k a : Int) (x y : Nat) (l : List Nat) (c : Cn) (n : Nat) (h : c.le n) : (stepA k a x y l c).2.2.le (n + 1) := by
  obtain ⟨h1, h2, h3, h4, h5⟩ := h
  unfold stepA Cn.le
  split
  · simp only; omega
  · split
    · simp only; omega
    · split
      · simp only; omega
      · split
        · split <;> (simp only; omega)
        · simp only; omega
theorem step_fault {k a : Int} {x y : Nat} {l : List Nat} {c : Cn} (h : a < 0 ∨ (l.length : Int) ≤ a) : stepA k a x y l c = (0, l, { c with f := c.f + 1 }) := by
  unfold stepA; rw [if_pos h]
section
variable {i x y v : Nat} {l : List Nat} {c : Cn}
theorem step_read (h : l[i]? = some v) : stepA 0 i x y l c = (v, l, { c with r := c.r + 1 }) := by
  have hl := (List.getElem?_eq_some_iff.1 h).1
  unfold stepA; rw [if_neg (by omega), if_pos rfl]; simp [List.getD, h]
theorem step_write (h : l[i]? = some v) : stepA 1 i x y l c = (0, l.set i x, { c with w := c.w + 1 }) := by
  have hl := (List.getElem?_eq_some_iff.1 h).1
  unfold stepA; rw [if_neg (by omega), if_neg (by omega), if_pos rfl]; simp
theorem step_hit (h : l[i]? = some x) : stepA 2 i x y l c = (1, l.set i y, { c with s := c.s + 1 }) := by
  have hl := (List.getElem?_eq_some_iff.1 h).1
  unfold stepA; rw [if_neg (by omega), if_neg (by omega), if_neg (by omega), if_pos rfl, if_pos (by simp [List.getD, h])]; simp
theorem step_miss (h : l[i]? = some v) (hv : v ≠ x) : stepA 2 i x y l c = (0, l, { c with s := c.s + 1 }) := by
  have hl := (List.getElem?_eq_some_iff.1 h).1
  unfold stepA; rw [if_neg (by omega), if_neg (by omega), if_neg (by omega), if_pos rfl, if_neg (by simp [List.getD, h]; exact hv)]
theorem step_add {k : Int} (h : l[i]? = some v) (h0 : k ≠ 0) (h1 : k ≠ 1) (h2 : k ≠ 2) : stepA k i x y l c = (v, l.set i ((v + x) % 18446744073709551616), { c with a := c.a + 1 }) := by
  have hl := (List.getElem?_eq_some_iff.1 h).1
  unfold stepA; rw [if_neg (by omega), if_neg h0, if_neg h1, if_neg h2]; simp [List.getD, h]
end

/-- ANY ACCESS OF THE REFERENCE -/
theorem racc_any (br g cap : Nat) (k a : Int) (x y : Nat) (l : List Nat) (c : Cn) (w : World) (hM : RefIs w br g cap l c) (hn : l.length ≤ 65536) (n : Nat) (hc : c.le n) (hN : n < 9223372036854775807) :
    Calls Try.prog 24 #[.pointer (some ⟨br, 0, none⟩), .int .i64 k, .int .i64 a, .int .u64 x, .int .u64 y] w (LeftR (.int .u64 (stepA k a x y l c).1) br g cap (stepA k a x y l c).2.1 (stepA k a x y l c).2.2 w) := by
  obtain ⟨h1, h2, h3, h4, h5⟩ := hc
  by_cases hf : a < 0 ∨ (l.length : Int) ≤ a
  · rw [step_fault hf]
    exact racc_fault br g cap k a x y l c w hM hn hf (by omega)
  · obtain ⟨i, rfl⟩ : ∃ t : Nat, a = t := ⟨a.toNat, by omega⟩
    have hl : i < l.length := by omega
    have hv := List.getElem?_eq_getElem hl
    by_cases k0 : k = 0
    · subst k0
      rw [step_read hv]
      exact racc_read br g cap i _ x y l c w hM hv hn (by omega)
    · by_cases k1 : k = 1
      · subst k1
        rw [step_write hv]
        exact racc_write br g cap i _ x y l c w hM hv hn (by omega)
      · by_cases k2 : k = 2
        · subst k2
          by_cases hx : l[i] = x
          · subst hx
            rw [step_hit hv]
            exact racc_hit br g cap i _ y l c w hM hv hn (by omega)
          · rw [step_miss hv hx]
            exact racc_miss br g cap i _ x y l c w hM hv hn (by omega) hx
        · rw [step_add hv k0 k1 k2]
          exact racc_add br g cap i _ x y k l c w hM hv hn (by omega) k0 k1 k2

set_option maxHeartbeats 400000 in
theorem do_fault (bm bw : Nat) (k a : Int) (x y : Nat) (l : List Nat) (c : Cn) (w : World) (hM : MemIs 72 w bm bw l c) (hn : l.length ≤ 65536) (hf : a < 0 ∨ (l.length : Int) ≤ a) (h1a : -9223372036854775808 ≤ a) (h1b : a ≤ 9223372036854775807) (hc : c.f < 9223372036854775807) :
    Calls Try.prog 23 #[.pointer (some ⟨bm, 0, none⟩), .agg #[.int .i64 k, .int .i64 a, .int .u64 x, .int .u64 y]] w (Left1 (.int .u64 0) bm bw l { c with f := c.f + 1 } w) := by
  have HM := Lib.hid hM
  have HF := Lib.hid hf
  clear hM hf
  by_cases k0 : k = 0
  · subst k0
    go_enter Try.func23, Try.ntmps23
    go_wp2_with fail
    refine (read_fault bm bw a l c _ (HM.out.alloc _) hn HF.out h1a h1b hc).mono ?_
    rintro e w1 ⟨rfl, hm, hb⟩
    go_wp2_with fail
    go_ret
    exact ⟨rfl, hm, ((But.refl _ _ _).alloc _).trans hb⟩
  · by_cases k1 : k = 1
    · subst k1
      go_enter Try.func23, Try.ntmps23
      go_wp2_with fail
      refine (write_fault bm bw a x l c _ (HM.out.alloc _) hn HF.out h1a h1b hc).mono ?_
      rintro e w1 ⟨rfl, hm, hb⟩
      go_wp2_with fail
      go_ret
      exact ⟨rfl, hm, ((But.refl _ _ _).alloc _).trans hb⟩
    · by_cases k2 : k = 2
      · subst k2
        go_enter Try.func23, Try.ntmps23
        go_wp2_with fail
        refine (swap_fault bm bw a x y l c _ (HM.out.alloc _) hn HF.out h1a h1b hc).mono ?_
        rintro e w1 ⟨rfl, hm, hb⟩
        go_wp2_with fail
        go_ret
        exact ⟨rfl, hm, ((But.refl _ _ _).alloc _).trans hb⟩
      · have e0 : (k == 0) = false := by simp; omega
        have e1 : (k == 1) = false := by simp; omega
        have e2 : (k == 2) = false := by simp; omega
        go_enter Try.func23, Try.ntmps23
        go_wp2_with fail
        refine (add_fault bm bw a x l c _ (HM.out.alloc _) hn HF.out h1a h1b hc).mono ?_
        rintro e w1 ⟨rfl, hm, hb⟩
        go_wp2_with fail
        go_ret
        exact ⟨rfl, hm, ((But.refl _ _ _).alloc _).trans hb⟩

set_option maxHeartbeats 400000 in
theorem do_read (bm bw i v x y : Nat) (l : List Nat) (c : Cn) (w : World) (hM : MemIs 72 w bm bw l c) (hi : l[i]? = some v) (hn : l.length ≤ 65536) (hc : c.r < 9223372036854775807) :
    Calls Try.prog 23 #[.pointer (some ⟨bm, 0, none⟩), .agg #[.int .i64 0, .int .i64 i, .int .u64 x, .int .u64 y]] w (Left1 (.int .u64 v) bm bw l { c with r := c.r + 1 } w) := by
  have hil : i < l.length := (List.getElem?_eq_some_iff.1 hi).1
  have HM := Lib.hid hM
  have HI := Lib.hid hi
  clear hM hi
  go_enter Try.func23, Try.ntmps23
  go_wp2_with fail
  refine (read_ok bm bw i v l c _ (HM.out.alloc _) HI.out hn hc).mono ?_
  rintro e w1 ⟨rfl, hm, hb⟩
  go_wp2_with fail
  go_ret
  exact ⟨rfl, hm, ((But.refl _ _ _).alloc _).trans hb⟩

set_option maxHeartbeats 400000 in
theorem do_write (bm bw i v x y : Nat) (l : List Nat) (c : Cn) (w : World) (hM : MemIs 72 w bm bw l c) (hi : l[i]? = some v) (hn : l.length ≤ 65536) (hc : c.w < 9223372036854775807) :
    Calls Try.prog 23 #[.pointer (some ⟨bm, 0, none⟩), .agg #[.int .i64 1, .int .i64 i, .int .u64 x, .int .u64 y]] w (Left1 (.int .u64 0) bm bw (l.set i x) { c with w := c.w + 1 } w) := by
  have hil : i < l.length := (List.getElem?_eq_some_iff.1 hi).1
  have HM := Lib.hid hM
  have HI := Lib.hid hi
  clear hM hi
  go_enter Try.func23, Try.ntmps23
  go_wp2_with fail
  refine (write_ok bm bw i v x l c _ (HM.out.alloc _) HI.out hn hc).mono ?_
  rintro e w1 ⟨rfl, hm, hb⟩
  go_wp2_with fail
  go_ret
  exact ⟨rfl, hm, ((But.refl _ _ _).alloc _).trans hb⟩

set_option maxHeartbeats 400000 in
theorem do_hit (bm bw i v x y : Nat) (l : List Nat) (c : Cn) (w : World) (hM : MemIs 72 w bm bw l c) (hi : l[i]? = some v) (hn : l.length ≤ 65536) (hc : c.s < 9223372036854775807) (hv : v = x) :
    Calls Try.prog 23 #[.pointer (some ⟨bm, 0, none⟩), .agg #[.int .i64 2, .int .i64 i, .int .u64 x, .int .u64 y]] w (Left1 (.int .u64 1) bm bw (l.set i y) { c with s := c.s + 1 } w) := by
  have hil : i < l.length := (List.getElem?_eq_some_iff.1 hi).1
  have HM := Lib.hid hM
  have HI := Lib.hid hi
  clear hM hi
  subst hv
  go_enter Try.func23, Try.ntmps23
  go_wp2_with fail
  refine (swap_hit bm bw i v y l c _ (HM.out.alloc _) HI.out hn hc).mono ?_
  rintro e w1 ⟨rfl, hm, hb⟩
  go_wp2_with fail
  go_ret
  exact ⟨rfl, hm, ((But.refl _ _ _).alloc _).trans hb⟩

set_option maxHeartbeats 400000 in
theorem do_miss (bm bw i v x y : Nat) (l : List Nat) (c : Cn) (w : World) (hM : MemIs 72 w bm bw l c) (hi : l[i]? = some v) (hn : l.length ≤ 65536) (hc : c.s < 9223372036854775807) (hv : v ≠ x) :
    Calls Try.prog 23 #[.pointer (some ⟨bm, 0, none⟩), .agg #[.int .i64 2, .int .i64 i, .int .u64 x, .int .u64 y]] w (Left1 (.int .u64 0) bm bw l { c with s := c.s + 1 } w) := by
  have hil : i < l.length := (List.getElem?_eq_some_iff.1 hi).1
  have HM := Lib.hid hM
  have HI := Lib.hid hi
  clear hM hi
  have HV := Lib.hid hv
  clear hv
  go_enter Try.func23, Try.ntmps23
  go_wp2_with fail
  refine (swap_miss bm bw i v x y l c _ (HM.out.alloc _) HI.out hn hc HV.out).mono ?_
  rintro e w1 ⟨rfl, hm, hb⟩
  go_wp2_with fail
  go_ret
  exact ⟨rfl, hm, ((But.refl _ _ _).alloc _).trans hb⟩

set_option maxHeartbeats 400000 in
theorem do_add (bm bw i v x y : Nat) (k : Int) (l : List Nat) (c : Cn) (w : World) (hM : MemIs 72 w bm bw l c) (hi : l[i]? = some v) (hn : l.length ≤ 65536) (hc : c.a < 9223372036854775807) (k0 : k ≠ 0) (k1 : k ≠ 1) (k2 : k ≠ 2) :
    Calls Try.prog 23 #[.pointer (some ⟨bm, 0, none⟩), .agg #[.int .i64 k, .int .i64 i, .int .u64 x, .int .u64 y]] w (Left1 (.int .u64 v) bm bw (l.set i ((v + x) % 18446744073709551616)) { c with a := c.a + 1 } w) := by
  have hil : i < l.length := (List.getElem?_eq_some_iff.1 hi).1
  have HM := Lib.hid hM
  have HI := Lib.hid hi
  clear hM hi
  have e0 : (k == 0) = false := by simp; omega
  have e1 : (k == 1) = false := by simp; omega
  have e2 : (k == 2) = false := by simp; omega
  clear k0 k1 k2
  go_enter Try.func23, Try.ntmps23
  go_wp2_with fail
  refine (add_ok bm bw i v x l c _ (HM.out.alloc _) HI.out hn hc).mono ?_
  rintro e w1 ⟨rfl, hm, hb⟩
  go_wp2_with fail
  go_ret
  exact ⟨rfl, hm, ((But.refl _ _ _).alloc _).trans hb⟩

/-- ANY ACCESS OF THE MEMORY -/
theorem do_any (bm bw : Nat) (k a : Int) (x y : Nat) (l : List Nat) (c : Cn) (w : World) (hM : MemIs 72 w bm bw l c) (hn : l.length ≤ 65536) (n : Nat) (hc : c.le n) (hN : n < 9223372036854775807) (ha : -9223372036854775808 ≤ a ∧ a ≤ 9223372036854775807) :
    Calls Try.prog 23 #[.pointer (some ⟨bm, 0, none⟩), .agg #[.int .i64 k, .int .i64 a, .int .u64 x, .int .u64 y]] w (Left1 (.int .u64 (stepA k a x y l c).1) bm bw (stepA k a x y l c).2.1 (stepA k a x y l c).2.2 w) := by
  obtain ⟨h1, h2, h3, h4, h5⟩ := hc
  by_cases hf : a < 0 ∨ (l.length : Int) ≤ a
  · rw [step_fault hf]
    exact do_fault bm bw k a x y l c w hM hn hf ha.1 ha.2 (by omega)
  · obtain ⟨i, rfl⟩ : ∃ t : Nat, a = t := ⟨a.toNat, by omega⟩
    have hl : i < l.length := by omega
    have hv := List.getElem?_eq_getElem hl
    by_cases k0 : k = 0
    · subst k0
      rw [step_read hv]
      exact do_read bm bw i _ x y l c w hM hv hn (by omega)
    · by_cases k1 : k = 1
      · subst k1
        rw [step_write hv]
        exact do_write bm bw i _ x y l c w hM hv hn (by omega)
      · by_cases k2 : k = 2
        · subst k2
          by_cases hx : l[i] = x
          · rw [step_hit (by rw [hv, hx])]
            exact do_hit bm bw i _ x y l c w hM hv hn (by omega) hx
          · rw [step_miss hv hx]
            exact do_miss bm bw i _ x y l c w hM hv hn (by omega) hx
        · rw [step_add hv k0 k1 k2]
          exact do_add bm bw i _ x y k l c w hM hv hn (by omega) k0 k1 k2

set_option maxHeartbeats 400000 in
theorem do_nil (k a : Int) (x y : Nat) (w : World) : Calls Try.prog 23 #[.pointer none, .agg #[.int .i64 k, .int .i64 a, .int .u64 x, .int .u64 y]] w fun e w' => e = .returned (.int .u64 0) ∧ Below w.heap.size w w' := by
  by_cases k0 : k = 0
  · subst k0
    go_enter Try.func23, Try.ntmps23
    go_wp2_with fail
    refine (read_nil a _).mono ?_
    rintro e w1 ⟨rfl, hb⟩
    go_wp2_with fail
    go_ret
    exact ⟨rfl, ((Below.refl _ _).alloc (Nat.le_refl _) _).trans (hb.mono (by simp))⟩
  · by_cases k1 : k = 1
    · subst k1
      go_enter Try.func23, Try.ntmps23
      go_wp2_with fail
      refine (write_nil a x _).mono ?_
      rintro e w1 ⟨rfl, hb⟩
      go_wp2_with fail
      go_ret
      exact ⟨rfl, ((Below.refl _ _).alloc (Nat.le_refl _) _).trans (hb.mono (by simp))⟩
    · by_cases k2 : k = 2
      · subst k2
        go_enter Try.func23, Try.ntmps23
        go_wp2_with fail
        refine (swap_nil a x y _).mono ?_
        rintro e w1 ⟨rfl, hb⟩
        go_wp2_with fail
        go_ret
        exact ⟨rfl, ((Below.refl _ _).alloc (Nat.le_refl _) _).trans (hb.mono (by simp))⟩
      · have e0 : (k == 0) = false := by simp; omega
        have e1 : (k == 1) = false := by simp; omega
        have e2 : (k == 2) = false := by simp; omega
        go_enter Try.func23, Try.ntmps23
        go_wp2_with fail
        refine (add_nil a x _).mono ?_
        rintro e w1 ⟨rfl, hb⟩
        go_wp2_with fail
        go_ret
        exact ⟨rfl, ((Below.refl _ _).alloc (Nat.le_refl _) _).trans (hb.mono (by simp))⟩
end Go.Proofs.Ytehcfflofacapaa
