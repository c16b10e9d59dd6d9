/- The effects' walks, continued: the first element; tables; swappers; numbers that are replaced. -/
import Derived.Test.YtlcnhmijagddgaaSC
namespace Go.Proofs.Ytlcnhmijagddgaa
open Go.ChangeShapes Go.WideShapes Go.ChangeAt Go.RowKit
set_option linter.unusedVariables false

set_option maxHeartbeats 400000 in
theorem eff_removeFirst (v : Value) (l : List Nat) (a B : Nat) (w : World) (h : OwnW w B v l) (hl : l.length ≤ 8) (hB : B ≤ w.heap.size) :
    Calls Try.prog 31 #[v, .int .u64 (a : Int)] w (EffP B w (if l.length = 0 then (l, 0, 7) else (l.tail, l.headD 0, 0))) := by
  have HC := Lib.hid (fun W (h1 : OwnW W B v l) => eff_showFirst v l a B W h1)
  rcases l with _ | ⟨x, l⟩
  · obtain ⟨ao, cap, rfl⟩ := h.arg.isSlice
    have HO := Lib.hid h
    clear h hl
    go_enter Try.func31, Try.ntmps31
    go_wp2_with (go_at_call 32; refine (HC.out _ HO.out).mono ?_; rintro e w' ⟨rfl, m, rfl⟩)
    go_ret3
    exact ⟨_, rfl, HO.out.drewN _, below_drewN (Below.refl _ _) _⟩
  · obtain ⟨g, cap, rfl, hg, hlt, hc, hf⟩ := h.opened (by simp)
    have hlen : (x :: l).length = l.length + 1 := rfl
    rw [hlen] at h hl HC ⊢
    have HO := Lib.hid h
    have HD := Lib.hid (fun W (h1 : OwnW W B (.slice (some ⟨g, 0, none⟩) (l.length + 1) cap) (x :: l)) (hB : B ≤ W.heap.size) => delete_first g cap B x l W h1 hB)
    have hB2 := Lib.hid hB
    clear h hc hf hlen
    simp only [Nat.add_eq_zero_iff, Nat.succ_ne_self, and_false, if_false, List.headD_cons, List.tail_cons] at HC ⊢
    go_enter Try.func31, Try.ntmps31
    go_wp2_with (first
      | (go_at_call 32; refine (HC.out _ HO.out).mono ?_; rintro e w' ⟨rfl, m, rfl⟩)
      | (go_at_call 41; refine (HD.out _ (HO.out.drewN _) hB2.out).mono ?_; rintro e w5 ⟨v5, rfl, ho5, hb5⟩; (have HO5 := Lib.hid ho5); (have HB5 := Lib.hid hb5); clear ho5 hb5))
    go_ret3
    exact ⟨_, rfl, HO5.out, (below_drewN (Below.refl _ _) _).trans HB5.out⟩

set_option maxHeartbeats 400000 in
theorem lookUp_any (v : Value) (l : List Nat) (a B : Nat) (w : World) (h : OwnW w B v l) (hl : l.length = 8) (ha : a < 18446744073709551616) :
    Calls Try.prog 38 #[v, .int .u64 (a : Int)] w fun e w' => e = .returned (.tuple #[v, .int .u64 ((if 8 ≤ a then 0 else l.getD a 0 : Nat) : Int), .int .i64 ((if 8 ≤ a then 10 else 0 : Nat) : Int)]) ∧ ∃ m, w' = w.drewN m := by
  obtain ⟨g, cap, rfl, hg, hlt, hc, hf⟩ := h.opened (by omega)
  by_cases h8 : 8 ≤ a
  · rw [if_pos h8, if_pos h8]
    clear h hc hf
    go_enter Try.func38, Try.ntmps38
    go_wp2_with fail
    go_ret3
    exact ⟨rfl, 0, rfl⟩
  · rw [if_neg h8, if_neg h8]
    have d0 := hc a (l.getD a 0) (by rw [List.getD_eq_getElem?_getD, List.getElem?_eq_getElem (by omega)]; rfl)
    generalize l.getD a 0 = z at *
    clear h hc hf
    have h9 : a < 8 := by omega
    clear h8
    go_enter Try.func38, Try.ntmps38
    go_wp2_with fail
    go_quiet (fail)
    go_wp2
    go_ret3
    exact ⟨rfl, _, rfl⟩

set_option maxHeartbeats 400000 in
theorem eff_store (v : Value) (l : List Nat) (a B : Nat) (w : World) (h : OwnW w B v l) (hl : l.length = 8) (ha : a < 18446744073709551616) (hB : B ≤ w.heap.size) :
    Calls Try.prog 39 #[v, .int .u64 (a : Int)] w (EffP B w (if 8 ≤ a / 16777216 then (l, 0, 10) else (l.set (a / 16777216) (a % 16777216), l.getD (a / 16777216) 0, 0))) := by
  have hq1 : (a : Int) / 16777216 = ((a / 16777216 : Nat) : Int) := by omega
  have hr1 : (a : Int) % 16777216 = ((a % 16777216 : Nat) : Int) := by omega
  have hq : a / 16777216 < 18446744073709551616 := by omega
  have hr : a % 16777216 < 16777216 := by omega
  have HC := Lib.hid (fun W (h1 : OwnW W B v l) => lookUp_any v l (a / 16777216) B W h1 hl hq)
  obtain ⟨g, cap, rfl, hg, hlt, hc, hf⟩ := h.opened (by omega)
  rw [hl] at h HC ⊢
  have HO := Lib.hid h
  have f0 := hf (a / 16777216)
  have d0 := fun (h9 : a / 16777216 < 8) => hc (a / 16777216) (l.getD (a / 16777216) 0) (by rw [List.getD_eq_getElem?_getD, List.getElem?_eq_getElem (by omega)]; rfl)
  clear h hc hf
  generalize a / 16777216 = b at *
  generalize a % 16777216 = r at *
  by_cases h8 : 8 ≤ b
  · simp only [if_pos h8] at HC ⊢
    clear f0 d0 hg hB
    go_enter Try.func39, Try.ntmps39
    go_wp2_with (go_at_call 38; refine (HC.out _ HO.out).mono ?_; rintro e w' ⟨rfl, m, rfl⟩)
    go_ret3
    exact ⟨_, rfl, HO.out.drewN _, below_drewN (Below.refl _ _) _⟩
  · simp only [if_neg h8] at HC ⊢
    have h9 : b < 8 := by omega
    have d1 := d0 h9
    generalize l.getD b 0 = z at *
    clear d0 h8
    go_enter Try.func39, Try.ntmps39
    go_wp2_with (go_at_call 38; refine (HC.out _ HO.out).mono ?_; rintro e w' ⟨rfl, m, rfl⟩)
    go_ret3
    exact ⟨_, rfl, (HO.out.drewN _).stored _ _, (below_drewN (Below.refl _ _) _).setCell hg _⟩

set_option maxHeartbeats 400000 in
theorem eff_swap (v : Value) (x a B : Nat) (w : World) (h : OwnW w B v [x]) (ha : a < 18446744073709551616) (hB : B ≤ w.heap.size) :
    Calls Try.prog 37 #[v, .int .u64 (a : Int)] w (EffP B w (if x = a / 65536 % 65536 then ([a % 65536], 1, 0) else ([x], 0, 0))) := by
  obtain ⟨g, cap, rfl, hg, hlt, hc, hf⟩ := h.opened (by simp)
  have HO := Lib.hid h
  have d0 := hc 0 x rfl
  have f0 := hf 0
  simp only [List.length_singleton] at *
  have hm : a % 65536 < 18446744073709551616 := by omega
  clear h hc hf
  by_cases he : x = a / 65536 % 65536
  · rw [if_pos he]
    go_enter Try.func37, Try.ntmps37
    go_wp2_with fail
    go_ret3
    exact ⟨_, rfl, HO.out.stored _ _, (Below.refl _ _).setCell hg _⟩
  · rw [if_neg he]
    go_enter Try.func37, Try.ntmps37
    go_wp2_with fail
    go_ret3
    exact ⟨_, rfl, HO.out, Below.refl _ _⟩

/-- a number that is replaced: what is called for the next one gives z -/
def NextP (f : FuncId) (z : Nat → Nat → Nat) : Prop :=
  (∀ (args : Array Value) (w : World), (callFunc f args).run Try.prog w = .ok (.enter f args) w) ∧
  ∀ (x a : Nat) (w : World), x < 18446744073709551616 → a < 18446744073709551616 → Calls Try.prog f #[.int .u64 (x : Int), .int .u64 (a : Int)] w fun e w' => e = .returned (.int .u64 (z x a : Int)) ∧ w' = w

theorem next_replaced : NextP 26 (fun _ a => a) := by
  refine ⟨fun args w => by kernel_rfl, fun x a w hx ha => ?_⟩
  go_enter Try.func26, Try.ntmps26
  go_wp2_with fail
  go_ret
  exact ⟨rfl, rfl⟩
theorem next_increased : NextP 27 (fun x a => (x + a) % 18446744073709551616) := by
  refine ⟨fun args w => by kernel_rfl, fun x a w hx ha => ?_⟩
  go_enter Try.func27, Try.ntmps27
  go_wp2_with fail
  go_ret
  exact ⟨ret_int (by simp [IntKind.wrap, IntKind.signed, IntKind.bits]), rfl⟩
theorem next_raised : NextP 36 (fun x a => if x < a then a else x) := by
  refine ⟨fun args w => by kernel_rfl, fun x a w hx ha => ?_⟩
  by_cases h : x < a
  · go_enter Try.func36, Try.ntmps36
    go_wp2_with fail
    go_ret
    exact ⟨ret_int (by omega), rfl⟩
  · go_enter Try.func36, Try.ntmps36
    go_wp2_with fail
    go_ret
    exact ⟨ret_int (by omega), rfl⟩

set_option maxHeartbeats 400000 in
theorem eff_update (v : Value) (x a B q f : Nat) (z : Nat → Nat → Nat) (hz : NextP f z) (w : World) (h : OwnW w B v [x]) (hx : x < 18446744073709551616) (ha : a < 18446744073709551616) (hq : w.cell? ⟨q, 0, none⟩ = some (.func (.func f) #[] #[])) (hqB : q < B) (hB : B ≤ w.heap.size) :
    Calls Try.prog 40 #[v, .int .u64 (a : Int), .pointer (some ⟨q, 0, none⟩)] w (EffP B w ([z x a], x, 0)) := by
  obtain ⟨hen, hC⟩ := hz
  obtain ⟨g, cap, rfl, hg, hlt, hc, hf⟩ := h.opened (by simp)
  have HO := Lib.hid h
  have HC := Lib.hid (hC x a w hx ha)
  have d0 := hc 0 x rfl
  have f0 := hf 0
  simp only [List.length_singleton] at *
  clear h hc hf hC
  go_enter Try.func40, Try.ntmps40
  go_wp2_with (refine HC.out.mono ?_; rintro e w' ⟨rfl, rfl⟩)
  go_ret3
  exact ⟨_, rfl, HO.out.stored _ _, (Below.refl _ _).setCell hg _⟩
end Go.Proofs.Ytlcnhmijagddgaa
