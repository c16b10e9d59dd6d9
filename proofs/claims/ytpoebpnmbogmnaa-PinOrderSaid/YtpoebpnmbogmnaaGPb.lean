/- Walks of pin: the register's small functions, a new write, a new read. | Walks of pin: Invoke. | Walks of pin: Size, Place, New. | Walk of pin's Play. -/
import Derived.Test.YtpoebpnmbogmnaaGPa
import Derived.Test.YtpoebpnmbogmnaaGZ3
import Derived.Test.YtpoebpnmbogmnaaGK
import Derived.Laws.EntriesVeiled
import Derived.Test.YtpoebpnmbogmnaaGN
namespace Go.Proofs.Ytpoebpnmbogmnaa
section
open Go.ChangeShapes Go.WideShapes Go.ChangeAt Go.RowKit
set_option linter.unusedVariables false
set_option linter.unusedSimpArgs false
/-- a register as it lies in memory -/
def RegVs (n w be : Nat) (s : PinS) : List Value := [.int .i64 (w : Int), .int .i64 0, .int .i64 1, .int .i64 ((n + 2 : Nat) : Int), .slice (some ⟨be, 0, none⟩) (n + 1 : Nat) (n + 1), .int .u64 (s.tot : Int), .int .i64 (s.cur : Int)]
def RegIs (n w br be : Nat) (s : PinS) (W : World) : Prop := RowBlk 192 W br (RegVs n w be s) ∧ RowBlk 37 W be (s.ent.map (fun (x : Nat) => Value.int .u64 (x : Int)))
theorem pin_left (n w br be q : Nat) (s : PinS) (W : World) (h : RegIs n w br be s W) (hq : q ≤ 17) : Calls Try.prog 134 #[.pointer (some ⟨br, 0, none⟩), .int .i64 (q : Int)] W fun e w' => e = .returned (.int .i64 ((1 + q : Nat) : Int)) ∧ W = w' := by
  have r2 : W.cell? ⟨br, 2, none⟩ = some (.int .i64 1) := h.1.cell rfl
  clear h
  go_enter Try.func134, Try.ntmps134
  go_wp2
  go_ret
  exact ⟨ret_int (by omega), rfl⟩
theorem pin_from (n w br be q : Nat) (s : PinS) (W : World) (h : RegIs n w br be s W) (hq : q ≤ 17) : Calls Try.prog 131 #[.pointer (some ⟨br, 0, none⟩), .int .i64 (q : Int)] W fun e w' => e = .returned (.int .i64 ((frm s.cur q : Nat) : Int)) ∧ W = w' := by
  have r6 : W.cell? ⟨br, 6, none⟩ = some (.int .i64 (s.cur : Int)) := h.1.cell rfl
  clear h
  by_cases hc : q = s.cur
  · have e1 : frm s.cur q = q + 1 := by unfold frm; rw [if_pos hc]
    rw [e1]
    rw [← hc] at r6
    clear hc
    go_enter Try.func131, Try.ntmps131
    go_wp2
    go_ret
    exact ⟨ret_int (by omega), rfl⟩
  · have e1 : frm s.cur q = q := by unfold frm; rw [if_neg hc]
    rw [e1]
    have hc1 : ¬ (q : Int) = (s.cur : Int) := by omega
    have hc2 : ((q : Int) == (s.cur : Int)) = false := by rw [beq_eq_false_iff_ne]; exact hc1
    go_enter Try.func131, Try.ntmps131
    go_wp2
    go_ret
    exact ⟨rfl, rfl⟩
set_option maxRecDepth 100000 in
theorem pin_word (n w br be q i : Nat) (s : PinS) (W : World) (h : RegIs n w br be s W) (hn : n ≤ 16) (hw : w ≤ 8) (hq : q ≤ 17) (hi : i ≤ 8) : Calls Try.prog 137 #[.pointer (some ⟨br, 0, none⟩), .int .i64 (q : Int), .int .i64 (i : Int)] W fun e w' => e = .returned (.int .i64 ((wdA n w q i : Nat) : Int)) ∧ ∃ m, w' = W.drewN m := by
  have r0 : W.cell? ⟨br, 0, none⟩ = some (.int .i64 (w : Int)) := h.1.cell rfl
  have r3 : W.cell? ⟨br, 3, none⟩ = some (.int .i64 ((n + 2 : Nat) : Int)) := h.1.cell rfl
  have hm : q * w ≤ 136 := Nat.le_trans (Nat.mul_le_mul hq hw) (by decide)
  obtain ⟨z, hz⟩ : ∃ z, q * w = z := ⟨_, rfl⟩
  obtain ⟨b, hb⟩ : ∃ b, n + 2 = b := ⟨_, rfl⟩
  have hzi : (q : Int) * (w : Int) = (z : Int) := by rw [← hz]; simp
  have HV : Hid (wdA n w q i = b + z + i) := Lib.hid (by unfold wdA; omega)
  rw [hz] at hm
  rw [hb] at r3
  have hb2 : b ≤ 18 := by omega
  clear h hz hb
  go_enter Try.func137, Try.ntmps137
  go_wp2_with fail
  go_quiet (fail)
  go_wp2
  go_ret
  exact ⟨ret_int (by rw [HV.out]; omega), _, rfl⟩
set_option maxRecDepth 100000 in
set_option maxHeartbeats 2000000 in
theorem pin_change (n w br be q x y z : Nat) (s : PinS) (W : World) (h : RegIs n w br be s W) (hlen : s.ent.length = n + 1) (hc : s.cur ≤ n) (hn : n ≤ 16) (hx : x % 4294967296 = y) (hx64 : x ≤ 18446744073709551615) (ht : s.tot ≤ y) (hz : s.ent.getD s.cur 0 + (y - s.tot) = z) (hz2 : z ≤ 4294967296) :
    Calls Try.prog 128 #[.pointer (some ⟨br, 0, none⟩), .int .i64 (q : Int), .int .u64 (x : Int)] W fun e w' => e = .returned (.tuple #[]) ∧ RegIs n w br be ⟨s.ent.set s.cur z, y, q⟩ w' ∧ ButS (fun b => b = br ∨ b = be) W w' := by
  obtain ⟨u, hu⟩ : ∃ u, s.ent[s.cur]? = some u := ⟨s.ent[s.cur]'(by omega), List.getElem?_eq_getElem _⟩
  have hug : s.ent.getD s.cur 0 = u := by rw [List.getD_eq_getElem?_getD, hu]; rfl
  rw [hug] at hz
  have hne : br ≠ be := by intro e; have h1 := h.1; have h2 := h.2; unfold RowBlk at h1 h2; rw [e, h2] at h1; simp at h1
  have hne2 : be ≠ br := fun e => hne e.symm
  have r4 : W.cell? ⟨br, 4, none⟩ = some (.slice (some ⟨be, 0, none⟩) (n + 1 : Nat) (n + 1)) := h.1.cell rfl
  have r5 : W.cell? ⟨br, 5, none⟩ = some (.int .u64 (s.tot : Int)) := h.1.cell rfl
  have r6 : W.cell? ⟨br, 6, none⟩ = some (.int .i64 (s.cur : Int)) := h.1.cell rfl
  have ec : W.cell? ⟨be, s.cur, none⟩ = some (.int .u64 (u : Int)) := h.2.cell (by rw [List.getElem?_map, hu]; rfl)
  have fr : ∀ j, W.frozen? ⟨br, j, none⟩ = false := fun j => h.1.free
  have fe : ∀ j, W.frozen? ⟨be, j, none⟩ = false := fun j => h.2.free
  have hbl := h.1.lt
  have hel := h.2.lt
  have H := Lib.hid h
  have hxi : (x : Int) % 4294967296 = (y : Int) := by omega
  have hxt : (x : Int).tmod 4294967296 = (y : Int) := by rw [Int.tmod_eq_emod_of_nonneg (by omega)]; exact hxi
  have hi0 : (0 : Int) ≤ (s.cur : Int) := Int.natCast_nonneg _
  have hi1 : (s.cur : Int) < ((n + 1 : Nat) : Int) := by omega
  have hd : ((y : Int) - (s.tot : Int)) % 18446744073709551616 = (y : Int) - (s.tot : Int) := by omega
  have hzi : (u : Int) + ((y : Int) - (s.tot : Int)) = (z : Int) := by omega
  have hy : y < 4294967296 := by omega
  obtain ⟨k, hk⟩ : ∃ k, s.cur = k := ⟨_, rfl⟩
  obtain ⟨tt, htt⟩ : ∃ tt, s.tot = tt := ⟨_, rfl⟩
  obtain ⟨m1, hm1⟩ : ∃ m1, n + 1 = m1 := ⟨_, rfl⟩
  rw [hk] at r6 ec hi0 hi1
  rw [htt] at r5 hd hzi ht
  rw [hm1] at r4 hi1
  have HX : Hid (∀ j, RegIs n w br be ⟨s.ent.set s.cur z, y, q⟩ ((((W.drewN j).setCell ⟨be, k, none⟩ (.int .u64 (z : Int))).setCell ⟨br, 5, none⟩ (.int .u64 (y : Int))).setCell ⟨br, 6, none⟩ (.int .i64 (q : Int))) ∧ ButS (fun b => b = br ∨ b = be) W ((((W.drewN j).setCell ⟨be, k, none⟩ (.int .u64 (z : Int))).setCell ⟨br, 5, none⟩ (.int .u64 (y : Int))).setCell ⟨br, 6, none⟩ (.int .i64 (q : Int)))) := Lib.hid (fun j => by
    have h1 : RowBlk 192 (W.drewN j) br (RegVs n w be s) := h.1
    have h2 : RowBlk 37 (W.drewN j) be (s.ent.map (fun (x : Nat) => Value.int .u64 (x : Int))) := h.2
    refine ⟨⟨((h1.other hne _).put 5 _).put 6 _, ?_⟩, (((ButS.refl _ W).drewN j |>.setCell (.inl (.inr rfl)) _).setCell (.inl (.inl rfl)) _).setCell (.inl (.inl rfl)) _⟩
    have h3 := (((h2.put k (.int .u64 (z : Int))).other (a := ⟨br, 5, none⟩) hne2 (.int .u64 (y : Int))).other (a := ⟨br, 6, none⟩) hne2 (.int .i64 (q : Int)))
    show RowBlk _ _ be ((s.ent.set s.cur z).map _)
    rw [List.map_set, hk]; exact h3)
  clear h hu hug hz hk htt hm1 hx
  go_enter Try.func128, Try.ntmps128
  go_wp2_with fail
  go_region
  go_wp2_with fail
  first
    | go_end0
    | (refine bodyPost_ret (results_none rfl _ _ _) rfl ?_)
  exact ⟨rfl, HX.out 1⟩
end
section
open Go.ChangeShapes Go.WideShapes Go.ChangeAt Go.RowKit
set_option linter.unusedVariables false
set_option linter.unusedSimpArgs false
def fnV (f g : Nat) : Value := .func (.func f) #[.pointer (some ⟨g, 0, none⟩)] #[]
def WrVs (br a q j g f : Nat) : List Value := [.pointer (some ⟨br, 0, none⟩), .int .u64 (a : Int), .int .i64 (q : Int), .int .i64 (j : Int), fnV f g]
def RdVs (br t0 q : Nat) (lv kv : Value) (g f : Nat) : List Value := [.pointer (some ⟨br, 0, none⟩), .int .i64 (t0 : Int), .int .i64 (q : Int), lv, kv, fnV f g]
def WrNew (br a q : Nat) (W : World) (en : Ending) (w' : World) : Prop := ∃ g, en = .returned (.pointer (some ⟨g, 0, none⟩)) ∧ RowBlk 229 w' g (WrVs br a q 0 g 132) ∧ W.heap.size ≤ g ∧ Below W.heap.size W w'
set_option maxRecDepth 100000 in
set_option maxHeartbeats 1000000 in
theorem pin_newWrite (n w br be a : Nat) (s : PinS) (W : World) (h : RegIs n w br be s W) : Calls Try.prog 129 #[.pointer (some ⟨br, 0, none⟩), .int .u64 (a : Int)] W (WrNew br a (frm s.cur 0) W) := by
  have hmf : ∀ (fn : Fn) (first cap : Array Value) (w : World), (Instr.makeFunc fn first cap).run Try.prog w = .ok (.func fn first cap) w := fun _ _ _ _ => rfl
  have HF : Hid (Calls Try.prog 131 #[.pointer (some ⟨br, 0, none⟩), .int .i64 0] W fun e w' => e = .returned (.int .i64 ((frm s.cur 0 : Nat) : Int)) ∧ W = w') := Lib.hid (pin_from n w br be 0 s W h (by omega))
  obtain ⟨q, hq⟩ : ∃ q, frm s.cur 0 = q := ⟨_, rfl⟩
  rw [hq] at HF ⊢
  clear h hq
  go_enter Try.func129, Try.ntmps129
  go_wp2_with fail
  refine HF.out.mono ?_
  rintro e w1 ⟨rfl, rfl⟩
  go_wp2_with fail
  go_ret
  have h1 : RowBlk 229 ((W.alloc (.cells #[.pointer (some ⟨br, 0, none⟩), .int .u64 (a : Int), .int .i64 (q : Int), .int .i64 0, .nilFunc] 229)).setCell ⟨W.heap.size, 4, none⟩ (fnV 132 W.heap.size)) W.heap.size (WrVs br a q 0 W.heap.size 132) := (RowBlk.new W [.pointer (some ⟨br, 0, none⟩), .int .u64 (a : Int), .int .i64 (q : Int), .int .i64 0, .nilFunc] 229).put 4 _
  first
    | exact ⟨W.heap.size, rfl, h1, Nat.le_refl _, ((Below.refl _ _).alloc (Nat.le_refl _) _).setCell (Nat.le_refl _) _⟩
    | exact ⟨W.heap.size, rfl, RowBlk.new W (WrVs br a q 0 W.heap.size 132) _, Nat.le_refl _, (Below.refl _ _).alloc (Nat.le_refl _) _⟩
def RdNew (br : Nat) (W : World) (en : Ending) (w' : World) : Prop := ∃ g, en = .returned (.pointer (some ⟨g, 0, none⟩)) ∧ RowBlk 231 w' g (RdVs br 0 0 (.slice none 0 0) (.slice none 0 0) g 133) ∧ W.heap.size ≤ g ∧ Below W.heap.size W w'
set_option maxRecDepth 100000 in
set_option maxHeartbeats 1000000 in
theorem pin_newRead (br : Nat) (W : World) : Calls Try.prog 130 #[.pointer (some ⟨br, 0, none⟩)] W (RdNew br W) := by
  have hmf : ∀ (fn : Fn) (first cap : Array Value) (w : World), (Instr.makeFunc fn first cap).run Try.prog w = .ok (.func fn first cap) w := fun _ _ _ _ => rfl
  go_enter Try.func130, Try.ntmps130
  go_wp2_with fail
  go_ret
  first
    | exact ⟨W.heap.size, rfl, (RowBlk.new W [.pointer (some ⟨br, 0, none⟩), .int .i64 0, .int .i64 0, .slice none 0 0, .slice none 0 0, .nilFunc] 231).put 5 _, Nat.le_refl _, ((Below.refl _ _).alloc (Nat.le_refl _) _).setCell (Nat.le_refl _) _⟩
    | exact ⟨W.heap.size, rfl, RowBlk.new W (RdVs br 0 0 (.slice none 0 0) (.slice none 0 0) W.heap.size 133) _, Nat.le_refl _, (Below.refl _ _).alloc (Nat.le_refl _) _⟩
set_option maxRecDepth 100000 in
theorem pin_bad (br : Nat) (x : CallV) (W : World) (hk : ¬ x.k = 0) (hk1 : ¬ x.k = 1) : Calls Try.prog 127 #[.pointer (some ⟨br, 0, none⟩), callAgg x] W fun en w' => en = .returned (.tuple #[.nilIface, .int .i64 9]) ∧ Below W.heap.size W w' := by
  unfold callAgg
  go_enter Try.func127, Try.ntmps127
  go_wp2
  go_ret2
  exact ⟨rfl, (Below.refl _ _).alloc (Nat.le_refl _) _⟩
set_option maxRecDepth 100000 in
theorem pin_role (br : Nat) (x : CallV) (W : World) (hk : x.k = 0) (ht : ¬ x.t = 0) : Calls Try.prog 127 #[.pointer (some ⟨br, 0, none⟩), callAgg x] W fun en w' => en = .returned (.tuple #[.nilIface, .int .i64 11]) ∧ Below W.heap.size W w' := by
  unfold callAgg
  rw [hk]
  have ht2 : (x.t == 0) = false := by rw [beq_eq_false_iff_ne]; exact ht
  have ht3 : (x.t != 0) = true := by rw [bne_iff_ne]; exact ht
  go_enter Try.func127, Try.ntmps127
  go_wp2
  go_ret2
  exact ⟨rfl, (Below.refl _ _).alloc (Nat.le_refl _) _⟩
def WrMade (br a q : Nat) (W : World) (en : Ending) (w' : World) : Prop := ∃ g, en = .returned (.tuple #[.iface 223 (.pointer (some ⟨g, 0, none⟩)), .int .i64 0]) ∧ RowBlk 229 w' g (WrVs br a q 0 g 132) ∧ W.heap.size ≤ g ∧ Below W.heap.size W w'
def RdMade (br : Nat) (W : World) (en : Ending) (w' : World) : Prop := ∃ g, en = .returned (.tuple #[.iface 225 (.pointer (some ⟨g, 0, none⟩)), .int .i64 0]) ∧ RowBlk 231 w' g (RdVs br 0 0 (.slice none 0 0) (.slice none 0 0) g 133) ∧ W.heap.size ≤ g ∧ Below W.heap.size W w'
theorem RegIs.same {n w br be : Nat} {s : PinS} {W W' : World} (h : RegIs n w br be s W) (h1 : W'.heap[br]? = W.heap[br]?) (h2 : W'.heap[be]? = W.heap[be]?) : RegIs n w br be s W' := ⟨h.1.same h1, h.2.same h2⟩
set_option maxRecDepth 100000 in
set_option maxHeartbeats 1000000 in
theorem pin_invWrite (n w br be : Nat) (s : PinS) (x : CallV) (W : World) (h : RegIs n w br be s W) (hk : x.k = 0) (ht : x.t = 0) : Calls Try.prog 127 #[.pointer (some ⟨br, 0, none⟩), callAgg x] W (WrMade br x.a (frm s.cur 0) W) := by
  unfold callAgg
  rw [hk, ht]
  have H := Lib.hid h
  clear h hk ht
  go_enter Try.func127, Try.ntmps127
  go_wp2_with fail
  refine (pin_newWrite n w br be x.a s _ (H.out.same (Below.heap_alloc _ _ _ H.out.1.lt) (Below.heap_alloc _ _ _ H.out.2.lt))).mono ?_
  rintro e w1 ⟨g, rfl, hr, hg, hb⟩
  have HR := Lib.hid hr
  have HB : Hid (Below W.heap.size W w1) := Lib.hid (((Below.refl _ _).alloc (Nat.le_refl _) _).trans (hb.mono (by simp)))
  have HG : Hid (W.heap.size ≤ g) := Lib.hid (by simp at hg; omega)
  clear hr hb hg
  go_wp2_with fail
  go_ret2
  exact ⟨g, rfl, HR.out, HG.out, HB.out⟩
set_option maxRecDepth 100000 in
set_option maxHeartbeats 1000000 in
theorem pin_invRead (br : Nat) (x : CallV) (W : World) (hk : x.k = 1) : Calls Try.prog 127 #[.pointer (some ⟨br, 0, none⟩), callAgg x] W (RdMade br W) := by
  unfold callAgg
  rw [hk]
  clear hk
  go_enter Try.func127, Try.ntmps127
  go_wp2_with fail
  refine (pin_newRead br _).mono ?_
  rintro e w1 ⟨g, rfl, hr, hg, hb⟩
  have HR := Lib.hid hr
  have HB : Hid (Below W.heap.size W w1) := Lib.hid (((Below.refl _ _).alloc (Nat.le_refl _) _).trans (hb.mono (by simp)))
  have HG : Hid (W.heap.size ≤ g) := Lib.hid (by simp at hg; omega)
  clear hr hb hg
  go_wp2_with fail
  go_ret2
  exact ⟨g, rfl, HR.out, HG.out, HB.out⟩
end
section
open Go.ChangeShapes Go.WideShapes Go.ChangeAt Go.RowKit
set_option linter.unusedVariables false
set_option linter.unusedSimpArgs false
theorem below_drewNp {B : Nat} {a w : World} (h : Below B a w) (n : Nat) : Below B a (w.drewN n) := ⟨h.os, h.tape, h.output, h.size, h.block⟩
theorem pin_buffers (n : Nat) (hn : n ≤ 16) (W : World) : Calls Try.prog 110 #[.int .i64 (n : Int)] W fun e w' => e = .returned (.int .i64 ((n + 1 : Nat) : Int)) ∧ W = w' := by
  go_enter Try.func110, Try.ntmps110
  go_wp2
  go_ret
  exact ⟨ret_int (by omega), rfl⟩
set_option maxHeartbeats 400000 in
theorem pinSize_bad (n kv : Int) (hk : kv < 1 ∨ 8 < kv) (W : World) : Calls Try.prog 109 #[.agg #[.int .i64 kv], .int .i64 n] W fun e w' => e = .returned (.tuple #[.int .i64 0, .int .i64 10]) ∧ Below W.heap.size W w' := by
  by_cases h : kv < 1
  · go_enter Try.func109, Try.ntmps109
    go_wp2
    go_ret2
    exact ⟨rfl, (Below.refl _ _).alloc (Nat.le_refl _) _⟩
  · have h2 : 8 < kv := by omega
    clear hk
    go_enter Try.func109, Try.ntmps109
    go_wp2
    go_ret2
    exact ⟨rfl, (Below.refl _ _).alloc (Nat.le_refl _) _⟩
set_option maxHeartbeats 1000000 in
theorem pinSize_ok (n k m : Nat) (hn : n ≤ 16) (hk : 1 ≤ k ∧ k ≤ 8) (hm : (n + 1) * (1 + k) = m) (hm2 : m ≤ 153) (W : World) : Calls Try.prog 109 #[.agg #[.int .i64 (k : Int)], .int .i64 (n : Int)] W fun e w' => e = .returned (.tuple #[.int .i64 ((1 + m : Nat) : Int), .int .i64 0]) ∧ Below W.heap.size W w' := by
  have h0 : ((n + 1 : Nat) : Int) * ((1 + k : Nat) : Int) = (m : Int) := by rw [← hm]; simp
  have hk1 : (1 : Int) + (k : Int) = ((1 + k : Nat) : Int) := by omega
  have h2 : ¬ (k : Int) < 1 := by omega
  have h3 : ¬ 8 < (k : Int) := by omega
  have h2b : decide ((k : Int) < 1) = false := decide_eq_false h2
  have h3b : decide (8 < (k : Int)) = false := decide_eq_false h3
  have HM := Lib.hid h0
  have HB : Hid (∀ W, Calls Try.prog 110 #[.int .i64 (n : Int)] W fun e w' => e = .returned (.int .i64 ((n + 1 : Nat) : Int)) ∧ W = w') := Lib.hid (fun W => pin_buffers n hn W)
  clear hm h0
  obtain ⟨n1, hn1⟩ : ∃ n1, n + 1 = n1 := ⟨_, rfl⟩
  obtain ⟨k1, hk2⟩ : ∃ k1, 1 + k = k1 := ⟨_, rfl⟩
  rw [hn1] at HB HM
  rw [hk2] at hk1 HM
  have hk9 : k1 ≤ 9 := by omega
  have hmI : (n1 : Int) * (k1 : Int) = (m : Int) := HM.out
  clear hn1 hk2
  go_enter Try.func109, Try.ntmps109
  go_wp2_with fail
  go_quiet ((go_at_call 110; exact call_keeps ⟨_, rfl⟩ (HB.out _)))
  go_wp2_with fail
  go_ret2
  exact ⟨ret_pair (by omega) rfl, below_drewNp ((Below.refl _ _).alloc (Nat.le_refl _) _) _⟩
theorem pin_zeros (m : Nat) : zeros m = (List.replicate m 0).map (fun (x : Nat) => Value.int .u64 (x : Int)) := by
  unfold zeros
  rw [toList_madeCells_one]
  simp
def PinPlaced (n k : Nat) (W : World) (en : Ending) (w' : World) : Prop := ∃ br be, en = .returned (.iface 190 (.pointer (some ⟨br, 0, none⟩))) ∧ W.heap.size ≤ br ∧ W.heap.size ≤ be ∧ br < w'.heap.size ∧ be < w'.heap.size ∧ RegIs n k br be ⟨List.replicate (n + 1) 0, 0, 0⟩ w' ∧ Below W.heap.size W w'
set_option maxRecDepth 100000 in
set_option maxHeartbeats 1000000 in
theorem pinPlace (n k : Nat) (hn : n ≤ 16) (W : World) : Calls Try.prog 108 #[.agg #[.int .i64 (k : Int)], .int .i64 (n : Int), .int .i64 0] W (PinPlaced n k W) := by
  obtain ⟨n1, hn1⟩ : ∃ n1, n + 1 = n1 := ⟨_, rfl⟩
  have HB : Hid (∀ W, Calls Try.prog 110 #[.int .i64 (n : Int)] W fun e w' => e = .returned (.int .i64 (n1 : Int)) ∧ W = w') := Lib.hid (fun W => by rw [← hn1]; exact pin_buffers n hn W)
  have hmk := run_mk n1 (by omega)
  have hn17 : n1 ≤ 17 := by omega
  have HN1 := Lib.hid hn1
  have hw2 : IntKind.i64.wrap (1 + (n1 : Int)) = 1 + (n1 : Int) := by unfold IntKind.wrap; simp [IntKind.bits, IntKind.signed]; omega
  clear hn1 hn
  go_enter Try.func108, Try.ntmps108
  go_wp2_with fail
  refine (HB.out _).mono ?_
  rintro e w1 ⟨rfl, rfl⟩
  go_wp2_with fail
  have hb : Hid (RowBlk 75 (W.alloc (.cells #[.int .i64 (k : Int)] 75)) W.heap.size [.int .i64 (k : Int)]) := Lib.hid (RowBlk.new _ _ _)
  have HW1 : Hid (Below W.heap.size W (W.alloc (.cells #[.int .i64 (k : Int)] 75))) := Lib.hid ((Below.refl _ _).alloc (Nat.le_refl _) _)
  have HS1 : Hid ((W.alloc (.cells #[.int .i64 (k : Int)] 75)).heap.size = W.heap.size + 1) := Lib.hid (by simp)
  generalize W.alloc (.cells #[.int .i64 (k : Int)] 75) = wa at hb HW1 HS1 ⊢
  have c0 : wa.cell? ⟨W.heap.size, 0, none⟩ = some (.int .i64 (k : Int)) := hb.out.cell rfl
  go_region_held3 (fun w' => w'.cell? ⟨W.heap.size, 0, none⟩ = some (.int .i64 (k : Int)))
    (first | with_reducible exact c0 | go_keep)
    (fail)
  rename_i hHeld
  clear hHeld c0
  have e1 : IntKind.i64.wrap 1 = 1 := by decide
  have e2 : (1 : Int) + (n1 : Int) = ((n + 2 : Nat) : Int) := by have := HN1.out; omega
  rw [e1, hw2, e2]
  have HX : Hid (RegIs n k (wa.heap.size + 1) wa.heap.size ⟨List.replicate (n + 1) 0, 0, 0⟩ ((wa.alloc (.cells (zeros n1).toArray 37)).alloc (.cells #[.int .i64 (k : Int), .int .i64 0, .int .i64 1, .int .i64 ((n + 2 : Nat) : Int), .slice (some ⟨wa.heap.size, 0, none⟩) n1 n1, .int .u64 0, .int .i64 0] 192)).drew) := Lib.hid (by
    have h1 := HN1.out
    subst h1
    refine ⟨?_, ?_⟩
    · have h2 := (RowBlk.new (wa.alloc (.cells (zeros (n + 1)).toArray 37)) (RegVs n k wa.heap.size ⟨List.replicate (n + 1) 0, 0, 0⟩) 192).drew
      rw [show (wa.alloc (.cells (zeros (n + 1)).toArray 37)).heap.size = wa.heap.size + 1 by simp] at h2
      exact h2
    · have h2 := ((RowBlk.new wa (zeros (n + 1)) 37).alloc (.cells #[.int .i64 (k : Int), .int .i64 0, .int .i64 1, .int .i64 ((n + 2 : Nat) : Int), .slice (some ⟨wa.heap.size, 0, none⟩) (n + 1) (n + 1), .int .u64 0, .int .i64 0] 192)).drew
      rw [pin_zeros] at h2 ⊢
      exact h2)
  have HBX : Hid (Below W.heap.size W ((wa.alloc (.cells (zeros n1).toArray 37)).alloc (.cells #[.int .i64 (k : Int), .int .i64 0, .int .i64 1, .int .i64 ((n + 2 : Nat) : Int), .slice (some ⟨wa.heap.size, 0, none⟩) n1 n1, .int .u64 0, .int .i64 0] 192)).drew) := Lib.hid (below_drew ((HW1.out.alloc (by have := HS1.out; omega) _).alloc (by have := HS1.out; simp; omega) _))
  go_wp2_with fail
  go_ret
  exact ⟨wa.heap.size + 1, wa.heap.size, rfl, by have := HS1.out; omega, by have := HS1.out; omega, HX.out.1.lt, HX.out.2.lt, HX.out, HBX.out⟩
end
section
open Go.RowKit
set_option linter.unusedVariables false
theorem pinPlay_any_new (kv : Int) (w : World) : Calls Try.prog 28 #[.int .i64 kv] w fun e w' => e = .returned (.iface 75 (.agg #[.int .i64 kv])) ∧ w = w' := by
  go_enter Try.func28, Try.ntmps28
  go_wp2
  go_ret
  exact ⟨rfl, rfl⟩
set_option maxRecDepth 100000 in
set_option maxHeartbeats 4000000 in
theorem pinPlay_any (n kv : Int) (I : St (pinM n.toNat kv.toNat) → Prop) (size er : Nat) (ao : Option Addr) (b o cap : Nat) (cs : List CallV) (ao3 : Option Addr) (b3 o3 cap3 : Nat) (picks : List Int) (w : World) (ha : 0 < cs.length → ao = some ⟨b, o, none⟩) (hb : 0 < cs.length → b < w.heap.size) (hc : CallsAt w b o cs) (hcap : ao = none → cap = 0)
    (ha3 : 0 < picks.length → ao3 = some ⟨b3, o3, none⟩) (hb3 : 0 < picks.length → b3 < w.heap.size) (hc3 : ICells w b3 o3 picks) (hnp : picks.length ≤ 9223372036854775807)
    (hS : checkL n (thr cs) picks.length = 0 → SizeC 75 (.agg #[.int .i64 kv]) n size er) (hP : checkL n (thr cs) picks.length = 0 → er = 0 → NotFilled 75 (.agg #[.int .i64 kv]) ∧ PlaceC cs I (⟨List.replicate (n.toNat + 1) 0, 0, 0⟩ : PinS) 75 (.agg #[.int .i64 kv]) n ∧ 1 ≤ size ∧ size ≤ 65536 ∧ I (stM cs (List.replicate size 0) (⟨List.replicate (n.toNat + 1) 0, 0, 0⟩ : PinS))) :
    Calls Try.prog 19 #[.int .i64 n, .int .i64 kv, .slice ao cs.length cap, .slice ao3 picks.length cap3] w (PlayG (pinM n.toNat kv.toNat) n er cs (List.replicate size 0) (⟨List.replicate (n.toNat + 1) 0, 0, 0⟩ : PinS) picks w) := by
  have HA := Lib.hid ha
  have HB := Lib.hid hb
  have HC := Lib.hid hc
  have HA3 := Lib.hid ha3
  have HB3 := Lib.hid hb3
  have HC3 := Lib.hid hc3
  have HCP := Lib.hid hcap
  have HS := Lib.hid hS
  have HP := Lib.hid hP
  clear ha hb hc ha3 hb3 hc3 hcap hS hP
  go_enter Try.func19, Try.ntmps19
  go_wp2_with fail
  refine (pinPlay_any_new kv _).mono ?_
  rintro e w1 ⟨rfl, rfl⟩
  go_wp2_with fail
  generalize hw2 : (w.alloc (.cells #[.slice none 0 0, .slice none 0 0, .int .i64 0, .int .i64 0, .int .i64 0, .int .i64 0, .int .i64 0, .int .i64 0, .int .i64 0] 32)).alloc (.cells #[.iface 75 (.agg #[.int .i64 kv])] 56) = w2
  have HBa : Hid (Below w.heap.size w w2) := Lib.hid (by rw [← hw2]; exact ((Below.refl w.heap.size w).alloc (Nat.le_refl _) _).alloc (by simp) _)
  have hsz2 : w2.heap.size = w.heap.size + 2 := by rw [← hw2]; simp
  have hz2 : RowBlk 32 w2 w.heap.size zeroVs := by rw [← hw2]; exact (RowBlk.new w zeroVs 32).alloc _
  have hob2 : w2.cell? ⟨w.heap.size + 1, 0, none⟩ = some (.iface 75 (.agg #[.int .i64 kv])) := by rw [← hw2, World.cell?_alloc_at _ _ _ _ (by simp)]; rfl
  have HZ2 := Lib.hid hz2
  clear hz2 hw2
  refine (play_any I (⟨List.replicate (n.toNat + 1) 0, 0, 0⟩ : PinS) 75 (.agg #[.int .i64 kv]) n size er ao b o cap cs ao3 b3 o3 cap3 picks (w.heap.size + 1) 1 w2 HA.out (fun h => by have := HB.out h; omega) (HC.out.stays HBa.out HB.out) HCP.out HA3.out (fun h => by have := HB3.out h; omega) (HC3.out.stays HBa.out HB3.out) hnp hob2 HS.out HP.out).mono ?_
  rintro e w3 ⟨a1, n1, c1, a2, n2, c2, i0, i1, i2, i3, i4, i5, i6, v, rfl, rfl, hv1, hv2, hb3⟩
  have hz := HZ2.out.same (hb3.block _ (by omega))
  have HB3' : Hid (Below w.heap.size w w3) := Lib.hid (HBa.out.trans (hb3.mono (by omega)))
  have HV1 := Lib.hid hv1
  have HV2 := Lib.hid hv2
  have r0 := hz.cell (i := 0) rfl
  have r1 := hz.cell (i := 1) rfl
  have r2 := hz.cell (i := 2) rfl
  have r3 := hz.cell (i := 3) rfl
  have r4 := hz.cell (i := 4) rfl
  have r5 := hz.cell (i := 5) rfl
  have r6 := hz.cell (i := 6) rfl
  have r7 := hz.cell (i := 7) rfl
  have r8 := hz.cell (i := 8) rfl
  have fr : ∀ k, w3.frozen? ⟨w.heap.size, k, none⟩ = false := fun k => hz.free
  have HZ3 := Lib.hid hz
  clear hb3 hz hob2 hv1 hv2
  go_wp2_with fail
  have H7 : Hid (RowBlk 32 (((((((((w3.setCell ⟨w.heap.size, 0, none⟩ (.slice a1 n1 c1)).setCell ⟨w.heap.size, 1, none⟩ (.slice a2 n2 c2)).setCell ⟨w.heap.size, 2, none⟩ (.int .i64 i0)).setCell ⟨w.heap.size, 3, none⟩ (.int .i64 i1)).setCell ⟨w.heap.size, 4, none⟩ (.int .i64 i2)).setCell ⟨w.heap.size, 5, none⟩ (.int .i64 i3)).setCell ⟨w.heap.size, 6, none⟩ (.int .i64 i4)).setCell ⟨w.heap.size, 7, none⟩ (.int .i64 i5)).setCell ⟨w.heap.size, 8, none⟩ (.int .i64 i6)) w.heap.size [.slice a1 n1 c1, .slice a2 n2 c2, .int .i64 i0, .int .i64 i1, .int .i64 i2, .int .i64 i3, .int .i64 i4, .int .i64 i5, .int .i64 i6] ∧
      (playErr n cs picks.length er = 0 → RepG w.heap.size (((((((((w3.setCell ⟨w.heap.size, 0, none⟩ (.slice a1 n1 c1)).setCell ⟨w.heap.size, 1, none⟩ (.slice a2 n2 c2)).setCell ⟨w.heap.size, 2, none⟩ (.int .i64 i0)).setCell ⟨w.heap.size, 3, none⟩ (.int .i64 i1)).setCell ⟨w.heap.size, 4, none⟩ (.int .i64 i2)).setCell ⟨w.heap.size, 5, none⟩ (.int .i64 i3)).setCell ⟨w.heap.size, 6, none⟩ (.int .i64 i4)).setCell ⟨w.heap.size, 7, none⟩ (.int .i64 i5)).setCell ⟨w.heap.size, 8, none⟩ (.int .i64 i6)) (.agg #[.slice a1 n1 c1, .slice a2 n2 c2, .int .i64 i0, .int .i64 i1, .int .i64 i2, .int .i64 i3, .int .i64 i4, .int .i64 i5, .int .i64 i6]) (repOf (endM (M := (pinM n.toNat kv.toNat)) cs (List.replicate size 0) (⟨List.replicate (n.toNat + 1) 0, 0, 0⟩ : PinS) picks))) ∧ Below w.heap.size w (((((((((w3.setCell ⟨w.heap.size, 0, none⟩ (.slice a1 n1 c1)).setCell ⟨w.heap.size, 1, none⟩ (.slice a2 n2 c2)).setCell ⟨w.heap.size, 2, none⟩ (.int .i64 i0)).setCell ⟨w.heap.size, 3, none⟩ (.int .i64 i1)).setCell ⟨w.heap.size, 4, none⟩ (.int .i64 i2)).setCell ⟨w.heap.size, 5, none⟩ (.int .i64 i3)).setCell ⟨w.heap.size, 6, none⟩ (.int .i64 i4)).setCell ⟨w.heap.size, 7, none⟩ (.int .i64 i5)).setCell ⟨w.heap.size, 8, none⟩ (.int .i64 i6))) := Lib.hid
    ⟨(((((((((HZ3.out.put 0 _).put 1 _).put 2 _).put 3 _).put 4 _).put 5 _).put 6 _).put 7 _).put 8 _),
     fun h => ((HV2.out h).mono (by omega)).other HZ3.out (fun k _ hk => by rw [heap_far hk, heap_far hk, heap_far hk, heap_far hk, heap_far hk, heap_far hk, heap_far hk, heap_far hk, heap_far hk]),
     (((((((((HB3'.out.setCell (Nat.le_refl _) _).setCell (Nat.le_refl _) _).setCell (Nat.le_refl _) _).setCell (Nat.le_refl _) _).setCell (Nat.le_refl _) _).setCell (Nat.le_refl _) _).setCell (Nat.le_refl _) _).setCell (Nat.le_refl _) _).setCell (Nat.le_refl _) _)⟩
  generalize ((((((((w3.setCell ⟨w.heap.size, 0, none⟩ (.slice a1 n1 c1)).setCell ⟨w.heap.size, 1, none⟩ (.slice a2 n2 c2)).setCell ⟨w.heap.size, 2, none⟩ (.int .i64 i0)).setCell ⟨w.heap.size, 3, none⟩ (.int .i64 i1)).setCell ⟨w.heap.size, 4, none⟩ (.int .i64 i2)).setCell ⟨w.heap.size, 5, none⟩ (.int .i64 i3)).setCell ⟨w.heap.size, 6, none⟩ (.int .i64 i4)).setCell ⟨w.heap.size, 7, none⟩ (.int .i64 i5)).setCell ⟨w.heap.size, 8, none⟩ (.int .i64 i6) = W7 at H7 ⊢
  have q0 := H7.out.1.cell (i := 0) rfl
  have q1 := H7.out.1.cell (i := 1) rfl
  have q2 := H7.out.1.cell (i := 2) rfl
  have q3 := H7.out.1.cell (i := 3) rfl
  have q4 := H7.out.1.cell (i := 4) rfl
  have q5 := H7.out.1.cell (i := 5) rfl
  have q6 := H7.out.1.cell (i := 6) rfl
  have q7 := H7.out.1.cell (i := 7) rfl
  have q8 := H7.out.1.cell (i := 8) rfl
  exact bodyPost_ret (v := .tuple #[.agg #[.slice a1 n1 c1, .slice a2 n2 c2, .int .i64 i0, .int .i64 i1, .int .i64 i2, .int .i64 i3, .int .i64 i4, .int .i64 i5, .int .i64 i6], .int .i64 (playErr n cs picks.length er : Nat)]) (by simp [results, Try.results19, go_sem, q0, q1, q2, q3, q4, q5, q6, q7, q8]) rfl
    ⟨_, _, _, _, _, _, _, _, _, _, _, _, _, _, rfl, rfl, HV1.out, H7.out.2.1, H7.out.2.2⟩
end
end Go.Proofs.Ytpoebpnmbogmnaa
