/- Walks of the document's reader of lines: is a byte next; a byte that must be next. -/
import Derived.Test.YtgmgpbplgiicoaaMV
namespace Go.Proofs.Ytgmgpbplgiicoaa
open Go.RowKit Go.Lib Go.Sort

/-- the block of the document's reader -/
def LRd (w : World) (rb : Nat) (L : List Nat) (i : Nat) (b : Bool) : Prop := w.heap[rb]? = some (.cells #[.string (strB L), .int .i64 (i : Int), .bool b] 39 (0, 0))
def RdR (rb : Nat) (L : List Nat) (W : World) (v : Value) (s : PS) (e : Ending) (w' : World) : Prop :=
  e = .returned v ∧ But1 rb W w' ∧ ∃ j, j ≤ L.length ∧ LRd w' rb L j s.2 ∧ L.drop j = s.1
theorem LRd.set1 {w : World} {rb : Nat} {L : List Nat} {i : Nat} {b : Bool} (h : LRd w rb L i b) (j : Nat) : LRd (w.setCell ⟨rb, 1, none⟩ (.int .i64 (j : Int))) rb L j b := by
  unfold LRd
  rw [heap_set_self h]
  rfl
theorem LRd.set2 {w : World} {rb : Nat} {L : List Nat} {i : Nat} {b : Bool} (h : LRd w rb L i b) (d : Bool) : LRd (w.setCell ⟨rb, 2, none⟩ (.bool d)) rb L i d := by
  unfold LRd
  rw [heap_set_self h]
  rfl
theorem LRd.drewN {w : World} {rb : Nat} {L : List Nat} {i : Nat} {b : Bool} (h : LRd w rb L i b) (n : Nat) : LRd (w.drewN n) rb L i b := h
theorem LRd.atOf {w : World} {rb : Nat} {L : List Nat} {i : Nat} {b : Bool} (h : LRd w rb L i b) : atOf rb w = i := by
  unfold Go.Proofs.Ytgmgpbplgiicoaa.atOf
  rw [cell_of_heap h (k := 1) (v := .int .i64 (i : Int)) rfl]
  simp
theorem LRd.stOf {w : World} {rb : Nat} {L : List Nat} {i : Nat} {b : Bool} (h : LRd w rb L i b) : stOf rb w = if b = true then 0 else 1 := by
  unfold Go.Proofs.Ytgmgpbplgiicoaa.stOf
  rw [cell_of_heap h (k := 2) (v := .bool b) rfl]
  cases b <;> rfl
theorem LRd.below {w w' : World} {rb B : Nat} {L : List Nat} {i : Nat} {b : Bool} (h : LRd w rb L i b) (hb : Below B w w') (hB : rb < B) : LRd w' rb L i b := (hb.block rb hB).trans h
theorem LRd.other {w : World} {rb b g : Nat} {v : Value} {L : List Nat} {i : Nat} {d : Bool} (h : LRd w rb L i d) (hb : rb ≠ b) : LRd (w.setCell ⟨b, g, none⟩ v) rb L i d := (set_other hb).trans h

set_option maxHeartbeats 1000000 in
set_option maxRecDepth 100000 in
theorem is_any (rb : Nat) (L : List Nat) (i : Nat) (b : Bool) (c : Nat) (w : World) (hL : BytL L) (hr : LRd w rb L i b) (hi : i ≤ L.length) (hc : c < 256) :
    Calls Try.prog 27 #[.pointer (some ⟨rb, 0, none⟩), .int .u8 (c : Int)] w fun e w' => e = .returned (.bool (isC c (L.drop i, b))) ∧ ∃ k, w' = w.drewN k := by
  have r0 := cell_of_heap hr (k := 0) rfl
  have r1 := cell_of_heap hr (k := 1) rfl
  have r2 := cell_of_heap hr (k := 2) rfl
  have hsz := strB_size L
  have hlen := hL.l
  cases b with
  | true =>
    have e1 : isC c (L.drop i, true) = false := isC_bad _ _
    rw [e1]
    clear e1 hr hL
    go_enter Try.func27, Try.ntmps27
    go_wp2
    go_quiet (fail)
    go_wp2
    go_ret
    exact ⟨rfl, _, rfl⟩
  | false =>
    by_cases h : i = L.length
    · have e1 : isC c (L.drop i, false) = false := by rw [h, List.drop_length]; exact isC_nil _ _
      rw [e1]
      have d1 : ¬ (i : Int) < (L.length : Int) := by omega
      have d2 : decide ((i : Int) < (L.length : Int)) = false := decide_eq_false d1
      have d3 : decide (i < L.length) = false := decide_eq_false (by omega)
      clear e1 hr hL h
      go_enter Try.func27, Try.ntmps27
      go_wp2
      go_quiet (fail)
      go_wp2
      go_ret
      exact ⟨rfl, _, rfl⟩
    · obtain ⟨x, hx⟩ : ∃ x, L[i]? = some x := ⟨L[i]'(by omega), List.getElem?_eq_getElem (by omega)⟩
      have hat := fun W => run_at L hL.b i x hx W
      have d1 : (i : Int) < (L.length : Int) := by omega
      have d2 : decide ((i : Int) < (L.length : Int)) = true := decide_eq_true d1
      have d3 : decide (i < L.length) = true := decide_eq_true (by omega)
      by_cases hxc : x = c
      · have e1 : isC c (L.drop i, false) = true := by rw [isC_at, hx]; simp [hxc]
        rw [e1]
        subst hxc
        clear e1 hr hL h hx
        go_enter Try.func27, Try.ntmps27
        go_wp2
        go_quiet (fail)
        go_wp2
        go_ret
        exact ⟨rfl, _, rfl⟩
      · have e1 : isC c (L.drop i, false) = false := by rw [isC_at, hx]; simp [hxc]
        rw [e1]
        have d4 : ((x : Int) == (c : Int)) = false := beq_false_of_ne (by omega)
        have d5 : decide ((x : Int) = (c : Int)) = false := decide_eq_false (by omega)
        have d6 : (x == c) = false := beq_false_of_ne hxc
        clear e1 hr hL h hx hxc
        go_enter Try.func27, Try.ntmps27
        go_wp2
        go_quiet (fail)
        go_wp2
        go_ret
        exact ⟨by first | rfl | (rw [d4]), _, rfl⟩

set_option maxHeartbeats 1000000 in
set_option maxRecDepth 100000 in
theorem sign_any (rb : Nat) (L : List Nat) (i : Nat) (b : Bool) (c : Nat) (w : World) (hL : BytL L) (hr : LRd w rb L i b) (hi : i ≤ L.length) (hc : c < 256) :
    Calls Try.prog 25 #[.pointer (some ⟨rb, 0, none⟩), .int .u8 (c : Int)] w (RdR rb L w (.tuple #[]) (passP c (L.drop i, b))) := by
  have hs := is_any rb L i b c w hL hr hi hc
  have HR := Lib.hid hr
  have hlen := hL.l
  cases hd : isC c (L.drop i, b) with
  | true =>
    rw [hd] at hs
    have HS := Lib.hid hs
    obtain ⟨r, er⟩ := isC_elim hd
    have hdr : L.drop i = c :: r := congrArg Prod.fst er
    have hb0 : b = false := congrArg Prod.snd er
    have hlt : i < L.length := by
      have := congrArg List.length hdr
      simp only [List.length_drop, List.length_cons] at this
      omega
    have e1 : passP c (L.drop i, b) = (L.drop (i + 1), b) := by
      unfold passP
      rw [hd, if_pos rfl]
      simp
    rw [e1]
    have r1 := cell_of_heap hr (k := 1) rfl
    have f1 := free_of_heap (k := 1) hr
    have HI : Hid (i + 1 ≤ L.length) := Lib.hid hlt
    clear hd er hdr hlt e1 hs hr
    go_enter Try.func25, Try.ntmps25
    go_wp2_with (go_at_call 27; refine HS.out.mono ?_; rintro e w2 ⟨rfl, k, rfl⟩)
    go_end0
    exact ⟨rfl, But1.setCell ((But1.refl rb w).drewN _) (x := ⟨rb, 1, none⟩) (.inl rfl) _, i + 1, HI.out, LRd.set1 (HR.out.drewN k) (i + 1), rfl⟩
  | false =>
    rw [hd] at hs
    have HS := Lib.hid hs
    have e1 : passP c (L.drop i, b) = (L.drop i, true) := by
      unfold passP
      rw [hd]
      rfl
    rw [e1]
    have r2 := cell_of_heap hr (k := 2) rfl
    have f2 := free_of_heap (k := 2) hr
    clear hd e1 hs hr
    go_enter Try.func25, Try.ntmps25
    go_wp2_with (go_at_call 27; refine HS.out.mono ?_; rintro e w2 ⟨rfl, k, rfl⟩)
    go_end0
    exact ⟨rfl, But1.setCell ((But1.refl rb w).drewN _) (x := ⟨rb, 2, none⟩) (.inl rfl) _, i, hi, LRd.set2 (HR.out.drewN k) true, rfl⟩
end Go.Proofs.Ytgmgpbplgiicoaa
