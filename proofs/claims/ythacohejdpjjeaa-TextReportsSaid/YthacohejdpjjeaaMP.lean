/- Walks of the reader of lines: a byte is passed, or not; a digit is looked at. -/
import Derived.Test.YthacohejdpjjeaaMO
namespace Go.Proofs.Ythacohejdpjjeaa
open Go.RowKit Go.Lib Go.Sort

/-- the reader's block -/
def TRd (w : World) (rb : Nat) (L : List Nat) (i : Nat) (b : Bool) : Prop := w.heap[rb]? = some (.cells #[.string (strB L), .int .i64 (i : Int), .bool b] 94 (0, 0))
/-- bytes, not too many -/
structure BytL (L : List Nat) : Prop where
  b : ∀ x ∈ L, x < 256
  l : L.length ≤ 9223372036854775806
/-- what a reading leaves: a value, and where the reader then is -/
def RdP (rb : Nat) (L : List Nat) (W : World) (v : Value) (s : PS) (e : Ending) (w' : World) : Prop :=
  e = .returned v ∧ But1 rb W w' ∧ ∃ j, j ≤ L.length ∧ TRd w' rb L j s.2 ∧ L.drop j = s.1
def skipP (c : Nat) (s : PS) : PS := if isC c s = true then (s.1.tail, s.2) else s
theorem head_drop (L : List Nat) (i : Nat) : (L.drop i).head? = L[i]? := by simp [List.head?_drop]
theorem isC_at {c : Nat} {L : List Nat} {i : Nat} : isC c (L.drop i, false) = decide (L[i]? = some c) := by rw [isC0, head_drop]
theorem TRd.set1 {w : World} {rb : Nat} {L : List Nat} {i : Nat} {b : Bool} (h : TRd w rb L i b) (j : Nat) : TRd (w.setCell ⟨rb, 1, none⟩ (.int .i64 (j : Int))) rb L j b := by
  unfold TRd
  rw [heap_set_self h]
  rfl
theorem TRd.set2 {w : World} {rb : Nat} {L : List Nat} {i : Nat} {b : Bool} (h : TRd w rb L i b) (d : Bool) : TRd (w.setCell ⟨rb, 2, none⟩ (.bool d)) rb L i d := by
  unfold TRd
  rw [heap_set_self h]
  rfl

set_option maxHeartbeats 1000000 in
set_option maxRecDepth 100000 in
theorem skip_any (rb : Nat) (L : List Nat) (i : Nat) (b : Bool) (c : Nat) (w : World) (hL : BytL L) (hr : TRd w rb L i b) (hi : i ≤ L.length) (hc : c < 256) :
    Calls Try.prog 60 #[.pointer (some ⟨rb, 0, none⟩), .int .u8 (c : Int)] w (RdP rb L w (.bool (isC c (L.drop i, b))) (skipP c (L.drop i, b))) := by
  have r0 := cell_of_heap hr (k := 0) rfl
  have r1 := cell_of_heap hr (k := 1) rfl
  have r2 := cell_of_heap hr (k := 2) rfl
  have f1 := free_of_heap (k := 1) hr
  have HR := Lib.hid hr
  have hsz := strB_size L
  have hlen := hL.l
  cases b with
  | true =>
    have e1 : isC c (L.drop i, true) = false := isC_bad _ _
    have e2 : skipP c (L.drop i, true) = (L.drop i, true) := by unfold skipP; rw [e1]; rfl
    rw [e1, e2]
    clear e1 e2 hr hL
    go_enter Try.func60, Try.ntmps60
    go_wp2
    go_quiet (fail)
    go_wp2
    go_ret
    exact ⟨rfl, (But1.refl rb w).drewN _, i, hi, HR.out, rfl⟩
  | false =>
    by_cases h : i = L.length
    · have e1 : isC c (L.drop i, false) = false := by rw [h, List.drop_length]; exact isC_nil _ _
      have e2 : skipP c (L.drop i, false) = (L.drop i, false) := by unfold skipP; rw [e1]; rfl
      rw [e1, e2]
      have d1 : ((i : Int) == (L.length : Int)) = true := by rw [beq_iff_eq]; omega
      clear e1 e2 hr hL h
      go_enter Try.func60, Try.ntmps60
      go_wp2
      go_quiet (fail)
      go_wp2
      go_ret
      exact ⟨rfl, (But1.refl rb w).drewN _, i, hi, HR.out, rfl⟩
    · obtain ⟨x, hx⟩ : ∃ x, L[i]? = some x := ⟨L[i]'(by omega), List.getElem?_eq_getElem (by omega)⟩
      have hat := fun W => run_at L hL.b i x hx W
      have d1 : ((i : Int) == (L.length : Int)) = false := beq_false_of_ne (by omega)
      by_cases hxc : x = c
      · have e1 : isC c (L.drop i, false) = true := by rw [isC_at, hx]; simp [hxc]
        have e2 : skipP c (L.drop i, false) = (L.drop (i + 1), false) := by
          unfold skipP; rw [e1, if_pos rfl]; simp
        rw [e1, e2]
        subst hxc
        have hb := hL.b x (List.mem_of_getElem? hx)
        have HI : Hid (i + 1 ≤ L.length) := Lib.hid (by omega)
        clear e1 e2 hr hL h hx
        go_enter Try.func60, Try.ntmps60
        go_wp2
        go_quiet (fail)
        go_wp2
        go_ret
        refine ⟨rfl, But1.setCell (x := ⟨rb, 1, none⟩) ((But1.refl rb w).drewN _) (.inl rfl) _, i + 1, HI.out, ?_, rfl⟩
        exact TRd.set1 (w := World.drewN _ _) HR.out (i + 1)
      · have e1 : isC c (L.drop i, false) = false := by rw [isC_at, hx]; simp [hxc]
        have e2 : skipP c (L.drop i, false) = (L.drop i, false) := by unfold skipP; rw [e1]; rfl
        rw [e1, e2]
        have d2 : ((x : Int) == (c : Int)) = false := beq_false_of_ne (by omega)
        have d3 : decide ((x : Int) = (c : Int)) = false := decide_eq_false (by omega)
        have d4 : (x == c) = false := beq_false_of_ne hxc
        clear e1 e2 hr hL h hx hxc
        go_enter Try.func60, Try.ntmps60
        go_wp2
        go_quiet (fail)
        go_wp2
        go_ret
        exact ⟨rfl, (But1.refl rb w).drewN _, i, hi, HR.out, rfl⟩

set_option maxHeartbeats 1000000 in
set_option maxRecDepth 100000 in
theorem pass_any (rb : Nat) (L : List Nat) (i : Nat) (b : Bool) (c : Nat) (w : World) (hL : BytL L) (hr : TRd w rb L i b) (hi : i ≤ L.length) (hc : c < 256) :
    Calls Try.prog 54 #[.pointer (some ⟨rb, 0, none⟩), .int .u8 (c : Int)] w (RdP rb L w (.tuple #[]) (passP c (L.drop i, b))) := by
  have hs := skip_any rb L i b c w hL hr hi hc
  obtain ⟨d, hd⟩ : ∃ d, isC c (L.drop i, b) = d := ⟨_, rfl⟩
  have e1 : passP c (L.drop i, b) = if d = true then skipP c (L.drop i, b) else ((skipP c (L.drop i, b)).1, true) := by
    unfold passP skipP
    rw [hd]
    cases d <;> rfl
  rw [e1]
  rw [hd] at hs
  generalize skipP c (L.drop i, b) = q at hs ⊢
  obtain ⟨l, b1⟩ := q
  have HS := Lib.hid hs
  clear e1 hd hr hs
  cases d with
  | true =>
    rw [if_pos rfl]
    go_enter Try.func54, Try.ntmps54
    go_wp2_with fail
    refine HS.out.mono ?_
    rintro e w1 ⟨rfl, hb1, j, hj, hr1, hd1⟩
    have HE := Lib.hid (And.intro hb1 (And.intro hr1 hd1))
    clear hb1 hr1 hd1
    go_wp2_with fail
    go_end0
    exact ⟨rfl, HE.out.1, j, hj, HE.out.2.1, HE.out.2.2⟩
  | false =>
    rw [if_neg (by simp)]
    go_enter Try.func54, Try.ntmps54
    go_wp2_with fail
    refine HS.out.mono ?_
    rintro e w1 ⟨rfl, hb1, j, hj, hr1, hd1⟩
    have r2 := cell_of_heap hr1 (k := 2) rfl
    have f2 := free_of_heap (k := 2) hr1
    have HE := Lib.hid (And.intro hb1 (And.intro hr1 hd1))
    clear hb1 hr1 hd1
    go_wp2_with fail
    go_end0
    exact ⟨rfl, But1.setCell HE.out.1 (x := ⟨rb, 2, none⟩) (.inl rfl) _, j, hj, TRd.set2 HE.out.2.1 true, HE.out.2.2⟩

/-- the digit that is next -/
def digV (s : PS) : Value := if s.2 = true then .tuple #[.int .u64 0, .bool false] else match digO s.1 with | none => .tuple #[.int .u64 0, .bool false] | some d => .tuple #[.int .u64 (d : Int), .bool true]

set_option maxHeartbeats 1000000 in
set_option maxRecDepth 100000 in
theorem digit_any (rb : Nat) (L : List Nat) (i : Nat) (b : Bool) (w : World) (hL : BytL L) (hr : TRd w rb L i b) (hi : i ≤ L.length) :
    Calls Try.prog 61 #[.pointer (some ⟨rb, 0, none⟩)] w fun e w' => e = .returned (digV (L.drop i, b)) ∧ ∃ k, w' = w.drewN k := by
  have r0 := cell_of_heap hr (k := 0) rfl
  have r1 := cell_of_heap hr (k := 1) rfl
  have r2 := cell_of_heap hr (k := 2) rfl
  have hsz := strB_size L
  have hlen := hL.l
  cases b with
  | true =>
    have e1 : digV (L.drop i, true) = .tuple #[.int .u64 0, .bool false] := rfl
    rw [e1]
    clear e1 hr hL
    go_enter Try.func61, Try.ntmps61
    go_wp2
    go_quiet (fail)
    go_wp2
    go_ret2
    exact ⟨rfl, _, rfl⟩
  | false =>
    by_cases h : i = L.length
    · have e1 : digV (L.drop i, false) = .tuple #[.int .u64 0, .bool false] := by rw [h, List.drop_length]; rfl
      rw [e1]
      have d1 : ((i : Int) == (L.length : Int)) = true := by rw [beq_iff_eq]; omega
      clear e1 hr hL h
      go_enter Try.func61, Try.ntmps61
      go_wp2
      go_quiet (fail)
      go_wp2
      go_ret2
      exact ⟨rfl, _, rfl⟩
    · obtain ⟨x, hx⟩ : ∃ x, L[i]? = some x := ⟨L[i]'(by omega), List.getElem?_eq_getElem (by omega)⟩
      have hat := fun W => run_at L hL.b i x hx W
      have d1 : ((i : Int) == (L.length : Int)) = false := beq_false_of_ne (by omega)
      have hb := hL.b x (List.mem_of_getElem? hx)
      have hdr := drop_consG hx
      by_cases h1 : x < 48
      · have e1 : digV (L.drop i, false) = .tuple #[.int .u64 0, .bool false] := by
          rw [hdr]
          simp only [digV, digO]
          rw [if_neg (by simp), if_neg (by omega)]
        rw [e1]
        have d2 : (x : Int) < 48 := by omega
        clear e1 hr hL h hx hdr h1
        go_enter Try.func61, Try.ntmps61
        go_wp2
        go_quiet (fail)
        go_wp2
        go_quiet (fail)
        go_wp2
        go_ret2
        exact ⟨rfl, _, rfl⟩
      · by_cases h2 : 57 < x
        · have e1 : digV (L.drop i, false) = .tuple #[.int .u64 0, .bool false] := by
            rw [hdr]
            simp only [digV, digO]
            rw [if_neg (by simp), if_neg (by omega)]
          rw [e1]
          have d2 : ¬ (x : Int) < 48 := by omega
          have d3 : 57 < (x : Int) := by omega
          clear e1 hr hL h hx hdr h1 h2
          go_enter Try.func61, Try.ntmps61
          go_wp2
          go_quiet (fail)
          go_wp2
          go_quiet (fail)
          go_wp2
          go_ret2
          exact ⟨rfl, _, rfl⟩
        · obtain ⟨d, rfl⟩ : ∃ d, x = 48 + d := ⟨x - 48, by omega⟩
          have e1 : digV (L.drop i, false) = .tuple #[.int .u64 (d : Int), .bool true] := by
            rw [hdr]
            simp only [digV, digO]
            rw [if_neg (by simp), if_pos (by omega)]
            simp
          rw [e1]
          have ex : ((48 + d : Nat) : Int) = 48 + (d : Int) := by omega
          rw [ex] at hat
          have hd10 : d < 10 := by omega
          clear e1 hr hL h hx hdr h1 h2 ex hb
          go_enter Try.func61, Try.ntmps61
          go_wp2
          go_quiet (fail)
          go_wp2
          go_quiet (fail)
          go_wp2
          go_ret2
          refine ⟨?_, _, rfl⟩
          show Ending.returned (.tuple #[.int .u64 (48 + (d : Int) - 48), .bool true]) = _
          rw [show 48 + (d : Int) - 48 = d by omega]
end Go.Proofs.Ythacohejdpjjeaa
