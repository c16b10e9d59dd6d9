/- Walks of the reader of a whole script, and of Decode. -/
import Derived.Test.YticaheiomidanaaIE
import Derived.Tactics
import Derived.Tactics2
import Derived.Defers
import Derived.Recover
import Derived.Laws.Pointers
namespace Go.Proofs.Yticaheiomidanaa
open Go.RowKit

structure ScD where
  n : Nat
  specs : List SpV
  calls : List CaV
  picks : List Nat
def pScript (l : List Nat) : Option (ScD × List Nat) := match pThreads l with
  | none => none
  | some (n, r) => match pSpecs r with
    | none => none
    | some (s, r2) => match pCalls n r2 with
      | none => none
      | some (c, r3) => match pPicks r3 with
        | none => none
        | some (p, r4) => some (⟨n, s, c, p⟩, r4)
abbrev scA (n : Nat) (vs vc vp : Value) : Value := .agg #[.int .i64 (n : Int), vs, vc, vp]
abbrev scO (n : Nat) (vs vc vp : Value) : Obj := .cells #[.int .i64 (n : Int), vs, vc, vp] 26
abbrev nilV : Value := .slice none 0 0
def scriptV (B : Nat) (x : ScD) (u : Value) (w : World) : Prop :=
  ∃ vs vc vp, u = scA x.n vs vc vp ∧ specsV B x.specs vs w ∧ callsV B x.calls vc w ∧ picksV B x.picks vp w

set_option maxHeartbeats 2000000 in
set_option maxRecDepth 100000 in
theorem script_any (rb : Nat) (ao : Option Addr) (b o c : Nat) (L : List Nat) (j1 : Nat) (w : World) (hs : Src w rb ao b o L) (hr : RdS w rb ao L c j1) (hj1 : j1 ≤ L.length) :
    Calls Try.prog 30 #[.pointer (some ⟨rb, 0, none⟩)] w (RP rb ao c L w (pScript (L.drop j1)) (scriptV (rb + 1))) := by
  have hrw := lt_of_heap hr
  have HS := Lib.hid hs
  have HB0 := Lib.hid ((But1.refl rb w).alloc (scO 0 nilV nilV nilV))
  have HR0 := Lib.hid (hr.alloc (scO 0 nilV nilV nilV))
  have HQ0 := Lib.hid (heap_new w (scO 0 nilV nilV nilV))
  have hs0 : (w.alloc (scO 0 nilV nilV nilV)).heap.size = w.heap.size + 1 := by simp
  have HS0 : Hid (w.heap.size < (w.alloc (scO 0 nilV nilV nilV)).heap.size) := Lib.hid (by omega)
  have HGQ : Hid (w.heap.size ≠ rb) := Lib.hid (by omega)
  clear hs hr hs0
  go_enter Try.func30, Try.ntmps30
  go_wp2_with fail
  generalize hW0 : w.alloc (scO 0 nilV nilV nilV) = W0 at HB0 HR0 HQ0 HS0 ⊢
  clear hW0
  have X := threads_any rb ao b o c L j1 W0 (HS.out.keep hrw HB0.out) HR0.out hj1
  cases h1 : pThreads (L.drop j1) with
  | none =>
    rw [h1] at X
    refine X.mono ?_
    rintro e w9 ⟨hb, p, r, hp1, hp2, hr1, hr2, rfl⟩
    go_wp2_with fail
    rw [show pScript (L.drop j1) = none by unfold pScript; rw [h1]]
    exact bad_end rfl (HB0.out.trans hb) ⟨p, r, hp1, hp2, hr1, hr2, rfl⟩
  | some q =>
    obtain ⟨n0, rr⟩ := q
    rw [h1] at X
    refine X.mono ?_
    rintro e W1 ⟨hb, u1, j2, rfl, hu, rfl, hj2, hr1⟩
    obtain rfl := hu
    have H1 := Lib.hid h1
    have HB1 := Lib.hid (HB0.out.trans hb)
    have HR1 := Lib.hid hr1
    have HQ1 := Lib.hid (hb.at HQ0.out HGQ.out)
    have HS1 : Hid (w.heap.size < W1.heap.size) := Lib.hid (lt_of_heap HQ1.out)
    clear hb hr1 X h1
    go_wp2_with fail
    have X := specs_any rb ao b o c L j2 W1 (HS.out.keep hrw HB1.out) HR1.out hj2
    cases h2 : pSpecs (L.drop j2) with
    | none =>
      rw [h2] at X
      refine X.mono ?_
      rintro e w9 ⟨hb, p, r, hp1, hp2, hr1, hr2, rfl⟩
      go_wp2_with fail
      rw [show pScript (L.drop j1) = none by unfold pScript; rw [H1.out]; simp only; rw [h2]]
      exact bad_end rfl (HB1.out.trans hb) ⟨p, r, hp1, hp2, hr1, hr2, rfl⟩
    | some q =>
      obtain ⟨ls, rr⟩ := q
      rw [h2] at X
      refine X.mono ?_
      rintro e w2 ⟨hb, u2, j3, rfl, hu, rfl, hj3, hr1⟩
      have HO2 := Lib.hid hu
      have HZ2 : Hid (rb < W1.heap.size) := Lib.hid (lt_of_heap HR1.out)
      have HG2 : Hid (w.heap.size < W1.heap.size) := Lib.hid HS1.out
      have H2 := Lib.hid h2
      have HB2 := Lib.hid (HB1.out.trans hb)
      have HR2 := Lib.hid hr1
      have HQ2 := Lib.hid (hb.at HQ1.out HGQ.out)
      have HS2 : Hid (w.heap.size < w2.heap.size) := Lib.hid (lt_of_heap HQ2.out)
      clear hb hr1 X h2 hu
      go_wp2_with fail
      have X := calls_any n0 rb ao b o c L j3 w2 (HS.out.keep hrw HB2.out) HR2.out hj3
      cases h3 : pCalls n0 (L.drop j3) with
      | none =>
        rw [h3] at X
        refine X.mono ?_
        rintro e w9 ⟨hb, p, r, hp1, hp2, hr1, hr2, rfl⟩
        go_wp2_with fail
        rw [show pScript (L.drop j1) = none by unfold pScript; rw [H1.out]; simp only; rw [H2.out]; simp only; rw [h3]]
        exact bad_end rfl (HB2.out.trans hb) ⟨p, r, hp1, hp2, hr1, hr2, rfl⟩
      | some q =>
        obtain ⟨lc, rr⟩ := q
        rw [h3] at X
        refine X.mono ?_
        rintro e w3 ⟨hb, u3, j4, rfl, hu, rfl, hj4, hr1⟩
        have HO3 := Lib.hid hu
        have HZ3 : Hid (rb < w2.heap.size) := Lib.hid (lt_of_heap HR2.out)
        have HG3 : Hid (w.heap.size < w2.heap.size) := Lib.hid HS2.out
        have H3 := Lib.hid h3
        have HB3 := Lib.hid (HB2.out.trans hb)
        have HR3 := Lib.hid hr1
        have HQ3 := Lib.hid (hb.at HQ2.out HGQ.out)
        have HS3 : Hid (w.heap.size < w3.heap.size) := Lib.hid (lt_of_heap HQ3.out)
        have HO23 := Lib.hid (hb.own HO2.out HZ2.out)
        clear hb hr1 X h3 hu
        go_wp2_with fail
        have X := picks_any rb ao b o c L j4 w3 (HS.out.keep hrw HB3.out) HR3.out hj4
        cases h4 : pPicks (L.drop j4) with
        | none =>
          rw [h4] at X
          refine X.mono ?_
          rintro e w9 ⟨hb, p, r, hp1, hp2, hr1, hr2, rfl⟩
          go_wp2_with fail
          rw [show pScript (L.drop j1) = none by unfold pScript; rw [H1.out]; simp only; rw [H2.out]; simp only; rw [H3.out]; simp only; rw [h4]]
          exact bad_end rfl (HB3.out.trans hb) ⟨p, r, hp1, hp2, hr1, hr2, rfl⟩
        | some q =>
          obtain ⟨lp, rr⟩ := q
          rw [h4] at X
          refine X.mono ?_
          rintro e w4 ⟨hb, u4, j5, rfl, hu, rfl, hj5, hr1⟩
          have HO4 := Lib.hid hu
          have HG4 : Hid (w.heap.size < w3.heap.size) := Lib.hid HS3.out
          have HZ4 : Hid (rb < w3.heap.size) := Lib.hid (lt_of_heap HR3.out)
          have H4 := Lib.hid h4
          have HB4 := Lib.hid (HB3.out.trans hb)
          have HR4 := Lib.hid hr1
          have HQ4 := Lib.hid (hb.at HQ3.out HGQ.out)
          have HS4 : Hid (w.heap.size < w4.heap.size) := Lib.hid (lt_of_heap HQ4.out)
          have HO24 := Lib.hid (hb.own HO23.out HZ2.out)
          have HO34 := Lib.hid (hb.own HO3.out HZ3.out)
          clear hb hr1 X h4 hu
          have q0 := cell_of_heap HQ4.out (k := 0) rfl
          have q1 := cell_of_heap HQ4.out (k := 1) rfl
          have q2 := cell_of_heap HQ4.out (k := 2) rfl
          have q3 := cell_of_heap HQ4.out (k := 3) rfl
          have f0 := fun k => free_of_heap (k := k) HQ4.out
          have E : Hid (pScript (L.drop j1) = some (⟨n0, ls, lc, lp⟩, L.drop j5)) := Lib.hid (by unfold pScript; rw [H1.out]; simp only; rw [H2.out]; simp only; rw [H3.out]; simp only; rw [H4.out])
          have HO24' := HO24
          have HO34' := HO34
          obtain ⟨a2, g2, c2, rfl, -, -, -, -⟩ := owns_open HO24.out
          obtain ⟨a3, g3, c3, rfl, -, -, -, -⟩ := owns_open HO34.out
          obtain ⟨a4, g4, c4, rfl, -, -, -, -⟩ := owns_open HO4.out
          go_wp2_with fail
          have g1 := heap_set_self (k := 0) (v := .int .i64 (n0 : Int)) HQ4.out
          have g2' := heap_set_self (k := 1) (v := .slice a2 ls.length c2) g1
          have g3' := heap_set_self (k := 2) (v := .slice a3 lc.length c3) g2'
          have g4' := heap_set_self (k := 3) (v := .slice a4 lp.length c4) g3'
          have B4 := (((HB4.out.setCell (x := ⟨w.heap.size, 0, none⟩) (.inr (Nat.le_refl _)) (.int .i64 (n0 : Int))).setCell (x := ⟨w.heap.size, 1, none⟩) (.inr (Nat.le_refl _)) (.slice a2 ls.length c2)).setCell (x := ⟨w.heap.size, 2, none⟩) (.inr (Nat.le_refl _)) (.slice a3 lc.length c3)).setCell (x := ⟨w.heap.size, 3, none⟩) (.inr (Nat.le_refl _)) (.slice a4 lp.length c4)
          have R4 := (((HR4.out.other (x := ⟨w.heap.size, 0, none⟩) HGQ.out (.int .i64 (n0 : Int))).other (x := ⟨w.heap.size, 1, none⟩) HGQ.out (.slice a2 ls.length c2)).other (x := ⟨w.heap.size, 2, none⟩) HGQ.out (.slice a3 lc.length c3)).other (x := ⟨w.heap.size, 3, none⟩) HGQ.out (.slice a4 lp.length c4)
          have X4 := ((((But1.refl w.heap.size w4).setCell (x := ⟨w.heap.size, 0, none⟩) (.inl rfl) (.int .i64 (n0 : Int))).setCell (x := ⟨w.heap.size, 1, none⟩) (.inl rfl) (.slice a2 ls.length c2)).setCell (x := ⟨w.heap.size, 2, none⟩) (.inl rfl) (.slice a3 lc.length c3)).setCell (x := ⟨w.heap.size, 3, none⟩) (.inl rfl) (.slice a4 lp.length c4)
          clear q0 q1 q2 q3 f0 g1 g2' g3'
          generalize (((w4.setCell ⟨w.heap.size, 0, none⟩ (.int .i64 (n0 : Int))).setCell ⟨w.heap.size, 1, none⟩ (.slice a2 ls.length c2)).setCell ⟨w.heap.size, 2, none⟩ (.slice a3 lc.length c3)).setCell ⟨w.heap.size, 3, none⟩ (.slice a4 lp.length c4) = W7 at g4' B4 R4 X4 ⊢
          have e0 := cell_of_heap g4' (k := 0) (v := .int .i64 (n0 : Int)) rfl
          have e1 := cell_of_heap g4' (k := 1) (v := .slice a2 ls.length c2) rfl
          have e2 := cell_of_heap g4' (k := 2) (v := .slice a3 lc.length c3) rfl
          have e3 := cell_of_heap g4' (k := 3) (v := .slice a4 lp.length c4) rfl
          rw [E.out]
          refine bodyPost_ret (v := scA n0 (.slice a2 ls.length c2) (.slice a3 lc.length c3) (.slice a4 lp.length c4)) (by simp [results, Try.results30, go_sem, e0, e1, e2, e3]) rfl ⟨B4, _, j5, rfl, ⟨_, _, _, rfl, own_lower (X4.own HO24.out HG2.out) HZ2.out, own_lower (X4.own HO34.out HG3.out) HZ3.out, own_lower (X4.own HO4.out HG4.out) HZ4.out⟩, rfl, hj5, R4⟩

abbrev faultV (p r : Int) : Value := .iface 71 (.agg #[.int .i64 p, .int .i64 r])
/-- all blocks but p and q, of those that there were, are as they were -/
structure But2 (p q : Nat) (w w' : World) : Prop where
  os : w'.os = w.os
  tape : w'.tape = w.tape
  output : w'.output = w.output
  size : w.heap.size ≤ w'.heap.size
  block : ∀ k, k < w.heap.size → k ≠ p → k ≠ q → w'.heap[k]? = w.heap[k]?
theorem But2.refl (p q : Nat) (w : World) : But2 p q w w := ⟨rfl, rfl, rfl, Nat.le_refl _, fun _ _ _ _ => rfl⟩
theorem But2.alloc {p q : Nat} {a w : World} (h : But2 p q a w) (o : Obj) : But2 p q a (w.alloc o) :=
  ⟨h.os, h.tape, h.output, Nat.le_trans h.size (by simp), fun i hi h1 h2 => (Below.heap_alloc w o i (Nat.lt_of_lt_of_le hi h.size)).trans (h.block i hi h1 h2)⟩
theorem But2.setCell {p q : Nat} {a w : World} (h : But2 p q a w) {x : Addr} (hx : x.block = p ∨ x.block = q ∨ a.heap.size ≤ x.block) (v : Value) : But2 p q a (w.setCell x v) :=
  ⟨h.os, h.tape, h.output, by simpa [World.setCell] using h.size, fun i hi h1 h2 => (Below.heap_setCell w x v i (by rcases hx with hx | hx | hx <;> omega)).trans (h.block i hi h1 h2)⟩
theorem But2.drewN {p q : Nat} {a w : World} (h : But2 p q a w) (n : Nat) : But2 p q a (w.drewN n) := ⟨h.os, h.tape, h.output, h.size, h.block⟩

theorem catch_idle (p q : Addr) (w : World) :
    CallsD Try.prog 29 #[.pointer (some p), .pointer (some q)] .returning w fun e u' w' => e = .returned (.tuple #[]) ∧ u' = .returning ∧ w' = w := by
  refine callsD_of_wpS Try.func29 rfl fun c₀ cs hu => ?_
  apply wpS_seq
  apply wpS_region
  simp [wpOpsS, go_sem, recoverD, hu, Try.ntmps29, Exit.thenS]
  refine wpS_of_wp ?_
  go_wp2
  cases c₀
  simp_all [bodyPostS, results, Try.results29]
theorem catch_panicking (p q : Nat) (x y : Int) (P r : Int) (older : List PanicEntry) (w : World) (hpq : p ≠ q) (hp : w.heap[p]? = some (.cells #[.int .i64 x] 3)) (hq : w.heap[q]? = some (.cells #[.int .i64 y] 29)) :
    CallsD Try.prog 29 #[.pointer (some ⟨p, 0, none⟩), .pointer (some ⟨q, 0, none⟩)] (.panicking ({ v := faultV P r, recovered := false } :: older)) w fun e u' w' =>
      e = .returned (.tuple #[]) ∧ u' = .panicking ({ v := faultV P r, recovered := true } :: older) ∧ w'.heap[p]? = some (.cells #[.int .i64 P] 3) ∧ w'.heap[q]? = some (.cells #[.int .i64 r] 29) ∧ But2 p q w w' := by
  have c1 := cell_of_heap hp (k := 0) rfl
  have c2 := cell_of_heap hq (k := 0) rfl
  have z1 := free_of_heap (k := 0) hp
  have z2 := free_of_heap (k := 0) hq
  have l1 := lt_of_heap hp
  have l2 := lt_of_heap hq
  have hres : ∀ (t : Array Value) (v : World), (results Try.f29 t).run Try.prog v = .ok (.tuple #[]) v := fun t v => by simp [results, Try.results29]
  have F12 : (((w.setCell ⟨p, 0, none⟩ (.int .i64 P)).setCell ⟨q, 0, none⟩ (.int .i64 r)).alloc (.cells #[.int .i64 P, .int .i64 r] 71)).drew.heap[p]? = some (.cells #[.int .i64 P] 3) ∧
      (((w.setCell ⟨p, 0, none⟩ (.int .i64 P)).setCell ⟨q, 0, none⟩ (.int .i64 r)).alloc (.cells #[.int .i64 P, .int .i64 r] 71)).drew.heap[q]? = some (.cells #[.int .i64 r] 29) ∧
      But2 p q w (((w.setCell ⟨p, 0, none⟩ (.int .i64 P)).setCell ⟨q, 0, none⟩ (.int .i64 r)).alloc (.cells #[.int .i64 P, .int .i64 r] 71)).drew := by
    have a1 := heap_set_self (k := 0) (v := .int .i64 P) hp
    have a2 := (Below.heap_setCell (w.setCell ⟨p, 0, none⟩ (.int .i64 P)) ⟨q, 0, none⟩ (.int .i64 r) p hpq).trans a1
    have b1 := (Below.heap_setCell w ⟨p, 0, none⟩ (.int .i64 P) q (Ne.symm hpq)).trans hq
    have b2 := heap_set_self (k := 0) (v := .int .i64 r) b1
    refine ⟨(Below.heap_alloc _ _ p (lt_of_heap a2)).trans a2, (Below.heap_alloc _ _ q (lt_of_heap b2)).trans b2, ?_⟩
    exact (((((But2.refl p q w).setCell (x := ⟨p, 0, none⟩) (.inl rfl) _).setCell (x := ⟨q, 0, none⟩) (.inr (.inl rfl)) _).alloc _).drewN 1)
  have F21 : (((w.setCell ⟨q, 0, none⟩ (.int .i64 r)).setCell ⟨p, 0, none⟩ (.int .i64 P)).alloc (.cells #[.int .i64 P, .int .i64 r] 71)).drew.heap[p]? = some (.cells #[.int .i64 P] 3) ∧
      (((w.setCell ⟨q, 0, none⟩ (.int .i64 r)).setCell ⟨p, 0, none⟩ (.int .i64 P)).alloc (.cells #[.int .i64 P, .int .i64 r] 71)).drew.heap[q]? = some (.cells #[.int .i64 r] 29) ∧
      But2 p q w (((w.setCell ⟨q, 0, none⟩ (.int .i64 r)).setCell ⟨p, 0, none⟩ (.int .i64 P)).alloc (.cells #[.int .i64 P, .int .i64 r] 71)).drew := by
    have a1 := (Below.heap_setCell w ⟨q, 0, none⟩ (.int .i64 r) p hpq).trans hp
    have a2 := heap_set_self (k := 0) (v := .int .i64 P) a1
    have b1 := heap_set_self (k := 0) (v := .int .i64 r) hq
    have b2 := (Below.heap_setCell (w.setCell ⟨q, 0, none⟩ (.int .i64 r)) ⟨p, 0, none⟩ (.int .i64 P) q (Ne.symm hpq)).trans b1
    refine ⟨(Below.heap_alloc _ _ p (lt_of_heap a2)).trans a2, (Below.heap_alloc _ _ q (lt_of_heap b2)).trans b2, ?_⟩
    exact (((((But2.refl p q w).setCell (x := ⟨q, 0, none⟩) (.inr (.inl rfl)) _).setCell (x := ⟨p, 0, none⟩) (.inl rfl) _).alloc _).drewN 1)
  have HF12 := Lib.hid F12
  have HF21 := Lib.hid F21
  have HRES := Lib.hid hres
  clear F12 F21 hres
  refine callsD_of_wpS Try.func29 rfl fun c₀ cs hu => ?_
  apply wpS_seq
  apply wpS_region
  simp [wpOpsS, go_sem, recoverD, hu, Try.ntmps29, Exit.thenS]
  refine wpS_of_wp ?_
  have hta : ∀ v, (Instr.typeAssert (faultV P r) 20 71 false).run Try.prog v = .ok (.agg #[.int .i64 P, .int .i64 r]) v := fun _ => by
    simp [Instr.typeAssert, go_sem]
  have harr : (#[Value.pointer (some ⟨p, 0, none⟩), Value.pointer (some ⟨q, 0, none⟩)] ++ (((Array.replicate 11 undef).setIfInBounds 2 (faultV P r)).setIfInBounds 0 (faultV P r))) = #[.pointer (some ⟨p, 0, none⟩), .pointer (some ⟨q, 0, none⟩), faultV P r, undef, faultV P r, undef, undef, undef, undef, undef, undef, undef, undef] := rfl
  rw [harr]
  go_wp2
  go_region_with (fail)
  all_goals (first | exact ⟨rfl, _, rfl, .tuple #[], HRES.out _ _, rfl, rfl, HF12.out.1, HF12.out.2.1, HF12.out.2.2⟩ | exact ⟨rfl, _, rfl, .tuple #[], HRES.out _ _, rfl, rfl, HF21.out.1, HF21.out.2.1, HF21.out.2.2⟩)
end Go.Proofs.Yticaheiomidanaa
