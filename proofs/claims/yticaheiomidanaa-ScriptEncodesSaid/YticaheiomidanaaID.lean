/- Walks of the reader: a call, calls. -/
import Derived.Test.YticaheiomidanaaIC
namespace Go.Proofs.Yticaheiomidanaa
open Go.RowKit

structure CaV where
  t : Nat
  o : Nat
  k : Nat
  a : Nat
  b : Nat
  c : Nat
def CaV.cells (x : CaV) : List Value := [.int .i64 (x.t : Int), .int .i64 (x.o : Int), .int .i64 (x.k : Int), .int .u64 (x.a : Int), .int .u64 (x.b : Int), .int .u64 (x.c : Int)]
abbrev caO (t o k a b c : Int) : Obj := .cells #[.int .i64 t, .int .i64 o, .int .i64 k, .int .u64 a, .int .u64 b, .int .u64 c] 66
def pCall (N : Nat) (l : List Nat) : Option (CaV × List Nat) := match pNext l with
  | none => none
  | some (t, r) => if N ≤ t then none else match pNext r with
    | none => none
    | some (o, r2) => match pNext r2 with
      | none => none
      | some (k, r3) => match pVar 10 0 0 r3 with
        | none => none
        | some (a, r4) => match pVar 10 0 0 r4 with
          | none => none
          | some (b, r5) => match pVar 10 0 0 r5 with
            | none => none
            | some (c, r6) => some (⟨t, o, k, a, b, c⟩, r6)
def pCallA (N : Nat) : Nat → List CaV → List Nat → Option (List CaV × List Nat)
  | 0, acc, l => some (acc, l)
  | n + 1, acc, l => match pCall N l with
    | none => none
    | some (s, r) => pCallA N n (acc ++ [s]) r
def pCalls (N : Nat) (l : List Nat) : Option (List CaV × List Nat) := match pPair l with
  | none => none
  | some (n, r) => if 1000 < n then none else pCallA N n [] r
def callV' (x : CaV) (u : Value) (_ : World) : Prop := u = .agg #[.int .i64 (x.t : Int), .int .i64 (x.o : Int), .int .i64 (x.k : Int), .int .u64 (x.a : Int), .int .u64 (x.b : Int), .int .u64 (x.c : Int)]

set_option maxHeartbeats 2000000 in
set_option maxRecDepth 100000 in
theorem call_any (M : Nat) (rb : Nat) (ao : Option Addr) (b o c : Nat) (L : List Nat) (j1 : Nat) (w : World) (hs : Src w rb ao b o L) (hr : RdS w rb ao L c j1) (hj1 : j1 ≤ L.length) :
    Calls Try.prog 43 #[.pointer (some ⟨rb, 0, none⟩), .int .i64 (M : Int)] w (RP rb ao c L w (pCall M (L.drop j1)) callV') := by
  have hrw := lt_of_heap hr
  have r1 := cell_of_heap hr (k := 1) rfl
  have HS := Lib.hid hs
  have HB0 := Lib.hid (((But1.refl rb w).alloc (caO 0 0 0 0 0 0)).alloc (caO 0 0 0 0 0 0))
  have HR0 := Lib.hid ((hr.alloc (caO 0 0 0 0 0 0)).alloc (caO 0 0 0 0 0 0))
  have hs1 : (w.alloc (caO 0 0 0 0 0 0)).heap.size = w.heap.size + 1 := by simp
  have HN0 : Hid (((w.alloc (caO 0 0 0 0 0 0)).alloc (caO 0 0 0 0 0 0)).heap[w.heap.size + 1]? = some (caO 0 0 0 0 0 0)) := Lib.hid (by rw [← hs1]; exact heap_new _ _)
  have HQ0 : Hid (((w.alloc (caO 0 0 0 0 0 0)).alloc (caO 0 0 0 0 0 0)).heap[w.heap.size]? = some (caO 0 0 0 0 0 0)) := Lib.hid ((Below.heap_alloc _ _ _ (by omega)).trans (heap_new _ _))
  have hgw : w.heap.size ≤ w.heap.size + 1 := by omega
  have HGR : Hid (w.heap.size + 1 ≠ rb) := Lib.hid (by omega)
  have HGQ : Hid (w.heap.size ≠ w.heap.size + 1) := Lib.hid (by omega)
  have HGQR : Hid (w.heap.size ≠ rb) := Lib.hid (by omega)
  clear hs hr hs1
  go_enter Try.func43, Try.ntmps43
  go_wp2_with fail
  generalize hW0 : (w.alloc (caO 0 0 0 0 0 0)).alloc (caO 0 0 0 0 0 0) = W0 at HB0 HR0 HN0 HQ0 ⊢
  clear hW0
  have N := next_any rb ao b o c L j1 W0 (HS.out.keep hrw HB0.out) HR0.out hj1
  cases h1 : pNext (L.drop j1) with
  | none =>
    rw [h1] at N
    refine N.mono ?_
    rintro e w2 ⟨hb, p, r, hp1, hp2, hr1, hr2, rfl⟩
    go_wp2_with fail
    rw [show pCall M (L.drop j1) = none by unfold pCall; rw [h1]]
    exact bad_end rfl (HB0.out.trans hb) ⟨p, r, hp1, hp2, hr1, hr2, rfl⟩
  | some q =>
    obtain ⟨t0, rr⟩ := q
    rw [h1] at N
    refine N.mono ?_
    rintro e w2 ⟨hb, _, j2, rfl, rfl, rfl, hj2, hr1⟩
    have H1 := Lib.hid h1
    have hn1 := hb.at HN0.out HGR.out
    have c0 := cell_of_heap hn1 (k := 0) rfl
    have z0 := free_of_heap (k := 0) hn1
    have hn2 := heap_set_self (k := 0) (v := .int .i64 (t0 : Int)) hn1
    have HB1 := Lib.hid ((HB0.out.trans hb).setCell (x := ⟨(w.heap.size + 1), 0, none⟩) (.inr hgw) (.int .i64 (t0 : Int)))
    have HR1 := Lib.hid (hr1.other (x := ⟨(w.heap.size + 1), 0, none⟩) HGR.out (.int .i64 (t0 : Int)))
    have HQ1 := Lib.hid ((Below.heap_setCell w2 ⟨(w.heap.size + 1), 0, none⟩ (.int .i64 (t0 : Int)) _ HGQ.out).trans (hb.at HQ0.out HGQR.out))
    have HN1 : Hid ((w2.setCell ⟨(w.heap.size + 1), 0, none⟩ (.int .i64 (t0 : Int))).heap[(w.heap.size + 1)]? = some (caO t0 0 0 0 0 0)) := Lib.hid hn2
    clear hb hn1 hn2 hr1 N h1
    by_cases ht : M ≤ t0
    · have d1 : (M : Int) ≤ t0 := by omega
      have E : Hid (pCall M (L.drop j1) = none) := Lib.hid (by unfold pCall; rw [H1.out]; simp only; rw [if_pos ht])
      clear ht
      go_wp2_with fail
      rw [E.out]
      exact bad_end rfl HB1.out ⟨j1, 10, by omega, by omega, by decide, by decide, rfl⟩
    have d1 : ¬ (M : Int) ≤ t0 := by omega
    have HT := Lib.hid ht
    clear ht
    go_wp2_with fail
    clear c0 z0
    generalize w2.setCell ⟨(w.heap.size + 1), 0, none⟩ (.int .i64 (t0 : Int)) = W1 at HB1 HR1 HQ1 HN1 ⊢
    have N := next_any rb ao b o c L j2 W1 (HS.out.keep hrw HB1.out) HR1.out hj2
    cases h2 : pNext (L.drop j2) with
    | none =>
      rw [h2] at N
      refine N.mono ?_
      rintro e w2 ⟨hb, p, r, hp1, hp2, hr1, hr2, rfl⟩
      go_wp2_with fail
      rw [show pCall M (L.drop j1) = none by unfold pCall; rw [H1.out]; simp only; rw [if_neg HT.out]; rw [h2]]
      exact bad_end rfl (HB1.out.trans hb) ⟨p, r, hp1, hp2, hr1, hr2, rfl⟩
    | some q =>
      obtain ⟨o0, rr⟩ := q
      rw [h2] at N
      refine N.mono ?_
      rintro e w2 ⟨hb, _, j3, rfl, rfl, rfl, hj3, hr1⟩
      have H2 := Lib.hid h2
      have hn1 := hb.at HN1.out HGR.out
      have c0 := cell_of_heap hn1 (k := 1) rfl
      have z0 := free_of_heap (k := 1) hn1
      have hn2 := heap_set_self (k := 1) (v := .int .i64 (o0 : Int)) hn1
      have HB2 := Lib.hid ((HB1.out.trans hb).setCell (x := ⟨(w.heap.size + 1), 1, none⟩) (.inr hgw) (.int .i64 (o0 : Int)))
      have HR2 := Lib.hid (hr1.other (x := ⟨(w.heap.size + 1), 1, none⟩) HGR.out (.int .i64 (o0 : Int)))
      have HQ2 := Lib.hid ((Below.heap_setCell w2 ⟨(w.heap.size + 1), 1, none⟩ (.int .i64 (o0 : Int)) _ HGQ.out).trans (hb.at HQ1.out HGQR.out))
      have HN2 : Hid ((w2.setCell ⟨(w.heap.size + 1), 1, none⟩ (.int .i64 (o0 : Int))).heap[(w.heap.size + 1)]? = some (caO t0 o0 0 0 0 0)) := Lib.hid hn2
      clear hb hn1 hn2 hr1 N h2
      go_wp2_with fail
      clear c0 z0
      generalize w2.setCell ⟨(w.heap.size + 1), 1, none⟩ (.int .i64 (o0 : Int)) = W2 at HB2 HR2 HQ2 HN2 ⊢
      have N := next_any rb ao b o c L j3 W2 (HS.out.keep hrw HB2.out) HR2.out hj3
      cases h3 : pNext (L.drop j3) with
      | none =>
        rw [h3] at N
        refine N.mono ?_
        rintro e w2 ⟨hb, p, r, hp1, hp2, hr1, hr2, rfl⟩
        go_wp2_with fail
        rw [show pCall M (L.drop j1) = none by unfold pCall; rw [H1.out]; simp only; rw [if_neg HT.out]; rw [H2.out]; simp only; rw [h3]]
        exact bad_end rfl (HB2.out.trans hb) ⟨p, r, hp1, hp2, hr1, hr2, rfl⟩
      | some q =>
        obtain ⟨k0, rr⟩ := q
        rw [h3] at N
        refine N.mono ?_
        rintro e w2 ⟨hb, _, j4, rfl, rfl, rfl, hj4, hr1⟩
        have H3 := Lib.hid h3
        have hn1 := hb.at HN2.out HGR.out
        have c0 := cell_of_heap hn1 (k := 2) rfl
        have z0 := free_of_heap (k := 2) hn1
        have hn2 := heap_set_self (k := 2) (v := .int .i64 (k0 : Int)) hn1
        have HB3 := Lib.hid ((HB2.out.trans hb).setCell (x := ⟨(w.heap.size + 1), 2, none⟩) (.inr hgw) (.int .i64 (k0 : Int)))
        have HR3 := Lib.hid (hr1.other (x := ⟨(w.heap.size + 1), 2, none⟩) HGR.out (.int .i64 (k0 : Int)))
        have HQ3 := Lib.hid ((Below.heap_setCell w2 ⟨(w.heap.size + 1), 2, none⟩ (.int .i64 (k0 : Int)) _ HGQ.out).trans (hb.at HQ2.out HGQR.out))
        have HN3 : Hid ((w2.setCell ⟨(w.heap.size + 1), 2, none⟩ (.int .i64 (k0 : Int))).heap[(w.heap.size + 1)]? = some (caO t0 o0 k0 0 0 0)) := Lib.hid hn2
        clear hb hn1 hn2 hr1 N h3
        go_wp2_with fail
        clear c0 z0
        generalize w2.setCell ⟨(w.heap.size + 1), 2, none⟩ (.int .i64 (k0 : Int)) = W3 at HB3 HR3 HQ3 HN3 ⊢
        have N := varint_any rb ao b o c L j4 W3 (HS.out.keep hrw HB3.out) HR3.out hj4
        cases h4 : pVar 10 0 0 (L.drop j4) with
        | none =>
          rw [h4] at N
          refine N.mono ?_
          rintro e w2 ⟨hb, p, r, hp1, hp2, hr1, hr2, rfl⟩
          go_wp2_with fail
          rw [show pCall M (L.drop j1) = none by unfold pCall; rw [H1.out]; simp only; rw [if_neg HT.out]; rw [H2.out]; simp only; rw [H3.out]; simp only; rw [h4]]
          exact bad_end rfl (HB3.out.trans hb) ⟨p, r, hp1, hp2, hr1, hr2, rfl⟩
        | some q =>
          obtain ⟨a0, rr⟩ := q
          rw [h4] at N
          refine N.mono ?_
          rintro e w2 ⟨hb, _, j5, rfl, rfl, rfl, hj5, hr1⟩
          have H4 := Lib.hid h4
          have hn1 := hb.at HN3.out HGR.out
          have c0 := cell_of_heap hn1 (k := 3) rfl
          have z0 := free_of_heap (k := 3) hn1
          have hn2 := heap_set_self (k := 3) (v := .int .u64 (a0 : Int)) hn1
          have HB4 := Lib.hid ((HB3.out.trans hb).setCell (x := ⟨(w.heap.size + 1), 3, none⟩) (.inr hgw) (.int .u64 (a0 : Int)))
          have HR4 := Lib.hid (hr1.other (x := ⟨(w.heap.size + 1), 3, none⟩) HGR.out (.int .u64 (a0 : Int)))
          have HQ4 := Lib.hid ((Below.heap_setCell w2 ⟨(w.heap.size + 1), 3, none⟩ (.int .u64 (a0 : Int)) _ HGQ.out).trans (hb.at HQ3.out HGQR.out))
          have HN4 : Hid ((w2.setCell ⟨(w.heap.size + 1), 3, none⟩ (.int .u64 (a0 : Int))).heap[(w.heap.size + 1)]? = some (caO t0 o0 k0 a0 0 0)) := Lib.hid hn2
          clear hb hn1 hn2 hr1 N h4
          go_wp2_with fail
          clear c0 z0
          generalize w2.setCell ⟨(w.heap.size + 1), 3, none⟩ (.int .u64 (a0 : Int)) = W4 at HB4 HR4 HQ4 HN4 ⊢
          have N := varint_any rb ao b o c L j5 W4 (HS.out.keep hrw HB4.out) HR4.out hj5
          cases h5 : pVar 10 0 0 (L.drop j5) with
          | none =>
            rw [h5] at N
            refine N.mono ?_
            rintro e w2 ⟨hb, p, r, hp1, hp2, hr1, hr2, rfl⟩
            go_wp2_with fail
            rw [show pCall M (L.drop j1) = none by unfold pCall; rw [H1.out]; simp only; rw [if_neg HT.out]; rw [H2.out]; simp only; rw [H3.out]; simp only; rw [H4.out]; simp only; rw [h5]]
            exact bad_end rfl (HB4.out.trans hb) ⟨p, r, hp1, hp2, hr1, hr2, rfl⟩
          | some q =>
            obtain ⟨b0, rr⟩ := q
            rw [h5] at N
            refine N.mono ?_
            rintro e w2 ⟨hb, _, j6, rfl, rfl, rfl, hj6, hr1⟩
            have H5 := Lib.hid h5
            have hn1 := hb.at HN4.out HGR.out
            have c0 := cell_of_heap hn1 (k := 4) rfl
            have z0 := free_of_heap (k := 4) hn1
            have hn2 := heap_set_self (k := 4) (v := .int .u64 (b0 : Int)) hn1
            have HB5 := Lib.hid ((HB4.out.trans hb).setCell (x := ⟨(w.heap.size + 1), 4, none⟩) (.inr hgw) (.int .u64 (b0 : Int)))
            have HR5 := Lib.hid (hr1.other (x := ⟨(w.heap.size + 1), 4, none⟩) HGR.out (.int .u64 (b0 : Int)))
            have HQ5 := Lib.hid ((Below.heap_setCell w2 ⟨(w.heap.size + 1), 4, none⟩ (.int .u64 (b0 : Int)) _ HGQ.out).trans (hb.at HQ4.out HGQR.out))
            have HN5 : Hid ((w2.setCell ⟨(w.heap.size + 1), 4, none⟩ (.int .u64 (b0 : Int))).heap[(w.heap.size + 1)]? = some (caO t0 o0 k0 a0 b0 0)) := Lib.hid hn2
            clear hb hn1 hn2 hr1 N h5
            go_wp2_with fail
            clear c0 z0
            generalize w2.setCell ⟨(w.heap.size + 1), 4, none⟩ (.int .u64 (b0 : Int)) = W5 at HB5 HR5 HQ5 HN5 ⊢
            have N := varint_any rb ao b o c L j6 W5 (HS.out.keep hrw HB5.out) HR5.out hj6
            cases h6 : pVar 10 0 0 (L.drop j6) with
            | none =>
              rw [h6] at N
              refine N.mono ?_
              rintro e w2 ⟨hb, p, r, hp1, hp2, hr1, hr2, rfl⟩
              go_wp2_with fail
              rw [show pCall M (L.drop j1) = none by unfold pCall; rw [H1.out]; simp only; rw [if_neg HT.out]; rw [H2.out]; simp only; rw [H3.out]; simp only; rw [H4.out]; simp only; rw [H5.out]; simp only; rw [h6]]
              exact bad_end rfl (HB5.out.trans hb) ⟨p, r, hp1, hp2, hr1, hr2, rfl⟩
            | some q =>
              obtain ⟨c0x, rr⟩ := q
              rw [h6] at N
              refine N.mono ?_
              rintro e w2 ⟨hb, _, j7, rfl, rfl, rfl, hj7, hr1⟩
              have H6 := Lib.hid h6
              have hn1 := hb.at HN5.out HGR.out
              have c0 := cell_of_heap hn1 (k := 5) rfl
              have z0 := free_of_heap (k := 5) hn1
              have hn2 := heap_set_self (k := 5) (v := .int .u64 (c0x : Int)) hn1
              have HB6 := Lib.hid ((HB5.out.trans hb).setCell (x := ⟨(w.heap.size + 1), 5, none⟩) (.inr hgw) (.int .u64 (c0x : Int)))
              have HR6 := Lib.hid (hr1.other (x := ⟨(w.heap.size + 1), 5, none⟩) HGR.out (.int .u64 (c0x : Int)))
              have HQ6 := Lib.hid ((Below.heap_setCell w2 ⟨(w.heap.size + 1), 5, none⟩ (.int .u64 (c0x : Int)) _ HGQ.out).trans (hb.at HQ5.out HGQR.out))
              have HN6 : Hid ((w2.setCell ⟨(w.heap.size + 1), 5, none⟩ (.int .u64 (c0x : Int))).heap[(w.heap.size + 1)]? = some (caO t0 o0 k0 a0 b0 c0x)) := Lib.hid hn2
              clear hb hn1 hn2 hr1 N h6
              go_upto_region 11 with fail
              generalize w2.setCell ⟨(w.heap.size + 1), 5, none⟩ (.int .u64 (c0x : Int)) = W6 at HB6 HR6 HQ6 HN6 ⊢
              have e0 := cell_of_heap HN6.out (k := 0) rfl
              have e1 := cell_of_heap HN6.out (k := 1) rfl
              have e2 := cell_of_heap HN6.out (k := 2) rfl
              have e3 := cell_of_heap HN6.out (k := 3) rfl
              have e4 := cell_of_heap HN6.out (k := 4) rfl
              have e5 := cell_of_heap HN6.out (k := 5) rfl
              have q0 := cell_of_heap HQ6.out (k := 0) rfl
              have q1 := cell_of_heap HQ6.out (k := 1) rfl
              have q2 := cell_of_heap HQ6.out (k := 2) rfl
              have q3 := cell_of_heap HQ6.out (k := 3) rfl
              have q4 := cell_of_heap HQ6.out (k := 4) rfl
              have q5 := cell_of_heap HQ6.out (k := 5) rfl
              have f0 := fun k => free_of_heap (k := k) HQ6.out
              have E : Hid (pCall M (L.drop j1) = some (⟨t0, o0, k0, a0, b0, c0x⟩, L.drop j7)) := Lib.hid (by unfold pCall; rw [H1.out]; simp only; rw [if_neg HT.out]; rw [H2.out]; simp only; rw [H3.out]; simp only; rw [H4.out]; simp only; rw [H5.out]; simp only; rw [H6.out])
              go_wp2
              have g1 := heap_set_self (k := 0) (v := .int .i64 (t0 : Int)) HQ6.out
              have g2 := heap_set_self (k := 1) (v := .int .i64 (o0 : Int)) g1
              have g3 := heap_set_self (k := 2) (v := .int .i64 (k0 : Int)) g2
              have g4 := heap_set_self (k := 3) (v := .int .u64 (a0 : Int)) g3
              have g5 := heap_set_self (k := 4) (v := .int .u64 (b0 : Int)) g4
              have g6 := heap_set_self (k := 5) (v := .int .u64 (c0x : Int)) g5
              have B1 := HB6.out.setCell (x := ⟨w.heap.size, 0, none⟩) (.inr (Nat.le_refl _)) (.int .i64 (t0 : Int))
              have B2 := B1.setCell (x := ⟨w.heap.size, 1, none⟩) (.inr (Nat.le_refl _)) (.int .i64 (o0 : Int))
              have B3 := B2.setCell (x := ⟨w.heap.size, 2, none⟩) (.inr (Nat.le_refl _)) (.int .i64 (k0 : Int))
              have B4 := B3.setCell (x := ⟨w.heap.size, 3, none⟩) (.inr (Nat.le_refl _)) (.int .u64 (a0 : Int))
              have B5 := B4.setCell (x := ⟨w.heap.size, 4, none⟩) (.inr (Nat.le_refl _)) (.int .u64 (b0 : Int))
              have B6 := B5.setCell (x := ⟨w.heap.size, 5, none⟩) (.inr (Nat.le_refl _)) (.int .u64 (c0x : Int))
              have R1 := HR6.out.other (x := ⟨w.heap.size, 0, none⟩) HGQR.out (.int .i64 (t0 : Int))
              have R2 := R1.other (x := ⟨w.heap.size, 1, none⟩) HGQR.out (.int .i64 (o0 : Int))
              have R3 := R2.other (x := ⟨w.heap.size, 2, none⟩) HGQR.out (.int .i64 (k0 : Int))
              have R4 := R3.other (x := ⟨w.heap.size, 3, none⟩) HGQR.out (.int .u64 (a0 : Int))
              have R5 := R4.other (x := ⟨w.heap.size, 4, none⟩) HGQR.out (.int .u64 (b0 : Int))
              have R6 := R5.other (x := ⟨w.heap.size, 5, none⟩) HGQR.out (.int .u64 (c0x : Int))
              clear e0 e1 e2 e3 e4 e5 q0 q1 q2 q3 q4 q5 f0 g1 g2 g3 g4 g5 B1 B2 B3 B4 B5 R1 R2 R3 R4 R5
              generalize (((((W6.setCell ⟨w.heap.size, 0, none⟩ (.int .i64 (t0 : Int))).setCell ⟨w.heap.size, 1, none⟩ (.int .i64 (o0 : Int))).setCell ⟨w.heap.size, 2, none⟩ (.int .i64 (k0 : Int))).setCell ⟨w.heap.size, 3, none⟩ (.int .u64 (a0 : Int))).setCell ⟨w.heap.size, 4, none⟩ (.int .u64 (b0 : Int))).setCell ⟨w.heap.size, 5, none⟩ (.int .u64 (c0x : Int)) = W7 at g6 B6 R6 ⊢
              have e0 := cell_of_heap g6 (k := 0) (v := .int .i64 (t0 : Int)) rfl
              have e1 := cell_of_heap g6 (k := 1) (v := .int .i64 (o0 : Int)) rfl
              have e2 := cell_of_heap g6 (k := 2) (v := .int .i64 (k0 : Int)) rfl
              have e3 := cell_of_heap g6 (k := 3) (v := .int .u64 (a0 : Int)) rfl
              have e4 := cell_of_heap g6 (k := 4) (v := .int .u64 (b0 : Int)) rfl
              have e5 := cell_of_heap g6 (k := 5) (v := .int .u64 (c0x : Int)) rfl
              rw [E.out]
              refine bodyPost_ret (v := .agg #[.int .i64 (t0 : Int), .int .i64 (o0 : Int), .int .i64 (k0 : Int), .int .u64 (a0 : Int), .int .u64 (b0 : Int), .int .u64 (c0x : Int)]) (by simp [results, Try.results43, go_sem, e0, e1, e2, e3, e4, e5]) rfl ⟨B6, _, j7, rfl, rfl, rfl, hj7, R6⟩
end Go.Proofs.Yticaheiomidanaa
