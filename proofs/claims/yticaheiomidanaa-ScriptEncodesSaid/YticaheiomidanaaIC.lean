/- Walks of the reader: how many threads, specs. -/
import Derived.Test.YticaheiomidanaaIB
import Derived.OneCell
import Derived.Deep.Cut
namespace Go.Proofs.Yticaheiomidanaa
open Go.RowKit

def pThreads (l : List Nat) : Option (Nat × List Nat) := match pNext l with
  | none => none
  | some (x, r) => if x < 1 ∨ 16 < x then none else some (x, r)
structure SpV where
  k : Nat
  p : Nat
  q : Nat
def SpV.cells (x : SpV) : List Value := [.int .i64 (x.k : Int), .int .i64 (x.p : Int), .int .i64 (x.q : Int)]
def pSpec (l : List Nat) : Option (SpV × List Nat) := match pNext l with
  | none => none
  | some (k, r) => match pPair r with
    | none => none
    | some (p, r2) => match pPair r2 with
      | none => none
      | some (q, r3) => some (⟨k, p, q⟩, r3)
def pSpecA : Nat → List SpV → List Nat → Option (List SpV × List Nat)
  | 0, acc, l => some (acc, l)
  | n + 1, acc, l => match pSpec l with
    | none => none
    | some (s, r) => pSpecA n (acc ++ [s]) r
def pSpecs (l : List Nat) : Option (List SpV × List Nat) := match pNext l with
  | none => none
  | some (n, r) => if 8 < n then none else pSpecA n [] r

/-- other stores leave the reader as it is -/
theorem RdS.other {w : World} {rb : Nat} {ao : Option Addr} {L : List Nat} {c i : Nat} (h : RdS w rb ao L c i) {x : Addr} (hx : x.block ≠ rb) (v : Value) : RdS (w.setCell x v) rb ao L c i :=
  (Below.heap_setCell w x v rb (fun e => hx e.symm)).trans h
theorem RdS.alloc {w : World} {rb : Nat} {ao : Option Addr} {L : List Nat} {c i : Nat} (h : RdS w rb ao L c i) (o : Obj) : RdS (w.alloc o) rb ao L c i :=
  (Below.heap_alloc w o rb (lt_of_heap h)).trans h
theorem But1.at {p : Nat} {a w : World} (h : But1 p a w) {g : Nat} {o : Obj} (hg : a.heap[g]? = some o) (hne : g ≠ p) : w.heap[g]? = some o := (h.block g (lt_of_heap hg) hne).trans hg
theorem heap_new (w : World) (o : Obj) : (w.alloc o).heap[w.heap.size]? = some o := heap_alloc_new w o
theorem RdS.below {w w' : World} {rb : Nat} {ao : Option Addr} {L : List Nat} {c i B : Nat} (h : RdS w rb ao L c i) (hb : Below B w w') (hB : rb < B) : RdS w' rb ao L c i := (hb.block rb hB).trans h

theorem But1.then_below {p : Nat} {a b c : World} (h : But1 p a b) (k : Below a.heap.size b c) : But1 p a c :=
  ⟨k.os.trans h.os, k.tape.trans h.tape, k.output.trans h.output, Nat.le_trans h.size k.size, fun i hi h1 => (k.block i hi).trans (h.block i hi h1)⟩
theorem own_ne {w : World} {B : Nat} {e : TypeId} {s n : Nat} {v : Value} {xs : List Value} (h : w.ownsRow B e s v n xs) : v.ownBlock ≠ some w.heap.size := fun e => by have := (h.lt _ e).2; omega
theorem own_lower {w : World} {B B' : Nat} {e : TypeId} {s n : Nat} {v : Value} {xs : List Value} (h : w.ownsRow B' e s v n xs) (hB : B ≤ B') : w.ownsRow B e s v n xs := by
  obtain ⟨h0, ⟨rfl, h1⟩ | ⟨g, cap, cur, rfl, hg, h2⟩⟩ := h
  · exact ⟨h0, .inl ⟨rfl, h1⟩⟩
  · exact ⟨h0, .inr ⟨g, cap, cur, rfl, Nat.le_trans hB hg, h2⟩⟩

set_option maxHeartbeats 400000 in
theorem threads_any (rb : Nat) (ao : Option Addr) (b o c : Nat) (L : List Nat) (i : Nat) (w : World) (hs : Src w rb ao b o L) (hr : RdS w rb ao L c i) (hi : i ≤ L.length) :
    Calls Try.prog 35 #[.pointer (some ⟨rb, 0, none⟩)] w (RP rb ao c L w (pThreads (L.drop i)) intV) := by
  have H1 := Lib.hid (next_any rb ao b o c L i w hs hr hi)
  have r1 := cell_of_heap hr (k := 1) rfl
  clear hs hr
  go_enter Try.func35, Try.ntmps35
  go_wp2_with fail
  have N := H1.out
  cases h1 : pNext (L.drop i) with
  | none =>
    rw [h1] at N
    refine N.mono ?_
    rintro e w1 ⟨hb, p, r, hp1, hp2, hr1, hr2, rfl⟩
    go_wp2_with fail
    rw [show pThreads (L.drop i) = none by unfold pThreads; rw [h1]]
    exact bad_end rfl hb ⟨p, r, hp1, hp2, hr1, hr2, rfl⟩
  | some q =>
    obtain ⟨x, rr⟩ := q
    rw [h1] at N
    refine N.mono ?_
    rintro e w1 ⟨hb, _, k, rfl, rfl, hd, hk, hr1⟩
    by_cases hx : x < 1 ∨ 16 < x
    · have e : pThreads (L.drop i) = none := by unfold pThreads; rw [h1]; simp only; rw [if_pos hx]
      have E := Lib.hid e
      clear e h1 N
      by_cases hx1 : x < 1
      · have d1 : (x : Int) < 1 := by omega
        clear hx
        go_wp2_with fail
        rw [E.out]
        exact bad_end rfl hb ⟨i, 1, by omega, by omega, by decide, by decide, rfl⟩
      · have d1 : ¬ (x : Int) < 1 := by omega
        have d2 : (16 : Int) < x := by omega
        clear hx
        go_wp2_with fail
        rw [E.out]
        exact bad_end rfl hb ⟨i, 1, by omega, by omega, by decide, by decide, rfl⟩
    · have e : pThreads (L.drop i) = some (x, rr) := by unfold pThreads; rw [h1]; simp only; rw [if_neg hx]
      have E := Lib.hid e
      clear e h1 N
      have d1 : ¬ (x : Int) < 1 := by omega
      have d2 : ¬ (16 : Int) < x := by omega
      clear hx
      go_wp2_with fail
      go_ret
      rw [E.out]
      exact ⟨hb, _, k, rfl, rfl, hd, hk, hr1⟩

theorem infoSp : (Try.prog.info? 62).map (fun i => (i.zero, i.size, i.bytes)) = some (some (.agg #[.int .i64 0, .int .i64 0, .int .i64 0]), 3, 24) := by kernel_rfl
def specsV (B : Nat) (x : List SpV) (u : Value) (w : World) : Prop := w.ownsRow B 62 3 u x.length (x.flatMap SpV.cells)
abbrev spO (k p q : Int) : Obj := .cells #[.int .i64 k, .int .i64 p, .int .i64 q] 62

set_option maxHeartbeats 1000000 in
set_option maxRecDepth 100000 in
theorem specs_any (rb : Nat) (ao : Option Addr) (b o c : Nat) (L : List Nat) (i : Nat) (w : World) (hs : Src w rb ao b o L) (hr : RdS w rb ao L c i) (hi : i ≤ L.length) :
    Calls Try.prog 36 #[.pointer (some ⟨rb, 0, none⟩)] w (RP rb ao c L w (pSpecs (L.drop i)) (specsV w.heap.size)) := by
  obtain ⟨iI, ia, ib, ic, id⟩ := info_parts infoSp
  have hrw := lt_of_heap hr
  have H1 := Lib.hid (next_any rb ao b o c L i w hs hr hi)
  have r1 := cell_of_heap hr (k := 1) rfl
  have HS := Lib.hid hs
  have HLT := Lib.hid (fun j x r => pNext_lt (L := L) (i := j) (x := x) (r := r) hs.bytes)
  clear hs hr
  go_enter Try.func36, Try.ntmps36
  go_wp2_with fail
  have N := H1.out
  cases h1 : pNext (L.drop i) with
  | none =>
    rw [h1] at N
    refine N.mono ?_
    rintro e w1 ⟨hb, p, r, hp1, hp2, hr1, hr2, rfl⟩
    go_wp2_with fail
    rw [show pSpecs (L.drop i) = none by unfold pSpecs; rw [h1]]
    exact bad_end rfl hb ⟨p, r, hp1, hp2, hr1, hr2, rfl⟩
  | some q =>
    obtain ⟨n, rr⟩ := q
    have hn256 := HLT.out _ _ _ h1
    rw [h1] at N
    refine N.mono ?_
    rintro e w1 ⟨hb, _, j0, rfl, rfl, hd, hj0, hr1⟩
    by_cases hx : 8 < n
    · have e : pSpecs (L.drop i) = none := by unfold pSpecs; rw [h1]; simp only; rw [if_pos hx]
      have E := Lib.hid e
      clear e h1 N
      have d1 : (8 : Int) < n := by omega
      go_wp2_with fail
      rw [E.out]
      exact bad_end rfl hb ⟨i, 3, by omega, by omega, by decide, by decide, rfl⟩
    · have e : pSpecs (L.drop i) = pSpecA n [] (L.drop j0) := by unfold pSpecs; rw [h1]; simp only; rw [if_neg hx, hd]
      have E := Lib.hid e
      clear e h1 N hd
      have d1 : ¬ (8 : Int) < n := by omega
      have hr1' := Lib.hid hr1
      have hb' := Lib.hid hb
      clear hr1 hb
      go_wp2
      go_loopw [5, 19] (fun v k wr => ∃ (m j : Nat) (acc : List SpV), m ≤ n ∧ k = .int .i64 m ∧ Hid (acc.length = m) ∧ j ≤ L.length ∧ Hid (But1 rb w wr) ∧ Hid (RdS wr rb ao L c j) ∧ Hid (pSpecA (n - m) acc (L.drop j) = pSpecs (L.drop i)) ∧ Hid (wr.ownsRow w.heap.size 62 3 v m (acc.flatMap SpV.cells))) (fun _ k _ => n - (intOf k).toNat)
      case atStart => exact ⟨0, j0, [], by omega, rfl, Lib.hid rfl, hj0, hb', hr1', Lib.hid E.out.symm, Lib.hid (World.ownsRow_nil _ _ _ _)⟩
      case round =>
        obtain ⟨m, j1, acc, hm, rfl, hal, hj1, hbt, hrd, hp, hown⟩ := hrel
        by_cases hlt : m < n
        · obtain ⟨f, hf⟩ : ∃ f, n - m = f + 1 := ⟨n - m - 1, by omega⟩
          rw [hf] at hp
          have hg := lt_of_heap hrd.out
          have hgw := hbt.out.size
          go_wp2_with fail
          have HB0 := Lib.hid (hbt.out.alloc (spO 0 0 0))
          have HR0 := Lib.hid (hrd.out.alloc (spO 0 0 0))
          have HO0 := Lib.hid (hown.out.alloc (spO 0 0 0))
          have HN0 : Hid ((wr.alloc (spO 0 0 0)).heap[wr.heap.size]? = some (spO 0 0 0)) := Lib.hid (heap_new wr _)
          have HNE := Lib.hid (own_ne hown.out)
          have HGR : Hid (wr.heap.size ≠ rb) := Lib.hid (by omega)
          generalize hW0 : wr.alloc (spO 0 0 0) = W0 at HB0 HR0 HO0 HN0 ⊢
          clear hW0
          have N := next_any rb ao b o c L j1 W0 (HS.out.keep hrw HB0.out) HR0.out hj1
          cases h1 : pNext (L.drop j1) with
          | none =>
            rw [h1] at N
            refine N.mono ?_
            rintro e w2 ⟨hb, p, r, hp1, hp2, hr1, hr2, rfl⟩
            go_wp2_with fail
            rw [show pSpecs (L.drop i) = none by rw [← hp.out, pSpecA]; unfold pSpec; rw [h1]]
            exact bad_end rfl (HB0.out.trans hb) ⟨p, r, hp1, hp2, hr1, hr2, rfl⟩
          | some q =>
            obtain ⟨k0, rr⟩ := q
            rw [h1] at N
            refine N.mono ?_
            rintro e w2 ⟨hb, _, j2, rfl, rfl, rfl, hj2, hr1⟩
            have H1 := Lib.hid h1
            have hn1 := hb.at HN0.out HGR.out
            have c0 := cell_of_heap hn1 (k := 0) rfl
            have z0 := free_of_heap (k := 0) hn1
            have hn2 := heap_set_self (k := 0) (v := .int .i64 (k0 : Int)) hn1
            have HB1 := Lib.hid ((HB0.out.trans hb).setCell (x := ⟨wr.heap.size, 0, none⟩) (.inr hgw) (.int .i64 (k0 : Int)))
            have HR1 := Lib.hid (hr1.other (x := ⟨wr.heap.size, 0, none⟩) HGR.out (.int .i64 (k0 : Int)))
            have HO1 := Lib.hid (ownsRow_setCell_other (hb.own HO0.out hrw) (a := ⟨wr.heap.size, 0, none⟩) HNE.out (.int .i64 (k0 : Int)))
            have HN1 : Hid ((w2.setCell ⟨wr.heap.size, 0, none⟩ (.int .i64 (k0 : Int))).heap[wr.heap.size]? = some (spO k0 0 0)) := Lib.hid hn2
            clear hb hn1 hn2 hr1 N h1
            go_wp2_with fail
            clear c0 z0
            generalize w2.setCell ⟨wr.heap.size, 0, none⟩ (.int .i64 (k0 : Int)) = W1 at HB1 HR1 HO1 HN1 ⊢
            have N := pair_any rb ao b o c L j2 W1 (HS.out.keep hrw HB1.out) HR1.out hj2
            cases h2 : pPair (L.drop j2) with
            | none =>
              rw [h2] at N
              refine N.mono ?_
              rintro e w2 ⟨hb, p, r, hp1, hp2, hr1, hr2, rfl⟩
              go_wp2_with fail
              rw [show pSpecs (L.drop i) = none by rw [← hp.out, pSpecA]; unfold pSpec; rw [H1.out]; simp only; rw [h2]]
              exact bad_end rfl (HB1.out.trans hb) ⟨p, r, hp1, hp2, hr1, hr2, rfl⟩
            | some q =>
              obtain ⟨p0, rr⟩ := q
              rw [h2] at N
              refine N.mono ?_
              rintro e w2 ⟨hb, _, j3, rfl, rfl, rfl, hj3, hr1⟩
              have H2 := Lib.hid h2
              have hn1 := hb.at HN1.out HGR.out
              have c0 := cell_of_heap hn1 (k := 1) rfl
              have z0 := free_of_heap (k := 1) hn1
              have hn2 := heap_set_self (k := 1) (v := .int .i64 (p0 : Int)) hn1
              have HB2 := Lib.hid ((HB1.out.trans hb).setCell (x := ⟨wr.heap.size, 1, none⟩) (.inr hgw) (.int .i64 (p0 : Int)))
              have HR2 := Lib.hid (hr1.other (x := ⟨wr.heap.size, 1, none⟩) HGR.out (.int .i64 (p0 : Int)))
              have HO2 := Lib.hid (ownsRow_setCell_other (hb.own HO1.out hrw) (a := ⟨wr.heap.size, 1, none⟩) HNE.out (.int .i64 (p0 : Int)))
              have HN2 : Hid ((w2.setCell ⟨wr.heap.size, 1, none⟩ (.int .i64 (p0 : Int))).heap[wr.heap.size]? = some (spO k0 p0 0)) := Lib.hid hn2
              clear hb hn1 hn2 hr1 N h2
              go_wp2_with fail
              clear c0 z0
              generalize w2.setCell ⟨wr.heap.size, 1, none⟩ (.int .i64 (p0 : Int)) = W2 at HB2 HR2 HO2 HN2 ⊢
              have N := pair_any rb ao b o c L j3 W2 (HS.out.keep hrw HB2.out) HR2.out hj3
              cases h3 : pPair (L.drop j3) with
              | none =>
                rw [h3] at N
                refine N.mono ?_
                rintro e w2 ⟨hb, p, r, hp1, hp2, hr1, hr2, rfl⟩
                go_wp2_with fail
                rw [show pSpecs (L.drop i) = none by rw [← hp.out, pSpecA]; unfold pSpec; rw [H1.out]; simp only; rw [H2.out]; simp only; rw [h3]]
                exact bad_end rfl (HB2.out.trans hb) ⟨p, r, hp1, hp2, hr1, hr2, rfl⟩
              | some q =>
                obtain ⟨q0, rr⟩ := q
                rw [h3] at N
                refine N.mono ?_
                rintro e w2 ⟨hb, _, j4, rfl, rfl, rfl, hj4, hr1⟩
                have H3 := Lib.hid h3
                have hn1 := hb.at HN2.out HGR.out
                have c0 := cell_of_heap hn1 (k := 2) rfl
                have z0 := free_of_heap (k := 2) hn1
                have hn2 := heap_set_self (k := 2) (v := .int .i64 (q0 : Int)) hn1
                have HB3 := Lib.hid ((HB2.out.trans hb).setCell (x := ⟨wr.heap.size, 2, none⟩) (.inr hgw) (.int .i64 (q0 : Int)))
                have HR3 := Lib.hid (hr1.other (x := ⟨wr.heap.size, 2, none⟩) HGR.out (.int .i64 (q0 : Int)))
                have HO3 := Lib.hid (ownsRow_setCell_other (hb.own HO2.out hrw) (a := ⟨wr.heap.size, 2, none⟩) HNE.out (.int .i64 (q0 : Int)))
                have HN3 : Hid ((w2.setCell ⟨wr.heap.size, 2, none⟩ (.int .i64 (q0 : Int))).heap[wr.heap.size]? = some (spO k0 p0 q0)) := Lib.hid hn2
                clear hb hn1 hn2 hr1 N h3
                go_upto_region 12 with fail
                generalize w2.setCell ⟨wr.heap.size, 2, none⟩ (.int .i64 (q0 : Int)) = W3 at HB3 HR3 HO3 HN3 ⊢
                have c1 := cell_of_heap HN3.out (k := 1) rfl
                have c0' := cell_of_heap HN3.out (k := 0) rfl
                have c2 := cell_of_heap HN3.out (k := 2) rfl
                have HSZ := Lib.hid HB3.out.size
                have HQ : Hid (pSpecA f (acc ++ [SpV.mk k0 p0 q0]) (L.drop j4) = pSpecs (L.drop i)) := Lib.hid (by
                  rw [← hp.out, pSpecA]; unfold pSpec; rw [H1.out]; simp only; rw [H2.out]; simp only; rw [H3.out])
                go_wp2_with (at_builtin; refine append_new rfl _ _ 22 rfl w.heap.size 62 iI (.agg #[.int .i64 0, .int .i64 0, .int .i64 0]) 3 24 Try.underlying22 ia ib ic id rfl (by decide) (by decide) _ m _ rfl HO3.out (SpV.cells (SpV.mk k0 p0 q0)) rfl rfl rfl (by omega) HSZ.out ?_)
                intro v1 w3 hown3 hbl3 _ _
                have HO4 : Hid (w3.ownsRow w.heap.size 62 3 v1 (m + 1) ((acc ++ [SpV.mk k0 p0 q0]).flatMap SpV.cells)) := Lib.hid (by rw [List.flatMap_append]; simpa using hown3)
                have HB4 := Lib.hid (HB3.out.then_below hbl3)
                have HR4 := Lib.hid (HR3.out.below hbl3 hrw)
                clear hown3 hbl3
                go_wp2
                go_roundw
                case rel => exact ⟨m + 1, j4, acc ++ [SpV.mk k0 p0 q0], by omega, by go_num, Lib.hid (by rw [List.length_append, hal.out]; rfl), hj4, HB4, HR4, Lib.hid (by rw [show n - (m + 1) = f by omega]; exact HQ.out), HO4⟩
                case measure => simp [intOf]; omega
        · have hmn : m = n := by omega
          have E2 : Hid (pSpecs (L.drop i) = some (acc, L.drop j1)) := Lib.hid (by rw [← hp.out, show n - m = 0 by omega, pSpecA])
          go_wp2
          go_ret
          rw [E2.out]
          exact ⟨hbt.out, _, j1, rfl, by unfold specsV; rw [hal.out]; exact hown.out, rfl, hj1, hrd.out⟩
end Go.Proofs.Yticaheiomidanaa
