/- Walks of the reader: calls, and picks. -/
import Derived.Test.YticaheiomidanaaID
namespace Go.Proofs.Yticaheiomidanaa
open Go.RowKit

theorem infoCa : (Try.prog.info? 66).map (fun i => (i.zero, i.size, i.bytes)) = some (some (.agg #[.int .i64 0, .int .i64 0, .int .i64 0, .int .u64 0, .int .u64 0, .int .u64 0]), 6, 48) := by kernel_rfl
def callsV (B : Nat) (x : List CaV) (u : Value) (w : World) : Prop := w.ownsRow B 66 6 u x.length (x.flatMap CaV.cells)

set_option maxHeartbeats 1000000 in
set_option maxRecDepth 100000 in
theorem calls_any (M : Nat) (rb : Nat) (ao : Option Addr) (b o c : Nat) (L : List Nat) (i : Nat) (w : World) (hs : Src w rb ao b o L) (hr : RdS w rb ao L c i) (hi : i ≤ L.length) :
    Calls Try.prog 37 #[.pointer (some ⟨rb, 0, none⟩), .int .i64 (M : Int)] w (RP rb ao c L w (pCalls M (L.drop i)) (callsV w.heap.size)) := by
  obtain ⟨iI, ia, ib, ic, id⟩ := info_parts infoCa
  have hrw := lt_of_heap hr
  have H1 := Lib.hid (pair_any rb ao b o c L i w hs hr hi)
  have r1 := cell_of_heap hr (k := 1) rfl
  have HS := Lib.hid hs
  clear hs hr
  go_enter Try.func37, Try.ntmps37
  go_wp2_with fail
  have X := H1.out
  cases h1 : pPair (L.drop i) with
  | none =>
    rw [h1] at X
    refine X.mono ?_
    rintro e w1 ⟨hb, p, r, hp1, hp2, hr1, hr2, rfl⟩
    go_wp2_with fail
    rw [show pCalls M (L.drop i) = none by unfold pCalls; rw [h1]]
    exact bad_end rfl hb ⟨p, r, hp1, hp2, hr1, hr2, rfl⟩
  | some q =>
    obtain ⟨n, rr⟩ := q
    rw [h1] at X
    refine X.mono ?_
    rintro e w1 ⟨hb, _, j0, rfl, rfl, hd, hj0, hr1⟩
    by_cases hx : 1000 < n
    · have e : pCalls M (L.drop i) = none := by unfold pCalls; rw [h1]; simp only; rw [if_pos hx]
      have E := Lib.hid e
      clear e h1 X
      have d1 : (1000 : Int) < n := by omega
      go_wp2_with fail
      rw [E.out]
      exact bad_end rfl hb ⟨i, 3, by omega, by omega, by decide, by decide, rfl⟩
    · have e : pCalls M (L.drop i) = pCallA M n [] (L.drop j0) := by unfold pCalls; rw [h1]; simp only; rw [if_neg hx, hd]
      have E := Lib.hid e
      clear e h1 X hd
      have d1 : ¬ (1000 : Int) < n := by omega
      have hr1' := Lib.hid hr1
      have hb' := Lib.hid hb
      clear hr1 hb
      go_wp2
      go_loopw [7, 20] (fun v k wr => ∃ (m j : Nat) (acc : List CaV), m ≤ n ∧ k = .int .i64 m ∧ Hid (acc.length = m) ∧ j ≤ L.length ∧ Hid (But1 rb w wr) ∧ Hid (RdS wr rb ao L c j) ∧ Hid (pCallA M (n - m) acc (L.drop j) = pCalls M (L.drop i)) ∧ Hid (wr.ownsRow w.heap.size 66 6 v m (acc.flatMap CaV.cells))) (fun _ k _ => n - (intOf k).toNat)
      case atStart => exact ⟨0, j0, [], by omega, rfl, Lib.hid rfl, hj0, hb', hr1', Lib.hid E.out.symm, Lib.hid (World.ownsRow_nil _ _ _ _)⟩
      case round =>
        obtain ⟨m, j, acc, hm, rfl, hal, hj, hbt, hrd, hp, hown⟩ := hrel
        by_cases hlt : m < n
        · obtain ⟨f, hf⟩ : ∃ f, n - m = f + 1 := ⟨n - m - 1, by omega⟩
          rw [hf] at hp
          go_wp2_with fail
          have X := call_any M rb ao b o c L j wr (HS.out.keep hrw hbt.out) hrd.out hj
          cases h2 : pCall M (L.drop j) with
          | none =>
            rw [h2] at X
            refine X.mono ?_
            rintro e w2 ⟨hb, p, r, hp1, hp2, hr1, hr2, rfl⟩
            go_wp2_with fail
            rw [show pCalls M (L.drop i) = none by rw [← hp.out, pCallA, h2]]
            exact bad_end rfl (hbt.out.trans hb) ⟨p, r, hp1, hp2, hr1, hr2, rfl⟩
          | some q =>
            obtain ⟨x, rr⟩ := q
            rw [h2] at X
            refine X.mono ?_
            rintro e w2 ⟨hb, _, j2, rfl, rfl, rfl, hj2, hr2⟩
            have HB := Lib.hid (hbt.out.trans hb)
            have HR := Lib.hid hr2
            have HO := Lib.hid (hb.own hown.out hrw)
            have HSZ := Lib.hid HB.out.size
            have HQ : Hid (pCallA M f (acc ++ [x]) (L.drop j2) = pCalls M (L.drop i)) := Lib.hid (by rw [← hp.out, pCallA, h2])
            clear hb hr2 X h2
            obtain ⟨xt, xo, xk, xa, xb, xc⟩ := x
            go_wp2_with (at_builtin; refine append_new rfl _ _ 23 rfl w.heap.size 66 iI (.agg #[.int .i64 0, .int .i64 0, .int .i64 0, .int .u64 0, .int .u64 0, .int .u64 0]) 6 48 Try.underlying23 ia ib ic id rfl (by decide) (by decide) _ m _ rfl HO.out (CaV.cells ⟨xt, xo, xk, xa, xb, xc⟩) rfl rfl rfl (by omega) HSZ.out ?_)
            intro v1 w3 hown3 hbl3 _ _
            have HO4 : Hid (w3.ownsRow w.heap.size 66 6 v1 (m + 1) ((acc ++ [CaV.mk xt xo xk xa xb xc]).flatMap CaV.cells)) := Lib.hid (by rw [List.flatMap_append]; simpa using hown3)
            have HB4 := Lib.hid (HB.out.then_below hbl3)
            have HR4 := Lib.hid (HR.out.below hbl3 hrw)
            clear hown3 hbl3
            go_wp2
            go_roundw
            case rel => exact ⟨m + 1, j2, acc ++ [CaV.mk xt xo xk xa xb xc], by omega, by go_num, Lib.hid (by rw [List.length_append, hal.out]; rfl), hj2, HB4, HR4, Lib.hid (by rw [show n - (m + 1) = f by omega]; exact HQ.out), HO4⟩
            case measure => simp [intOf]; omega
        · have E2 : Hid (pCalls M (L.drop i) = some (acc, L.drop j)) := Lib.hid (by rw [← hp.out, show n - m = 0 by omega, pCallA])
          go_wp2
          go_ret
          rw [E2.out]
          exact ⟨hbt.out, _, j, rfl, by unfold callsV; rw [show acc.length = n by rw [hal.out]; omega]; rw [show n = m by omega]; exact hown.out, rfl, hj, hrd.out⟩

/-- runs -/
def pRuns : Int → Nat → Nat → List Nat → Option (List Nat)
  | _, _, _, [] => some []
  | _, _, _, [_] => none
  | last, lc, cnt, t :: c :: r => if c = 0 ∨ ((t : Int) = last ∧ lc < 255) then none else if 65536 < cnt + c then none else (pRuns t c (cnt + c) r).map (fun x => List.replicate c t ++ x)
theorem pRuns_step {last : Int} {lc cnt t c : Nat} {l r r2 : List Nat} (h1 : pNext l = some (t, r)) (h2 : pNext r = some (c, r2)) :
    pRuns last lc cnt l = if c = 0 ∨ ((t : Int) = last ∧ lc < 255) then none else if 65536 < cnt + c then none else (pRuns t c (cnt + c) r2).map (fun x => List.replicate c t ++ x) := by
  cases l with
  | nil => cases h1
  | cons x l1 =>
    obtain ⟨rfl, rfl⟩ : x = t ∧ l1 = r := by simpa [pNext] using h1
    cases l1 with
    | nil => cases h2
    | cons y l2 =>
      obtain ⟨rfl, rfl⟩ : y = c ∧ l2 = r2 := by simpa [pNext] using h2
      rfl
theorem pRuns_short {last : Int} {lc cnt t : Nat} {l r : List Nat} (h1 : pNext l = some (t, r)) (h2 : pNext r = none) : pRuns last lc cnt l = none := by
  cases l with
  | nil => cases h1
  | cons x l1 =>
    obtain ⟨rfl, rfl⟩ : x = t ∧ l1 = r := by simpa [pNext] using h1
    cases l1 with
    | nil => rfl
    | cons y l2 => cases h2
def inV (x : Nat) : Value := .int .i64 (x : Int)
def picksV (B : Nat) (x : List Nat) (u : Value) (w : World) : Prop := w.ownsRow B 3 1 u x.length (x.map inV)
def pPicks (l : List Nat) : Option (List Nat × List Nat) := (pRuns (-1) 0 0 l).map (fun x => (x, []))

theorem infoI : (Try.prog.info? 3).map (fun i => (i.zero, i.size, i.bytes)) = some (some (.int .i64 0), 1, 8) := by kernel_rfl

/-- the reader's place -/
noncomputable def posOf (w : World) (rb : Nat) : Nat := match w.cell? ⟨rb, 1, none⟩ with | some v => (intOf v).toNat | none => 0
theorem posOf_rd {w : World} {rb : Nat} {ao : Option Addr} {L : List Nat} {c i : Nat} (h : RdS w rb ao L c i) : posOf w rb = i := by
  unfold posOf
  rw [cell_of_heap h (k := 1) (v := .int .i64 (i : Int)) rfl]
  simp [intOf]
theorem next_pos {L : List Nat} {i j x : Nat} (h : pNext (L.drop i) = some (x, L.drop j)) (hi : i ≤ L.length) : i < j ∨ L.length < j + 1 := by
  cases hd : L.drop i with
  | nil => rw [hd] at h; cases h
  | cons y t =>
    rw [hd] at h
    injection h with h
    injection h with _ h
    have h1 : (L.drop i).length = (L.drop j).length + 1 := by rw [hd, ← h]; rfl
    rw [List.length_drop, List.length_drop] at h1
    omega

set_option maxHeartbeats 2000000 in
set_option maxRecDepth 100000 in
theorem picks_any (rb : Nat) (ao : Option Addr) (b o c : Nat) (L : List Nat) (i : Nat) (w : World) (hs : Src w rb ao b o L) (hr : RdS w rb ao L c i) (hi : i ≤ L.length) :
    Calls Try.prog 38 #[.pointer (some ⟨rb, 0, none⟩)] w (RP rb ao c L w (pPicks (L.drop i)) (picksV w.heap.size)) := by
  obtain ⟨iI, ia, ib, ic, id⟩ := info_parts infoI
  have hrw := lt_of_heap hr
  have HS := Lib.hid hs
  have HLT := Lib.hid (fun j x r => pNext_lt (L := L) (i := j) (x := x) (r := r) hs.bytes)
  have hlen := hs.len
  have HR0 := Lib.hid hr
  clear hs hr
  go_enter Try.func38, Try.ntmps38
  go_wp2
  go_loopw [3, 4, 5] (fun v t k wr => ∃ (j lc n : Nat) (last : Int) (acc : List Nat), t = .int .i64 last ∧ k = .int .i64 lc ∧ -1 ≤ last ∧ last ≤ 255 ∧ lc ≤ 255 ∧ Hid (n = acc.length) ∧ n ≤ 65536 ∧ j ≤ L.length ∧ Hid (But1 rb w wr) ∧ Hid (RdS wr rb ao L c j) ∧ Hid ((pRuns last lc acc.length (L.drop j)).map (fun x => acc ++ x) = pRuns (-1) 0 0 (L.drop i)) ∧ Hid (wr.ownsRow w.heap.size 3 1 v n (acc.map inV))) (fun _ _ _ wr => L.length - posOf wr rb)
  case atStart => exact ⟨i, 0, 0, -1, [], rfl, rfl, by decide, by decide, by decide, Lib.hid rfl, by decide, hi, Lib.hid (But1.refl _ _), HR0, Lib.hid (by simp), Lib.hid (World.ownsRow_nil _ _ _ _)⟩
  case round =>
    obtain ⟨j, lc, n, last, acc, rfl, rfl, hl1, hl2, hlc, hn, hn2, hj, hbt, hrd, hp, hown⟩ := hrel
    have r0 := cell_of_heap hrd.out (k := 0) rfl
    have r1 := cell_of_heap hrd.out (k := 1) rfl
    obtain ⟨av, gv, cv, rfl, -, -, -, -⟩ := owns_open hown.out
    by_cases hlt : j < L.length
    · go_wp2_with fail
      go_quiet (fail)
      go_wp2_with fail
      have X := next_any rb ao b o c L j (wr.drewN nq) (HS.out.keep hrw (hbt.out.drewN _)) hrd.out hj
      have hx : ∃ t r, pNext (L.drop j) = some (t, r) := by
        rw [List.drop_eq_getElem_cons hlt]; exact ⟨_, _, rfl⟩
      obtain ⟨t0, rr, h1⟩ := hx
      have ht := HLT.out _ _ _ h1
      rw [h1] at X
      refine X.mono ?_
      rintro e w2 ⟨hb, _, j2, rfl, rfl, rfl, hj2, hr2⟩
      have HB2 := Lib.hid ((hbt.out.drewN nq).trans hb)
      have HO2 := Lib.hid (hb.own (owns_drewN hown.out nq) hrw)
      have HR2 := Lib.hid hr2
      have H1 := Lib.hid h1
      clear hb hr2 X h1 r0 r1
      go_wp2_with fail
      have X := next_any rb ao b o c L j2 w2 (HS.out.keep hrw HB2.out) HR2.out hj2
      cases h2 : pNext (L.drop j2) with
      | none =>
        rw [h2] at X
        refine X.mono ?_
        rintro e w3 ⟨hb, p, r, hp1, hp2, hr1, hr2, rfl⟩
        go_wp2_with fail
        rw [show pPicks (L.drop i) = none by unfold pPicks; rw [← hp.out, pRuns_short H1.out h2]; rfl]
        exact bad_end rfl (HB2.out.trans hb) ⟨p, r, hp1, hp2, hr1, hr2, rfl⟩
      | some q =>
        obtain ⟨c0, rr⟩ := q
        have hc := HLT.out _ _ _ h2
        rw [h2] at X
        refine X.mono ?_
        rintro e w3 ⟨hb, _, j3, rfl, rfl, rfl, hj3, hr3⟩
        have HB3 := Lib.hid (HB2.out.trans hb)
        have HO3 := Lib.hid (hb.own HO2.out hrw)
        have HR3 := Lib.hid hr3
        have hst := pRuns_step (last := last) (lc := lc) (cnt := acc.length) H1.out h2
        have hpos : posOf w3 rb = j3 := posOf_rd hr3
        have hj32 : j < j3 := by
          have := next_pos H1.out hj; have := next_pos h2 hj2; omega
        have HPS := Lib.hid hpos
        clear hb hr3 X h2 hpos
        have hp1 : Hid (posOf wr rb = j) := Lib.hid (posOf_rd hrd.out)
        rw [hst] at hp
        clear hst
        by_cases hc0 : c0 = 0
        · have E : Hid (pPicks (L.drop i) = none) := Lib.hid (by unfold pPicks; rw [← hp.out, if_pos (Or.inl hc0)]; rfl)
          have d1 : ((c0 : Int) == 0) = true := by rw [hc0]; rfl
          clear hc0
          go_wp2_with fail
          rw [E.out]
          exact bad_end rfl HB3.out ⟨j, 5, by omega, by omega, by decide, by decide, rfl⟩
        · have d1 : ((c0 : Int) == 0) = false := beq_false_of_ne (by omega)
          by_cases ht0 : (t0 : Int) = last
          · have d2 : ((t0 : Int) == last) = true := beq_iff_eq.2 ht0
            by_cases hl5 : lc < 255
            · have E : Hid (pPicks (L.drop i) = none) := Lib.hid (by unfold pPicks; rw [← hp.out, if_pos (Or.inr ⟨ht0, hl5⟩)]; rfl)
              have d3 : (lc : Int) < 255 := by omega
              clear hl5 ht0
              go_wp2_with fail
              rw [E.out]
              exact bad_end rfl HB3.out ⟨j, 5, by omega, by omega, by decide, by decide, rfl⟩
            · have HBD : Hid (¬ (c0 = 0 ∨ ((t0 : Int) = last ∧ lc < 255))) := Lib.hid (by omega)
              have d3 : ¬ (lc : Int) < 255 := by omega
              clear hl5 ht0
              by_cases hlg : 65536 < acc.length + c0
              · have E : Hid (pPicks (L.drop i) = none) := Lib.hid (by unfold pPicks; rw [← hp.out, if_neg HBD.out, if_pos hlg]; rfl)
                have d5 : (65536 : Int) < (n : Int) + c0 := by rw [hn.out]; omega
                clear hlg
                go_wp2_with fail
                rw [E.out]
                exact bad_end rfl HB3.out ⟨j, 3, by omega, by omega, by decide, by decide, rfl⟩
              · have hlg2 : ¬ (65536 : Int) < (n : Int) + c0 := by rw [hn.out]; omega
                have hlg3 : n + c0 ≤ 65536 := by omega
                have E : Hid (((pRuns t0 c0 (acc.length + c0) (L.drop j3)).map (fun x => List.replicate c0 t0 ++ x)).map (fun x => acc ++ x) = pRuns (-1) 0 0 (L.drop i)) := Lib.hid (by rw [← hp.out, if_neg HBD.out, if_neg hlg])
                clear hlg
                go_wp2
                go_loopw [3, 50] (fun v k w4 => ∃ (m : Nat), m ≤ c0 ∧ k = .int .i64 m ∧ Hid (But1 rb w w4) ∧ Hid (RdS w4 rb ao L c j3) ∧ Hid (w4.ownsRow w.heap.size 3 1 v (n + m) ((acc ++ List.replicate m t0).map inV))) (fun _ k _ => c0 - (intOf k).toNat)
                case atStart => exact ⟨0, Nat.zero_le _, rfl, HB3, HR3, Lib.hid (by simpa using HO3.out)⟩
                case round =>
                  obtain ⟨m, hm, rfl, hb4, hr4, ho4⟩ := hrel
                  by_cases hmc : m < c0
                  · have HSZ := Lib.hid hb4.out.size
                    go_wp2_with (at_builtin; refine append_new rfl _ _ 24 rfl w.heap.size 3 iI (.int .i64 0) 1 8 Try.underlying24 ia ib ic id rfl (by decide) (by decide) _ (n + m) _ rfl ho4.out [inV t0] rfl rfl rfl (by omega) HSZ.out ?_)
                    intro v1 w5 hown5 hbl5 _ _
                    have HO5 : Hid (w5.ownsRow w.heap.size 3 1 v1 (n + (m + 1)) ((acc ++ List.replicate (m + 1) t0).map inV)) := Lib.hid (by
                      rw [List.replicate_succ', List.map_append, List.map_append, List.map_replicate, ← Nat.add_assoc]; exact hown5)
                    have HB5 := Lib.hid (hb4.out.then_below hbl5)
                    have HR5 := Lib.hid (hr4.out.below hbl5 hrw)
                    clear hown5 hbl5
                    go_wp2
                    go_roundw
                    case rel => exact ⟨m + 1, by omega, by go_num, HB5, HR5, HO5⟩
                    case measure => simp [intOf]; omega
                  · have hmc2 : m = c0 := by omega
                    have HO6 : Hid (_ ∧ True) := Lib.hid ⟨ho4.out, trivial⟩
                    have hps4 : posOf _ rb = j3 := posOf_rd hr4.out
                    have HP4 := Lib.hid hps4
                    clear hps4
                    go_wp2
                    go_roundw
                    case rel => exact ⟨j3, c0, n + c0, t0, acc ++ List.replicate c0 t0, rfl, rfl, by omega, by omega, by omega, Lib.hid (by rw [List.length_append, List.length_replicate, hn.out]), by omega, hj3, hb4, hr4, Lib.hid (by
                      rw [← E.out, List.length_append, List.length_replicate]
                      cases pRuns t0 c0 (acc.length + c0) (L.drop j3) <;> simp), Lib.hid (by rw [← hmc2]; exact ho4.out)⟩
                    case measure => simp only [HP4.out, hp1.out]; omega
          · have d2 : ((t0 : Int) == last) = false := beq_false_of_ne ht0
            have HBD : Hid (¬ (c0 = 0 ∨ ((t0 : Int) = last ∧ lc < 255))) := Lib.hid (by omega)
            clear ht0
            by_cases hlg : 65536 < acc.length + c0
            · have E : Hid (pPicks (L.drop i) = none) := Lib.hid (by unfold pPicks; rw [← hp.out, if_neg HBD.out, if_pos hlg]; rfl)
              have d5 : (65536 : Int) < (n : Int) + c0 := by rw [hn.out]; omega
              clear hlg
              go_wp2_with fail
              rw [E.out]
              exact bad_end rfl HB3.out ⟨j, 3, by omega, by omega, by decide, by decide, rfl⟩
            · have hlg2 : ¬ (65536 : Int) < (n : Int) + c0 := by rw [hn.out]; omega
              have hlg3 : n + c0 ≤ 65536 := by omega
              have E : Hid (((pRuns t0 c0 (acc.length + c0) (L.drop j3)).map (fun x => List.replicate c0 t0 ++ x)).map (fun x => acc ++ x) = pRuns (-1) 0 0 (L.drop i)) := Lib.hid (by rw [← hp.out, if_neg HBD.out, if_neg hlg])
              clear hlg
              go_wp2
              go_loopw [3, 50] (fun v k w4 => ∃ (m : Nat), m ≤ c0 ∧ k = .int .i64 m ∧ Hid (But1 rb w w4) ∧ Hid (RdS w4 rb ao L c j3) ∧ Hid (w4.ownsRow w.heap.size 3 1 v (n + m) ((acc ++ List.replicate m t0).map inV))) (fun _ k _ => c0 - (intOf k).toNat)
              case atStart => exact ⟨0, Nat.zero_le _, rfl, HB3, HR3, Lib.hid (by simpa using HO3.out)⟩
              case round =>
                obtain ⟨m, hm, rfl, hb4, hr4, ho4⟩ := hrel
                by_cases hmc : m < c0
                · have HSZ := Lib.hid hb4.out.size
                  go_wp2_with (at_builtin; refine append_new rfl _ _ 24 rfl w.heap.size 3 iI (.int .i64 0) 1 8 Try.underlying24 ia ib ic id rfl (by decide) (by decide) _ (n + m) _ rfl ho4.out [inV t0] rfl rfl rfl (by omega) HSZ.out ?_)
                  intro v1 w5 hown5 hbl5 _ _
                  have HO5 : Hid (w5.ownsRow w.heap.size 3 1 v1 (n + (m + 1)) ((acc ++ List.replicate (m + 1) t0).map inV)) := Lib.hid (by
                    rw [List.replicate_succ', List.map_append, List.map_append, List.map_replicate, ← Nat.add_assoc]; exact hown5)
                  have HB5 := Lib.hid (hb4.out.then_below hbl5)
                  have HR5 := Lib.hid (hr4.out.below hbl5 hrw)
                  clear hown5 hbl5
                  go_wp2
                  go_roundw
                  case rel => exact ⟨m + 1, by omega, by go_num, HB5, HR5, HO5⟩
                  case measure => simp [intOf]; omega
                · have hmc2 : m = c0 := by omega
                  have HO6 : Hid (_ ∧ True) := Lib.hid ⟨ho4.out, trivial⟩
                  have hps4 : posOf _ rb = j3 := posOf_rd hr4.out
                  have HP4 := Lib.hid hps4
                  clear hps4
                  go_wp2
                  go_roundw
                  case rel => exact ⟨j3, c0, n + c0, t0, acc ++ List.replicate c0 t0, rfl, rfl, by omega, by omega, by omega, Lib.hid (by rw [List.length_append, List.length_replicate, hn.out]), by omega, hj3, hb4, hr4, Lib.hid (by
                    rw [← E.out, List.length_append, List.length_replicate]
                    cases pRuns t0 c0 (acc.length + c0) (L.drop j3) <;> simp), Lib.hid (by rw [← hmc2]; exact ho4.out)⟩
                  case measure => simp only [HP4.out, hp1.out]; omega
    · have hjl : j = L.length := by omega
      have E2 : Hid (pPicks (L.drop i) = some (acc, L.drop j)) := Lib.hid (by unfold pPicks; rw [← hp.out, hjl, List.drop_length]; simp [pRuns])
      go_wp2_with fail
      go_quiet (fail)
      go_wp2
      go_ret
      rw [E2.out]
      exact ⟨hbt.out.drewN _, _, j, rfl, by unfold picksV; rw [← hn.out]; exact owns_drewN hown.out _, rfl, hj, hrd.out⟩
end Go.Proofs.Yticaheiomidanaa
