/- Walks of the reference: why a script may not be written. -/
import Derived.Test.YticaheiomidanaaIHb
namespace Go.Proofs.Yticaheiomidanaa
open Go.RowKit

theorem wth_one {most x : Int} : wth most [x] = (decide (0 ≤ x) && decide (x ≤ most)) := by simp [wth]
theorem byteful_any (x : Int) (w : World) : Calls Try.prog 28 #[.int .i64 x] w fun e w' => e = .returned (.bool (wth 255 [x])) ∧ w = w' := by
  rw [wth_one]
  by_cases h1 : 0 ≤ x
  · by_cases h2 : x ≤ 255
    · rw [decide_eq_true h1, decide_eq_true h2]
      go_enter Try.func28, Try.ntmps28
      go_wp2
      go_ret
      exact ⟨rfl, rfl⟩
    · rw [decide_eq_true h1, decide_eq_false h2]
      go_enter Try.func28, Try.ntmps28
      go_wp2
      go_ret
      exact ⟨rfl, rfl⟩
  · rw [decide_eq_false h1]
    go_enter Try.func28, Try.ntmps28
    go_wp2
    go_ret
    exact ⟨rfl, rfl⟩

theorem wth_two {most x y : Int} : wth most [x, y] = (decide (0 ≤ x) && decide (x ≤ most) && (decide (0 ≤ y) && decide (y ≤ most))) := by simp [wth]

set_option maxHeartbeats 2000000 in
set_option maxRecDepth 100000 in
theorem refWrong_any (x : ScI) (s : Spots) (w : World) (h : ScAt w x s) :
    Calls Try.prog 11 #[scV x s] w fun e w' => e = .returned (.int .i64 (wrong x)) ∧ Below w.heap.size w w' := by
  have hb0 : Below w.heap.size w (w.alloc (.cells #[.int .i64 x.n, .slice s.sa x.specs.length s.sc, .slice s.ca x.calls.length s.cc, .slice s.pa x.picks.length s.pc] 33)) := (Below.refl _ _).alloc (Nat.le_refl _) _
  have HN0 := Lib.hid (heap_new w (.cells #[.int .i64 x.n, .slice s.sa x.specs.length s.sc, .slice s.ca x.calls.length s.cc, .slice s.pa x.picks.length s.pc] 33))
  have HH := Lib.hid h
  have HB0 := Lib.hid hb0
  have hls := h.ls
  have hlc := h.lc
  have hlp := h.lp
  clear h hb0
  have HBF := Lib.hid byteful_any
  obtain ⟨n, specs, calls, picks⟩ := x
  obtain ⟨sa, sb, so, sc, ca, cb, co, cc, pa, pb, po, pc⟩ := s
  dsimp only at *
  have HA1 : Hid (0 < specs.length → sa = some ⟨sb, so, none⟩) := Lib.hid HH.out.a1
  have HA2 : Hid (0 < calls.length → ca = some ⟨cb, co, none⟩) := Lib.hid HH.out.a2
  have HA3 : Hid (0 < picks.length → pa = some ⟨pb, po, none⟩) := Lib.hid HH.out.a3
  have HC1 : Hid (∀ wr, Below w.heap.size w wr → SpAt wr sb so specs) := Lib.hid (fun wr hb => HH.out.c1.stays hb HH.out.b1)
  have HC2 : Hid (∀ wr, Below w.heap.size w wr → CaAt wr cb co calls) := Lib.hid (fun wr hb => HH.out.c2.stays hb HH.out.b2)
  have HC3 : Hid (∀ wr, Below w.heap.size w wr → ICells wr pb po picks) := Lib.hid (fun wr hb => HH.out.c3.stays hb HH.out.b3)
  clear HH
  by_cases h1 : n < 1
  · have E : Hid (wrong ⟨n, specs, calls, picks⟩ = 1) := Lib.hid (by unfold wrong; dsimp only; rw [if_pos (Or.inl h1)])
    go_enter Try.func11, Try.ntmps11
    go_wp2_with fail
    go_ret
    rw [E.out]
    exact ⟨rfl, HB0.out⟩
  by_cases h2 : 16 < n
  · have E : Hid (wrong ⟨n, specs, calls, picks⟩ = 1) := Lib.hid (by unfold wrong; dsimp only; rw [if_pos (Or.inr h2)])
    go_enter Try.func11, Try.ntmps11
    go_wp2_with fail
    go_ret
    rw [E.out]
    exact ⟨rfl, HB0.out⟩
  have hn : ¬ (n < 1 ∨ 16 < n) := by omega
  have HN := Lib.hid hn
  clear hn
  by_cases h3 : 8 < specs.length
  · have d3 : (8 : Int) < specs.length := by omega
    have E : Hid (wrong ⟨n, specs, calls, picks⟩ = 3) := Lib.hid (by unfold wrong; dsimp only; rw [if_neg HN.out, if_pos (Or.inl h3)])
    go_enter Try.func11, Try.ntmps11
    go_wp2_with fail
    go_ret
    rw [E.out]
    exact ⟨rfl, HB0.out⟩
  have d3 : ¬ (8 : Int) < specs.length := by omega
  have e3 : ¬ 8 < specs.length := h3
  clear h3
  by_cases h3 : 1000 < calls.length
  · have d4 : (1000 : Int) < calls.length := by omega
    have E : Hid (wrong ⟨n, specs, calls, picks⟩ = 3) := Lib.hid (by unfold wrong; dsimp only; rw [if_neg HN.out, if_pos (Or.inr (Or.inl h3))])
    go_enter Try.func11, Try.ntmps11
    go_wp2_with fail
    go_ret
    rw [E.out]
    exact ⟨rfl, HB0.out⟩
  have d4 : ¬ (1000 : Int) < calls.length := by omega
  have e4 : ¬ 1000 < calls.length := h3
  clear h3
  by_cases h3 : 65536 < picks.length
  · have d5 : (65536 : Int) < picks.length := by omega
    have E : Hid (wrong ⟨n, specs, calls, picks⟩ = 3) := Lib.hid (by unfold wrong; dsimp only; rw [if_neg HN.out, if_pos (Or.inr (Or.inr h3))])
    go_enter Try.func11, Try.ntmps11
    go_wp2_with fail
    go_ret
    rw [E.out]
    exact ⟨rfl, HB0.out⟩
  have d5 : ¬ (65536 : Int) < picks.length := by omega
  have e5 : ¬ 65536 < picks.length := h3
  clear h3
  have HM : Hid (¬ (8 < specs.length ∨ 1000 < calls.length ∨ 65536 < picks.length)) := Lib.hid (by omega)
  have HW1 : Hid (room ⟨n, specs, calls, picks⟩ = false → wrong ⟨n, specs, calls, picks⟩ = 10) := Lib.hid (fun hr => by unfold wrong; dsimp only; rw [if_neg HN.out, if_neg HM.out, if_pos hr])
  have HW2 : Hid (room ⟨n, specs, calls, picks⟩ = true → wrong ⟨n, specs, calls, picks⟩ = 0) := Lib.hid (fun hr => by unfold wrong; dsimp only; rw [if_neg HN.out, if_neg HM.out, if_neg (by rw [hr]; decide)])
  go_enter Try.func11, Try.ntmps11
  go_wp2_with fail
  generalize hW0 : w.alloc (.cells #[.int .i64 n, .slice sa specs.length sc, .slice ca calls.length cc, .slice pa picks.length pc] 33) = W0 at HN0 HB0 ⊢
  clear hW0
  have hlt0 := lt_of_heap HN0.out
  have q1 := cell_of_heap HN0.out (k := 1) (v := .slice sa specs.length sc) rfl
  have q0 := cell_of_heap HN0.out (k := 0) (v := .int .i64 n) rfl
  have q2 := cell_of_heap HN0.out (k := 2) (v := .slice ca calls.length cc) rfl
  have q3 := cell_of_heap HN0.out (k := 3) (v := .slice pa picks.length pc) rfl
  go_wp2
  go_loopw [35] (fun k wr => ∃ (j : Nat), j ≤ specs.length ∧ k = .int .i64 j ∧ Hid (Below W0.heap.size W0 wr) ∧ Hid ((specs.drop j).all okS = specs.all okS)) (fun k _ => specs.length - (intOf k).toNat)
  case atStart => exact ⟨0, Nat.zero_le _, rfl, Lib.hid (Below.refl _ _), Lib.hid rfl⟩
  case round =>
    obtain ⟨j, hj, rfl, hbl, hp⟩ := hrel
    have HBW := Lib.hid (HB0.out.trans (hbl.out.mono HB0.out.size))
    have q1' := (hbl.out.cell (p := ⟨w.heap.size, 1, none⟩) hlt0).trans q1
    have hltw : w.heap.size < wr.heap.size := Nat.lt_of_lt_of_le hlt0 hbl.out.size
    by_cases hlt : j < specs.length
    · obtain rfl := HA1.out (by omega)
      obtain ⟨y, hy⟩ : ∃ y, specs[j]? = some y := ⟨specs[j], List.getElem?_eq_getElem (by omega)⟩
      obtain ⟨c0, c1, c2, i0, i1, i2⟩ := (HC1.out wr HBW.out) j y hy
      have hq : specs.all okS = (okS y && (specs.drop (j + 1)).all okS) := by rw [← hp.out]; exact all_drop hy
      have HQ := Lib.hid hq
      clear hy hp hq
      obtain ⟨yk, yp, yq⟩ := y
      dsimp only at *
      have HF : Hid (okS ⟨yk, yp, yq⟩ = false → wrong ⟨n, specs, calls, picks⟩ = 10) := Lib.hid (fun hf => HW1.out (by unfold room; dsimp only; rw [HQ.out, hf]; simp))
      have HOK : Hid (okS ⟨yk, yp, yq⟩ = (wth 255 [yk] && (decide (0 ≤ yp) && decide (yp ≤ 65535) && (decide (0 ≤ yq) && decide (yq ≤ 65535))))) := Lib.hid (by unfold okS; dsimp only; rw [wth_two])
      have HB2 : Hid (Below W0.heap.size W0 (wr.alloc (.cells #[.int .i64 yk, .int .i64 yp, .int .i64 yq] 62))) := Lib.hid (hbl.out.alloc hbl.out.size _)
      have HB3 := Lib.hid (HB0.out.trans (HB2.out.mono HB0.out.size))
      go_wp2_with fail
      refine (HBF.out _ _).mono ?_
      rintro e w1 ⟨rfl, rfl⟩
      cases e1 : wth 255 [yk]
      · have E := Lib.hid (HF.out (by rw [HOK.out, e1]; rfl))
        clear e1
        go_wp2_with fail
        go_ret
        rw [E.out]
        exact ⟨rfl, HB3.out⟩
      · by_cases p1 : yp < 0
        · have E := Lib.hid (HF.out (by rw [HOK.out, decide_eq_false (show ¬ 0 ≤ yp by omega)]; simp))
          go_wp2_with fail
          go_ret
          rw [E.out]
          exact ⟨rfl, HB3.out⟩
        · by_cases p2 : 65535 < yp
          · have E := Lib.hid (HF.out (by rw [HOK.out, decide_eq_false (show ¬ yp ≤ 65535 by omega)]; simp))
            go_wp2_with fail
            go_ret
            rw [E.out]
            exact ⟨rfl, HB3.out⟩
          · by_cases p3 : yq < 0
            · have E := Lib.hid (HF.out (by rw [HOK.out, decide_eq_false (show ¬ 0 ≤ yq by omega)]; simp))
              go_wp2_with fail
              go_ret
              rw [E.out]
              exact ⟨rfl, HB3.out⟩
            · by_cases p4 : 65535 < yq
              · have E := Lib.hid (HF.out (by rw [HOK.out, decide_eq_false (show ¬ yq ≤ 65535 by omega)]; simp))
                go_wp2_with fail
                go_ret
                rw [E.out]
                exact ⟨rfl, HB3.out⟩
              · have E : Hid ((specs.drop (j + 1)).all okS = specs.all okS) := Lib.hid (by
                  rw [HQ.out, HOK.out, e1, decide_eq_true (show 0 ≤ yp by omega), decide_eq_true (show yp ≤ 65535 by omega), decide_eq_true (show 0 ≤ yq by omega), decide_eq_true (show yq ≤ 65535 by omega)]; rfl)
                clear e1
                go_wp2_with fail
                go_roundw
                case rel => exact ⟨j + 1, by omega, by go_num, HB2, E⟩
                case measure => simp [intOf]; omega
    · have ES : Hid (specs.all okS = true) := Lib.hid (by rw [← hp.out, show j = specs.length by omega, List.drop_length]; rfl)
      clear hp
      have q2' := (hbl.out.cell (p := ⟨w.heap.size, 2, none⟩) hlt0).trans q2
      generalize hw9 : wr = W9 at *
      clear hw9
      go_wp2
      go_loopw [71] (fun k wr => ∃ (j : Nat), j ≤ calls.length ∧ k = .int .i64 j ∧ Hid (Below W0.heap.size W0 wr) ∧ Hid ((calls.drop j).all (okC n) = calls.all (okC n))) (fun k _ => calls.length - (intOf k).toNat)
      case atStart => exact ⟨0, Nat.zero_le _, rfl, hbl, Lib.hid rfl⟩
      case round =>
        obtain ⟨j, hj, rfl, hbl9, hp⟩ := hrel
        have HBX := Lib.hid (HB0.out.trans (hbl9.out.mono HB0.out.size))
        have q0' := (hbl9.out.cell (p := ⟨w.heap.size, 0, none⟩) hlt0).trans q0
        have q2'' := (hbl9.out.cell (p := ⟨w.heap.size, 2, none⟩) hlt0).trans q2
        have hlty : w.heap.size < wr.heap.size := Nat.lt_of_lt_of_le hlt0 hbl9.out.size
        by_cases hlt : j < calls.length
        · obtain rfl := HA2.out (by omega)
          obtain ⟨y, hy⟩ : ∃ y, calls[j]? = some y := ⟨calls[j], List.getElem?_eq_getElem (by omega)⟩
          obtain ⟨c0, c1, c2, c3, c4, c5, ⟨i0, i1, i2⟩, i3⟩ := (HC2.out wr HBX.out) j y hy
          have hq : calls.all (okC n) = (okC n y && (calls.drop (j + 1)).all (okC n)) := by rw [← hp.out]; exact all_drop hy
          have HQ := Lib.hid hq
          clear hy hp hq i3
          obtain ⟨yt, yo, yk, ya, yb, yc⟩ := y
          dsimp only at *
          have HF : Hid (okC n ⟨yt, yo, yk, ya, yb, yc⟩ = false → wrong ⟨n, specs, calls, picks⟩ = 10) := Lib.hid (fun hf => HW1.out (by unfold room; dsimp only; rw [HQ.out, hf]; simp))
          have HOK : Hid (okC n ⟨yt, yo, yk, ya, yb, yc⟩ = (decide (0 ≤ yt) && decide (yt ≤ n - 1) && (wth 255 [yo] && wth 255 [yk]))) := Lib.hid (by unfold okC; dsimp only; rw [wth_one, wth_two, wth_one, wth_one])
          have HB2 : Hid (Below W0.heap.size W0 (wr.alloc (.cells #[.int .i64 yt, .int .i64 yo, .int .i64 yk, .int .u64 (ya : Int), .int .u64 (yb : Int), .int .u64 (yc : Int)] 66))) := Lib.hid (hbl9.out.alloc hbl9.out.size _)
          have HB3 := Lib.hid (HB0.out.trans (HB2.out.mono HB0.out.size))
          by_cases p1 : yt < 0
          · have E := Lib.hid (HF.out (by rw [HOK.out, decide_eq_false (show ¬ 0 ≤ yt by omega)]; rfl))
            go_wp2_with fail
            go_ret
            rw [E.out]
            exact ⟨rfl, HB3.out⟩
          · by_cases p2 : n ≤ yt
            · have E := Lib.hid (HF.out (by rw [HOK.out, decide_eq_false (show ¬ yt ≤ n - 1 by omega)]; simp))
              go_wp2_with fail
              go_ret
              rw [E.out]
              exact ⟨rfl, HB3.out⟩
            · go_wp2_with fail
              refine (HBF.out _ _).mono ?_
              rintro e w1 ⟨rfl, rfl⟩
              cases e1 : wth 255 [yo]
              · have E := Lib.hid (HF.out (by rw [HOK.out, e1]; simp))
                clear e1
                go_wp2_with fail
                go_ret
                rw [E.out]
                exact ⟨rfl, HB3.out⟩
              · go_wp2_with fail
                refine (HBF.out _ _).mono ?_
                rintro e w1 ⟨rfl, rfl⟩
                cases e2 : wth 255 [yk]
                · have E := Lib.hid (HF.out (by rw [HOK.out, e2]; simp))
                  clear e1 e2
                  go_wp2_with fail
                  go_ret
                  rw [E.out]
                  exact ⟨rfl, HB3.out⟩
                · have E : Hid ((calls.drop (j + 1)).all (okC n) = calls.all (okC n)) := Lib.hid (by
                    rw [HQ.out, HOK.out, e1, e2, decide_eq_true (show 0 ≤ yt by omega), decide_eq_true (show yt ≤ n - 1 by omega)]; rfl)
                  clear e1 e2
                  go_wp2_with fail
                  go_roundw
                  case rel => exact ⟨j + 1, by omega, by go_num, HB2, E⟩
                  case measure => simp [intOf]; omega
        · have EC : Hid (calls.all (okC n) = true) := Lib.hid (by rw [← hp.out, show j = calls.length by omega, List.drop_length]; rfl)
          clear hp
          have q3' := (hbl9.out.cell (p := ⟨w.heap.size, 3, none⟩) hlt0).trans q3
          have HCP := Lib.hid (HC3.out wr HBX.out)
          have ERM : Hid (room ⟨n, specs, calls, picks⟩ = wth 255 picks) := Lib.hid (by unfold room; dsimp only; rw [ES.out, EC.out]; rfl)
          generalize hwx : wr = WX at *
          clear hwx
          go_wp2
          go_loop [105] (fun k => ∃ (j : Nat), j ≤ picks.length ∧ k = .int .i64 j ∧ Hid (wth 255 (picks.drop j) = wth 255 picks)) (fun k => picks.length - (intOf k).toNat)
          case atStart => exact ⟨0, Nat.zero_le _, rfl, Lib.hid rfl⟩
          case round =>
            obtain ⟨j, hj, rfl, hp⟩ := hrel
            by_cases hlt : j < picks.length
            · obtain rfl := HA3.out (by omega)
              obtain ⟨y, hy⟩ : ∃ y, picks[j]? = some y := ⟨picks[j], List.getElem?_eq_getElem (by omega)⟩
              obtain ⟨c1, _⟩ := HCP.out j y hy
              have HQ : Hid (wth 255 picks = (wth 255 [y] && wth 255 (picks.drop (j + 1)))) := Lib.hid (by rw [← hp.out, wth_one]; exact all_drop hy)
              clear hy hp
              go_wp2_with fail
              refine (HBF.out _ _).mono ?_
              rintro e w1 ⟨rfl, rfl⟩
              cases e1 : wth 255 [y]
              · have E := Lib.hid (HW1.out (by rw [ERM.out, HQ.out, e1]; rfl))
                clear e1
                go_wp2_with fail
                go_ret
                rw [E.out]
                exact ⟨rfl, HBX.out⟩
              · have E : Hid (wth 255 (picks.drop (j + 1)) = wth 255 picks) := Lib.hid (by rw [HQ.out, e1]; rfl)
                clear e1
                go_wp2_with fail
                go_round
                case rel => exact ⟨j + 1, by omega, by go_num, E⟩
                case measure => simp [intOf]; omega
            · have E := Lib.hid (HW2.out (by rw [ERM.out, ← hp.out, show j = picks.length by omega, List.drop_length]; rfl))
              go_wp2
              go_ret
              rw [E.out]
              exact ⟨rfl, HBX.out⟩
end Go.Proofs.Yticaheiomidanaa
