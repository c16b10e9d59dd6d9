/- Walks of what a script must keep to be written: within, hasRoom, check. -/
import Derived.Test.YticaheiomidanaaIG
namespace Go.Proofs.Yticaheiomidanaa
open Go.RowKit

structure SpI where
  k : Int
  p : Int
  q : Int
structure CaI where
  t : Int
  o : Int
  k : Int
  a : Nat
  b : Nat
  c : Nat
structure ScI where
  n : Int
  specs : List SpI
  calls : List CaI
  picks : List Int
def i64B (x : Int) : Prop := -9223372036854775808 ≤ x ∧ x ≤ 9223372036854775807
/-- specs, calls lie in a row -/
def SpAt (w : World) (b o : Nat) (l : List SpI) : Prop := ∀ (i : Nat) (x : SpI), l[i]? = some x →
  w.cell? ⟨b, o + i * 3, none⟩ = some (.int .i64 x.k) ∧ w.cell? ⟨b, o + i * 3 + 1, none⟩ = some (.int .i64 x.p) ∧ w.cell? ⟨b, o + i * 3 + 2, none⟩ = some (.int .i64 x.q) ∧ i64B x.k ∧ i64B x.p ∧ i64B x.q
def CaAt (w : World) (b o : Nat) (l : List CaI) : Prop := ∀ (i : Nat) (x : CaI), l[i]? = some x →
  w.cell? ⟨b, o + i * 6, none⟩ = some (.int .i64 x.t) ∧ w.cell? ⟨b, o + i * 6 + 1, none⟩ = some (.int .i64 x.o) ∧ w.cell? ⟨b, o + i * 6 + 2, none⟩ = some (.int .i64 x.k) ∧
  w.cell? ⟨b, o + i * 6 + 3, none⟩ = some (.int .u64 (x.a : Int)) ∧ w.cell? ⟨b, o + i * 6 + 4, none⟩ = some (.int .u64 (x.b : Int)) ∧ w.cell? ⟨b, o + i * 6 + 5, none⟩ = some (.int .u64 (x.c : Int)) ∧
  (i64B x.t ∧ i64B x.o ∧ i64B x.k) ∧ x.a < 18446744073709551616 ∧ x.b < 18446744073709551616 ∧ x.c < 18446744073709551616
theorem SpAt.stays {w wr : World} {b o B : Nat} {l : List SpI} (h : SpAt w b o l) (hb : Below B w wr) (hB : 0 < l.length → b < B) : SpAt wr b o l := by
  intro i x hx
  have hl : 0 < l.length := by have := (List.getElem?_eq_some_iff.1 hx).1; omega
  have hc := fun k => hb.cell (p := ⟨b, k, none⟩) (hB hl)
  obtain ⟨h1, h2, h3, h4⟩ := h i x hx
  exact ⟨(hc _).trans h1, (hc _).trans h2, (hc _).trans h3, h4⟩
theorem CaAt.stays {w wr : World} {b o B : Nat} {l : List CaI} (h : CaAt w b o l) (hb : Below B w wr) (hB : 0 < l.length → b < B) : CaAt wr b o l := by
  intro i x hx
  have hl : 0 < l.length := by have := (List.getElem?_eq_some_iff.1 hx).1; omega
  have hc := fun k => hb.cell (p := ⟨b, k, none⟩) (hB hl)
  obtain ⟨h1, h2, h3, h4, h5, h6, h7⟩ := h i x hx
  exact ⟨(hc _).trans h1, (hc _).trans h2, (hc _).trans h3, (hc _).trans h4, (hc _).trans h5, (hc _).trans h6, h7⟩
/-- a script in memory: the slices' spots and rooms -/
structure Spots where
  sa : Option Addr
  sb : Nat
  so : Nat
  sc : Nat
  ca : Option Addr
  cb : Nat
  co : Nat
  cc : Nat
  pa : Option Addr
  pb : Nat
  po : Nat
  pc : Nat
abbrev scV (x : ScI) (s : Spots) : Value := .agg #[.int .i64 x.n, .slice s.sa x.specs.length s.sc, .slice s.ca x.calls.length s.cc, .slice s.pa x.picks.length s.pc]
structure ScAt (w : World) (x : ScI) (s : Spots) : Prop where
  n : i64B x.n
  ls : x.specs.length ≤ 9223372036854775807
  lc : x.calls.length ≤ 9223372036854775807
  lp : x.picks.length ≤ 9223372036854775807
  a1 : 0 < x.specs.length → s.sa = some ⟨s.sb, s.so, none⟩
  a2 : 0 < x.calls.length → s.ca = some ⟨s.cb, s.co, none⟩
  a3 : 0 < x.picks.length → s.pa = some ⟨s.pb, s.po, none⟩
  b1 : 0 < x.specs.length → s.sb < w.heap.size
  b2 : 0 < x.calls.length → s.cb < w.heap.size
  b3 : 0 < x.picks.length → s.pb < w.heap.size
  r3 : x.picks.length ≤ s.pc
  c1 : SpAt w s.sb s.so x.specs
  c2 : CaAt w s.cb s.co x.calls
  c3 : ICells w s.pb s.po x.picks
theorem ScAt.stays {w wr : World} {x : ScI} {s : Spots} (h : ScAt w x s) (hb : Below w.heap.size w wr) : ScAt wr x s :=
  ⟨h.n, h.ls, h.lc, h.lp, h.a1, h.a2, h.a3, fun k => Nat.lt_of_lt_of_le (h.b1 k) hb.size, fun k => Nat.lt_of_lt_of_le (h.b2 k) hb.size, fun k => Nat.lt_of_lt_of_le (h.b3 k) hb.size, h.r3, h.c1.stays hb h.b1, h.c2.stays hb h.b2, h.c3.stays hb h.b3⟩

/-- are all numbers from 0 to most? -/
def wth (most : Int) (l : List Int) : Bool := l.all (fun x => decide (0 ≤ x) && decide (x ≤ most))
def okS (x : SpI) : Bool := wth 255 [x.k] && wth 65535 [x.p, x.q]
def okC (n : Int) (x : CaI) : Bool := wth (n - 1) [x.t] && wth 255 [x.o, x.k]
def room (s : ScI) : Bool := s.specs.all okS && s.calls.all (okC s.n) && wth 255 s.picks
def wrong (s : ScI) : Int :=
  if s.n < 1 ∨ 16 < s.n then 1 else if 8 < s.specs.length ∨ 1000 < s.calls.length ∨ 65536 < s.picks.length then 3 else if room s = false then 10 else 0

theorem all_drop {α : Type} {l : List α} {p : α → Bool} {j : Nat} {x : α} (h : l[j]? = some x) : (l.drop j).all p = (p x && (l.drop (j + 1)).all p) := by
  have hl := (List.getElem?_eq_some_iff.1 h).1
  rw [List.drop_eq_getElem_cons hl, List.all_cons]
  rw [List.getElem?_eq_getElem hl, Option.some.injEq] at h
  rw [h]

set_option maxHeartbeats 400000 in
theorem within_any (most : Int) (ao : Option Addr) (b o c : Nat) (l : List Int) (w : World) (hl : l.length ≤ 9223372036854775807) (ha : 0 < l.length → ao = some ⟨b, o, none⟩) (hc : ICells w b o l) :
    Calls Try.prog 40 #[.int .i64 most, .slice ao l.length c] w fun e w' => e = .returned (.bool (wth most l)) ∧ w = w' := by
  have HC := Lib.hid hc
  have HA := Lib.hid ha
  clear hc ha
  go_enter Try.func40, Try.ntmps40
  go_wp2
  go_loop [9] (fun k => ∃ (j : Nat), j ≤ l.length ∧ k = .int .i64 j ∧ Hid (wth most (l.drop j) = wth most l)) (fun k => l.length - (intOf k).toNat)
  case atStart => exact ⟨0, Nat.zero_le _, rfl, Lib.hid rfl⟩
  case round =>
    obtain ⟨j, hj, rfl, hp⟩ := hrel
    by_cases hlt : j < l.length
    · obtain rfl := HA.out (by omega)
      obtain ⟨x, hx⟩ : ∃ x, l[j]? = some x := ⟨l[j], List.getElem?_eq_getElem (by omega)⟩
      obtain ⟨c1, _⟩ := HC.out j _ hx
      have hq : wth most l = (decide (0 ≤ x) && decide (x ≤ most) && wth most (l.drop (j + 1))) := by rw [← hp.out]; exact all_drop hx
      clear hx hp
      by_cases h1 : x < 0
      · have E : Hid (wth most l = false) := Lib.hid (by rw [hq, decide_eq_false (by omega)]; rfl)
        clear hq
        go_wp2
        go_ret
        rw [E.out]
        exact ⟨rfl, rfl⟩
      · by_cases h2 : most < x
        · have E : Hid (wth most l = false) := Lib.hid (by rw [hq, decide_eq_false (show ¬ x ≤ most by omega)]; simp)
          clear hq
          go_wp2
          go_ret
          rw [E.out]
          exact ⟨rfl, rfl⟩
        · have E : Hid (wth most (l.drop (j + 1)) = wth most l) := Lib.hid (by rw [hq, decide_eq_true (show 0 ≤ x by omega), decide_eq_true (show x ≤ most by omega)]; rfl)
          clear hq
          go_wp2
          go_round
          case rel => exact ⟨j + 1, by omega, by go_num, E⟩
          case measure => simp [intOf]; omega
    · have : j = l.length := by omega
      subst this
      have E : Hid (wth most l = true) := Lib.hid (by rw [← hp.out, List.drop_length]; rfl)
      go_wp2
      go_ret
      rw [E.out]
      exact ⟨rfl, rfl⟩

theorem icells1 (w : World) (B : Nat) (x : Int) (hB : B = w.heap.size) (hx : i64B x) : ICells (w.alloc (.cells #[.int .i64 x] 3)) B 0 [x] := by
  subst hB
  intro i y hy
  match i, hy with
  | 0, hy => simp at hy; subst hy; refine ⟨?_, hx⟩; rw [World.cell?_alloc_at _ _ _ _ rfl]; rfl
theorem icells2' (w : World) (B : Nat) (x y : Int) (hB : B = w.heap.size) (hx : i64B x) (hy : i64B y) : ICells (w.alloc (.cells #[.int .i64 x, .int .i64 y] 3)) B 0 [x, y] := by
  subst hB
  intro i z hz
  match i, hz with
  | 0, hz => simp at hz; subst hz; refine ⟨?_, hx⟩; rw [World.cell?_alloc_at _ _ _ _ rfl]; rfl
  | 1, hz => simp at hz; subst hz; refine ⟨?_, hy⟩; rw [World.cell?_alloc_at _ _ _ _ rfl]; rfl
theorem within1 (most x : Int) (g : Nat) (w : World) (hg : g = w.heap.size) (hx : i64B x) : Calls Try.prog 40 #[.int .i64 most, .slice (some ⟨g, 0, none⟩) 1 1] (w.alloc (.cells #[.int .i64 x] 3)) fun e w' => e = .returned (.bool (wth most [x])) ∧ w.alloc (.cells #[.int .i64 x] 3) = w' :=
  within_any most (some ⟨g, 0, none⟩) g 0 1 [x] _ (by simp) (fun _ => rfl) (icells1 w _ x hg hx)
theorem within2 (most x y : Int) (g : Nat) (w : World) (hg : g = w.heap.size) (hx : i64B x) (hy : i64B y) : Calls Try.prog 40 #[.int .i64 most, .slice (some ⟨g, 0, none⟩) 2 2] (w.alloc (.cells #[.int .i64 x, .int .i64 y] 3)) fun e w' => e = .returned (.bool (wth most [x, y])) ∧ w.alloc (.cells #[.int .i64 x, .int .i64 y] 3) = w' :=
  within_any most (some ⟨g, 0, none⟩) g 0 2 [x, y] _ (by simp) (fun _ => rfl) (icells2' w _ x y hg hx hy)

set_option maxHeartbeats 2000000 in
set_option maxRecDepth 100000 in
theorem hasRoom_any (x : ScI) (s : Spots) (w : World) (h : ScAt w x s) (h1 : 1 ≤ x.n) (h2 : x.n ≤ 16) :
    Calls Try.prog 34 #[scV x s] w fun e w' => e = .returned (.bool (room x)) ∧ Below w.heap.size w w' := by
  have hb0 : Below w.heap.size w (w.alloc (.cells #[.int .i64 x.n, .slice s.sa x.specs.length s.sc, .slice s.ca x.calls.length s.cc, .slice s.pa x.picks.length s.pc] 26)) := (Below.refl _ _).alloc (Nat.le_refl _) _
  have HN0 := Lib.hid (heap_new w (.cells #[.int .i64 x.n, .slice s.sa x.specs.length s.sc, .slice s.ca x.calls.length s.cc, .slice s.pa x.picks.length s.pc] 26))
  have HH := Lib.hid h
  have HB0 := Lib.hid hb0
  have hls := h.ls
  have hlc := h.lc
  have hlp := h.lp
  clear h hb0
  obtain ⟨n, specs, calls, picks⟩ := x
  obtain ⟨sa, sb, so, sc, ca, cb, co, cc, pa, pb, po, pc⟩ := s
  dsimp only at *
  have HA1 : Hid (0 < specs.length → sa = some ⟨sb, so, none⟩) := Lib.hid HH.out.a1
  have HA2 : Hid (0 < calls.length → ca = some ⟨cb, co, none⟩) := Lib.hid HH.out.a2
  have HA3 : Hid (0 < picks.length → pa = some ⟨pb, po, none⟩) := Lib.hid HH.out.a3
  have HC1 : Hid (∀ wr, Below w.heap.size w wr → SpAt wr sb so specs) := Lib.hid (fun wr hb => HH.out.c1.stays hb HH.out.b1)
  have HC2 : Hid (∀ wr, Below w.heap.size w wr → CaAt wr cb co calls) := Lib.hid (fun wr hb => HH.out.c2.stays hb HH.out.b2)
  have HC3 : Hid (∀ wr, Below w.heap.size w wr → ICells wr pb po picks) := Lib.hid (fun wr hb => HH.out.c3.stays hb HH.out.b3)
  clear HH
  go_enter Try.func34, Try.ntmps34
  go_wp2_with fail
  generalize hW0 : w.alloc (.cells #[.int .i64 n, .slice sa specs.length sc, .slice ca calls.length cc, .slice pa picks.length pc] 26) = W0 at HN0 HB0 ⊢
  clear hW0
  have hlt0 := lt_of_heap HN0.out
  have q1 := cell_of_heap HN0.out (k := 1) (v := .slice sa specs.length sc) rfl
  go_wp2
  go_loopw [10] (fun k wr => ∃ (j : Nat), j ≤ specs.length ∧ k = .int .i64 j ∧ Hid (Below W0.heap.size W0 wr) ∧ Hid ((specs.drop j).all okS = specs.all okS)) (fun k _ => specs.length - (intOf k).toNat)
  case atStart => exact ⟨0, Nat.zero_le _, rfl, Lib.hid (Below.refl _ _), Lib.hid rfl⟩
  case round =>
    obtain ⟨j, hj, rfl, hbl, hp⟩ := hrel
    have HBW := Lib.hid (HB0.out.trans (hbl.out.mono HB0.out.size))
    by_cases hlt : j < specs.length
    · obtain rfl := HA1.out (by omega)
      obtain ⟨y, hy⟩ : ∃ y, specs[j]? = some y := ⟨specs[j], List.getElem?_eq_getElem (by omega)⟩
      obtain ⟨c0, c1, c2, i0, i1, i2⟩ := (HC1.out wr HBW.out) j y hy
      have hq : specs.all okS = (okS y && (specs.drop (j + 1)).all okS) := by rw [← hp.out]; exact all_drop hy
      have HQ := Lib.hid hq
      clear hy hp hq
      obtain ⟨yk, yp, yq⟩ := y
      dsimp only at *
      have W1 := Lib.hid (fun g w hg => within1 255 yk g w hg i0)
      have W2 := Lib.hid (fun g w hg => within2 65535 yp yq g w hg i1 i2)
      go_wp2_with fail
      refine (W1.out _ _ (by simp)).mono ?_
      rintro e w1 ⟨rfl, hw1⟩
      cases e1 : wth 255 [yk]
      · have E : Hid (room ⟨n, specs, calls, picks⟩ = false) := Lib.hid (by unfold room; dsimp only; rw [HQ.out]; unfold okS; dsimp only; rw [e1]; simp)
        have HB2 : Hid (Below w.heap.size w w1) := Lib.hid (by rw [← hw1]; exact (HBW.out.alloc HBW.out.size _).alloc (by simp; have := HBW.out.size; omega) _)
        clear hw1
        go_wp2_with fail
        go_ret
        rw [E.out]
        exact ⟨rfl, HB2.out⟩
      · subst hw1
        go_wp2_with fail
        refine (W2.out _ _ (by simp)).mono ?_
        rintro e w2 ⟨rfl, hw2⟩
        have HB2 : Hid (Below W0.heap.size W0 w2) := Lib.hid (by
          rw [← hw2]
          exact ((hbl.out.alloc hbl.out.size _).alloc (by simp; have := hbl.out.size; omega) _).alloc (by simp; have := hbl.out.size; omega) _)
        have HB3 := Lib.hid (HB0.out.trans (HB2.out.mono HB0.out.size))
        clear hw2
        cases e2 : wth 65535 [yp, yq]
        · have E : Hid (room ⟨n, specs, calls, picks⟩ = false) := Lib.hid (by unfold room; dsimp only; rw [HQ.out]; unfold okS; dsimp only; rw [e1, e2]; simp)
          go_wp2_with fail
          go_ret
          rw [E.out]
          exact ⟨rfl, HB3.out⟩
        · have E : Hid ((specs.drop (j + 1)).all okS = specs.all okS) := Lib.hid (by rw [HQ.out]; unfold okS; dsimp only; rw [e1, e2]; simp)
          go_wp2_with fail
          go_roundw
          case rel => exact ⟨j + 1, by omega, by go_num, HB2, E⟩
          case measure => simp [intOf]; omega
    · have ES : Hid (specs.all okS = true) := Lib.hid (by rw [← hp.out, show j = specs.length by omega, List.drop_length]; rfl)
      clear hp
      have HNW := Lib.hid ((hbl.out.block w.heap.size hlt0).trans HN0.out)
      have hltw := lt_of_heap HNW.out
      have q0 := cell_of_heap HNW.out (k := 0) (v := .int .i64 n) rfl
      have q2 := cell_of_heap HNW.out (k := 2) (v := .slice ca calls.length cc) rfl
      have q3 := cell_of_heap HNW.out (k := 3) (v := .slice pa picks.length pc) rfl
      generalize hw9 : wr = W9 at *
      clear hw9
      go_wp2
      go_loopw [32] (fun k wr => ∃ (j : Nat), j ≤ calls.length ∧ k = .int .i64 j ∧ Hid (Below W9.heap.size W9 wr) ∧ Hid ((calls.drop j).all (okC n) = calls.all (okC n))) (fun k _ => calls.length - (intOf k).toNat)
      case atStart => exact ⟨0, Nat.zero_le _, rfl, Lib.hid (Below.refl _ _), Lib.hid rfl⟩
      case round =>
        obtain ⟨j, hj, rfl, hbl9, hp⟩ := hrel
        have HBX := Lib.hid (HBW.out.trans (hbl9.out.mono HBW.out.size))
        have q0' := (hbl9.out.cell (p := ⟨w.heap.size, 0, none⟩) hltw).trans q0
        have hlty : w.heap.size < wr.heap.size := Nat.lt_of_lt_of_le hltw hbl9.out.size
        by_cases hlt : j < calls.length
        · obtain rfl := HA2.out (by omega)
          obtain ⟨y, hy⟩ : ∃ y, calls[j]? = some y := ⟨calls[j], List.getElem?_eq_getElem (by omega)⟩
          obtain ⟨c0, c1, c2, c3, c4, c5, ⟨i0, i1, i2⟩, i3⟩ := (HC2.out wr HBX.out) j y hy
          have hq : calls.all (okC n) = (okC n y && (calls.drop (j + 1)).all (okC n)) := by rw [← hp.out]; exact all_drop hy
          have HQ := Lib.hid hq
          clear hy hp hq i3
          obtain ⟨yt, yo, yk, ya, yb, yc⟩ := y
          dsimp only at *
          have V1 := Lib.hid (fun g w hg => within1 (n - 1) yt g w hg i0)
          have V2 := Lib.hid (fun g w hg => within2 255 yo yk g w hg i1 i2)
          go_wp2_with fail
          refine (V1.out _ _ (by simp)).mono ?_
          rintro e w1 ⟨rfl, hw1⟩
          cases e1 : wth (n - 1) [yt]
          · have E : Hid (room ⟨n, specs, calls, picks⟩ = false) := Lib.hid (by unfold room; dsimp only; rw [HQ.out]; unfold okC; dsimp only; rw [e1]; simp)
            have HB2 : Hid (Below w.heap.size w w1) := Lib.hid (by rw [← hw1]; exact (HBX.out.alloc HBX.out.size _).alloc (by simp; have := HBX.out.size; omega) _)
            clear hw1
            go_wp2_with fail
            go_ret
            rw [E.out]
            exact ⟨rfl, HB2.out⟩
          · subst hw1
            go_wp2_with fail
            refine (V2.out _ _ (by simp)).mono ?_
            rintro e w2 ⟨rfl, hw2⟩
            have HB2 : Hid (Below W9.heap.size W9 w2) := Lib.hid (by
              rw [← hw2]
              exact ((hbl9.out.alloc hbl9.out.size _).alloc (by simp; have := hbl9.out.size; omega) _).alloc (by simp; have := hbl9.out.size; omega) _)
            have HB3 := Lib.hid (HBW.out.trans (HB2.out.mono HBW.out.size))
            clear hw2
            cases e2 : wth 255 [yo, yk]
            · have E : Hid (room ⟨n, specs, calls, picks⟩ = false) := Lib.hid (by unfold room; dsimp only; rw [HQ.out]; unfold okC; dsimp only; rw [e1, e2]; simp)
              go_wp2_with fail
              go_ret
              rw [E.out]
              exact ⟨rfl, HB3.out⟩
            · have E : Hid ((calls.drop (j + 1)).all (okC n) = calls.all (okC n)) := Lib.hid (by rw [HQ.out]; unfold okC; dsimp only; rw [e1, e2]; simp)
              go_wp2_with fail
              go_roundw
              case rel => exact ⟨j + 1, by omega, by go_num, HB2, E⟩
              case measure => simp [intOf]; omega
        · have EC : Hid (calls.all (okC n) = true) := Lib.hid (by rw [← hp.out, show j = calls.length by omega, List.drop_length]; rfl)
          have q3' := (hbl9.out.cell (p := ⟨w.heap.size, 3, none⟩) hltw).trans q3
          have WP := Lib.hid (within_any 255 pa pb po pc picks wr hlp HA3.out (HC3.out wr HBX.out))
          have E : Hid (room ⟨n, specs, calls, picks⟩ = wth 255 picks) := Lib.hid (by unfold room; dsimp only; rw [ES.out, EC.out]; rfl)
          clear hp
          go_wp2_with fail
          refine WP.out.mono ?_
          rintro e w5 ⟨rfl, rfl⟩
          go_wp2_with fail
          go_ret
          rw [E.out]
          exact ⟨rfl, HBX.out⟩
end Go.Proofs.Yticaheiomidanaa
