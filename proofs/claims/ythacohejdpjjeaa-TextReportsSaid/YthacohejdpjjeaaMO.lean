/- Walks: comparison of lists, answers, events, alike or not. -/
import Derived.Test.YthacohejdpjjeaaMN
namespace Go.Proofs.Ythacohejdpjjeaa
set_option linter.unusedVariables false
open Go.RowKit Go.Lib Go.Sort

theorem take_ne {α : Type} {l1 l2 : List α} {j : Nat} {x y : α} (h1 : l1[j]? = some x) (h2 : l2[j]? = some y) (h : x ≠ y) : l1 ≠ l2 := by
  intro e; subst e; rw [h1] at h2; cases h2; exact h rfl
theorem take_all_eq {α : Type} {l1 l2 : List α} (hl : l1.length = l2.length) (h : l1.take l1.length = l2.take l1.length) : l1 = l2 := by
  rw [List.take_length, hl, List.take_length] at h; exact h

set_option maxHeartbeats 1000000 in
set_option maxRecDepth 100000 in
theorem cmpI_any (ao1 ao2 : Option Addr) (b1 o1 c1 b2 o2 c2 : Nat) (l1 l2 : List Int) (w : World) (hl1 : l1.length ≤ 4611686018427387904) (hl2 : l2.length ≤ 4611686018427387904)
    (ha1 : 0 < l1.length → ao1 = some ⟨b1, o1, none⟩) (hc1 : ∀ (i : Nat) (x : Int), l1[i]? = some x → w.cell? ⟨b1, o1 + i, none⟩ = some (.int .i64 x))
    (ha2 : 0 < l2.length → ao2 = some ⟨b2, o2, none⟩) (hc2 : ∀ (i : Nat) (x : Int), l2[i]? = some x → w.cell? ⟨b2, o2 + i, none⟩ = some (.int .i64 x)) :
    Calls Try.prog 27 #[.slice ao1 l1.length c1, .slice ao2 l2.length c2] w fun e w' => e = .returned (.bool (decide (l1 = l2))) ∧ Below w.heap.size w w' := by
  by_cases hle : l1.length = l2.length
  · have HA1 := Lib.hid ha1
    have HA2 := Lib.hid ha2
    have HC1 := Lib.hid hc1
    have HC2 := Lib.hid hc2
    have HT := Lib.hid (take_all_eq hle)
    have HLE := Lib.hid hle
    clear ha1 ha2 hc1 hc2
    rw [← hle] at hl2 HA2 ⊢
    clear hle
    go_enter Try.func27, Try.ntmps27
    go_wp2
    go_loopw [13] (fun k wr => ∃ j m : Nat, j ≤ l1.length ∧ k = .int .i64 j ∧ Hid (l1.take j = l2.take j) ∧ wr = w.drewN m) (fun k _ => l1.length - (RowKit.intOf k).toNat)
    case atStart => exact ⟨0, 0, Nat.zero_le _, rfl, Lib.hid (by simp), rfl⟩
    case round =>
      obtain ⟨j, m, hj, rfl, hp, rfl⟩ := hrel
      by_cases hlt : j < l1.length
      · obtain rfl := HA1.out (by omega)
        obtain rfl := HA2.out (by omega)
        obtain ⟨x, hx⟩ : ∃ x, l1[j]? = some x := ⟨l1[j], List.getElem?_eq_getElem hlt⟩
        obtain ⟨y, hy⟩ : ∃ y, l2[j]? = some y := ⟨l2[j]'(by rw [← HLE.out]; exact hlt), List.getElem?_eq_getElem _⟩
        have d1 := HC1.out j x hx
        have d2 := HC2.out j y hy
        by_cases hxy : x = y
        · subst hxy
          have HN : Hid (l1.take (j + 1) = l2.take (j + 1)) := Lib.hid (by rw [take_snoc hx, take_snoc hy, hp.out])
          clear hx hy
          go_wp2_with fail
          go_quiet (fail)
          go_wp2
          go_roundw
          case rel => exact ⟨j + 1, _, by omega, by go_num, HN, rfl⟩
          case measure => simp [RowKit.intOf]; omega
        · have HR : Hid (decide (l1 = l2) = false) := Lib.hid (decide_eq_false (take_ne hx hy hxy))
          have hd : decide (x = y) = false := decide_eq_false hxy
          have hd2 : (x == y) = false := by rw [beq_eq_false_iff_ne]; exact hxy
          clear hx hy
          go_wp2_with fail
          go_quiet (fail)
          go_wp2
          go_ret
          exact ⟨by rw [HR.out]; rfl, below_drewN (below_drewN (Below.refl _ _) _) _⟩
      · have hj2 : j = l1.length := by omega
        have HR : Hid (decide (l1 = l2) = true) := Lib.hid (decide_eq_true (HT.out (by rw [← hj2]; exact hp.out)))
        clear hp
        subst hj2
        go_wp2
        go_ret
        exact ⟨by rw [HR.out]; rfl, below_drewN (Below.refl _ _) _⟩
  · have HR : Hid (decide (l1 = l2) = false) := Lib.hid (decide_eq_false (fun e => hle (by rw [e])))
    have hd : decide ((l1.length : Int) = (l2.length : Int)) = false := decide_eq_false (by omega)
    have hd2 : ((l1.length : Int) == (l2.length : Int)) = false := by rw [beq_eq_false_iff_ne]; omega
    have hd3 : (l1.length == l2.length) = false := by rw [beq_eq_false_iff_ne]; omega
    go_enter Try.func27, Try.ntmps27
    go_wp2
    go_ret
    exact ⟨by rw [HR.out]; rfl, Below.refl _ _⟩

set_option maxHeartbeats 1000000 in
set_option maxRecDepth 100000 in
theorem cmpW_any (ao1 ao2 : Option Addr) (b1 o1 c1 b2 o2 c2 : Nat) (l1 l2 : List Nat) (w : World) (hl1 : l1.length ≤ 4611686018427387904) (hl2 : l2.length ≤ 4611686018427387904)
    (ha1 : 0 < l1.length → ao1 = some ⟨b1, o1, none⟩) (hc1 : ∀ (i : Nat) (x : Nat), l1[i]? = some x → w.cell? ⟨b1, o1 + i, none⟩ = some (.int .u64 (x : Int)))
    (ha2 : 0 < l2.length → ao2 = some ⟨b2, o2, none⟩) (hc2 : ∀ (i : Nat) (x : Nat), l2[i]? = some x → w.cell? ⟨b2, o2 + i, none⟩ = some (.int .u64 (x : Int))) :
    Calls Try.prog 41 #[.slice ao1 l1.length c1, .slice ao2 l2.length c2] w fun e w' => e = .returned (.bool (decide (l1 = l2))) ∧ Below w.heap.size w w' := by
  by_cases hle : l1.length = l2.length
  · have HA1 := Lib.hid ha1
    have HA2 := Lib.hid ha2
    have HC1 := Lib.hid hc1
    have HC2 := Lib.hid hc2
    have HT := Lib.hid (take_all_eq hle)
    have HLE := Lib.hid hle
    clear ha1 ha2 hc1 hc2
    rw [← hle] at hl2 HA2 ⊢
    clear hle
    go_enter Try.func41, Try.ntmps41
    go_wp2
    go_loopw [13] (fun k wr => ∃ j m : Nat, j ≤ l1.length ∧ k = .int .i64 j ∧ Hid (l1.take j = l2.take j) ∧ wr = w.drewN m) (fun k _ => l1.length - (RowKit.intOf k).toNat)
    case atStart => exact ⟨0, 0, Nat.zero_le _, rfl, Lib.hid (by simp), rfl⟩
    case round =>
      obtain ⟨j, m, hj, rfl, hp, rfl⟩ := hrel
      by_cases hlt : j < l1.length
      · obtain rfl := HA1.out (by omega)
        obtain rfl := HA2.out (by omega)
        obtain ⟨x, hx⟩ : ∃ x, l1[j]? = some x := ⟨l1[j], List.getElem?_eq_getElem hlt⟩
        obtain ⟨y, hy⟩ : ∃ y, l2[j]? = some y := ⟨l2[j]'(by rw [← HLE.out]; exact hlt), List.getElem?_eq_getElem _⟩
        have d1 := HC1.out j x hx
        have d2 := HC2.out j y hy
        by_cases hxy : x = y
        · subst hxy
          have HN : Hid (l1.take (j + 1) = l2.take (j + 1)) := Lib.hid (by rw [take_snoc hx, take_snoc hy, hp.out])
          clear hx hy
          go_wp2_with fail
          go_quiet (fail)
          go_wp2
          go_roundw
          case rel => exact ⟨j + 1, _, by omega, by go_num, HN, rfl⟩
          case measure => simp [RowKit.intOf]; omega
        · have HR : Hid (decide (l1 = l2) = false) := Lib.hid (decide_eq_false (take_ne hx hy hxy))
          have hd : decide ((x : Int) = (y : Int)) = false := decide_eq_false (by omega)
          have hd2 : ((x : Int) == (y : Int)) = false := by rw [beq_eq_false_iff_ne]; omega
          have hd3 : (x == y) = false := by rw [beq_eq_false_iff_ne]; exact hxy
          clear hx hy
          go_wp2_with fail
          go_quiet (fail)
          go_wp2
          go_ret
          exact ⟨by rw [HR.out]; rfl, below_drewN (below_drewN (Below.refl _ _) _) _⟩
      · have hj2 : j = l1.length := by omega
        have HR : Hid (decide (l1 = l2) = true) := Lib.hid (decide_eq_true (HT.out (by rw [← hj2]; exact hp.out)))
        clear hp
        subst hj2
        go_wp2
        go_ret
        exact ⟨by rw [HR.out]; rfl, below_drewN (Below.refl _ _) _⟩
  · have HR : Hid (decide (l1 = l2) = false) := Lib.hid (decide_eq_false (fun e => hle (by rw [e])))
    have hd : decide ((l1.length : Int) = (l2.length : Int)) = false := decide_eq_false (by omega)
    have hd2 : ((l1.length : Int) == (l2.length : Int)) = false := by rw [beq_eq_false_iff_ne]; omega
    have hd3 : (l1.length == l2.length) = false := by rw [beq_eq_false_iff_ne]; omega
    go_enter Try.func41, Try.ntmps41
    go_wp2
    go_ret
    exact ⟨by rw [HR.out]; rfl, Below.refl _ _⟩

/-- a list of words, for what only reads -/
structure WrdR (w : World) (ao : Option Addr) (b o : Nat) (l : List Nat) : Prop where
  a : 0 < l.length → ao = some ⟨b, o, none⟩
  lt : 0 < l.length → b < w.heap.size
  c : ∀ (i : Nat) (x : Nat), l[i]? = some x → w.cell? ⟨b, o + i, none⟩ = some (.int .u64 (x : Int))
theorem WrdR.below {w w' : World} {ao : Option Addr} {b o : Nat} {l : List Nat} (h : WrdR w ao b o l) (hb : Below w.heap.size w w') : WrdR w' ao b o l :=
  ⟨h.a, fun h0 => Nat.lt_of_lt_of_le (h.lt h0) hb.size, fun i x hx => (hb.cell (p := ⟨b, _, none⟩) (h.lt (by have := (List.getElem?_eq_some_iff.1 hx).1; omega))).trans (h.c i x hx)⟩
abbrev anV (e : Int) (v : Nat) (a : Option Addr) (n c : Nat) : Value := .agg #[.int .i64 e, .int .u64 (v : Int), .slice a n c]
abbrev anO (e : Int) (v : Nat) (a : Option Addr) (n c : Nat) : Obj := .cells #[.int .i64 e, .int .u64 (v : Int), .slice a n c] 42

set_option maxHeartbeats 2000000 in
set_option maxRecDepth 100000 in
theorem cmpA_any (e1 e2 : Int) (v1 v2 : Nat) (ao1 ao2 : Option Addr) (b1 o1 c1 b2 o2 c2 : Nat) (l1 l2 : List Nat) (w : World) (hl1 : l1.length ≤ 4611686018427387904) (hl2 : l2.length ≤ 4611686018427387904)
    (h1 : WrdR w ao1 b1 o1 l1) (h2 : WrdR w ao2 b2 o2 l2) :
    Calls Try.prog 26 #[anV e1 v1 ao1 l1.length c1, anV e2 v2 ao2 l2.length c2] w fun e w' => e = .returned (.bool (decide (e1 = e2 ∧ v1 = v2 ∧ l1 = l2))) ∧ Below w.heap.size w w' := by
  have hb : Below w.heap.size w ((w.alloc (anO e1 v1 ao1 l1.length c1)).alloc (anO e2 v2 ao2 l2.length c2)) := ((Below.refl _ _).alloc (Nat.le_refl _) _).alloc (by simp) _
  have g1 := h1.below hb
  have g2 := h2.below hb
  have HC := Lib.hid (cmpW_any ao1 ao2 b1 o1 c1 b2 o2 c2 l1 l2 _ hl1 hl2 g1.a g1.c g2.a g2.c)
  have HB := Lib.hid hb
  clear hb g1 g2 h1 h2
  by_cases he : e1 = e2
  · by_cases hv : v1 = v2
    · obtain ⟨d, hd⟩ : ∃ d, decide (l1 = l2) = d := ⟨_, rfl⟩
      rw [show decide (e1 = e2 ∧ v1 = v2 ∧ l1 = l2) = d by rw [← hd]; simp [he, hv]]
      rw [hd] at HC
      subst he; subst hv
      clear hd
      go_enter Try.func26, Try.ntmps26
      go_wp2_with (go_at_call 41; refine HC.out.mono ?_; rintro e w1 ⟨rfl, hb1⟩)
      have HB1 := Lib.hid (HB.out.trans (hb1.mono HB.out.size))
      clear hb1
      go_ret
      exact ⟨rfl, HB1.out⟩
    · rw [show decide (e1 = e2 ∧ v1 = v2 ∧ l1 = l2) = false from decide_eq_false (fun h => hv h.2.1)]
      have hd2 : ((v1 : Int) == (v2 : Int)) = false := by rw [beq_eq_false_iff_ne]; omega
      have hd3 : (v1 == v2) = false := by rw [beq_eq_false_iff_ne]; exact hv
      have hd4 : decide ((v1 : Int) = (v2 : Int)) = false := decide_eq_false (by omega)
      subst he
      clear hv HC
      go_enter Try.func26, Try.ntmps26
      go_wp2_with fail
      go_ret
      exact ⟨rfl, HB.out⟩
  · rw [show decide (e1 = e2 ∧ v1 = v2 ∧ l1 = l2) = false from decide_eq_false (fun h => he h.1)]
    have hd2 : (e1 == e2) = false := by rw [beq_eq_false_iff_ne]; exact he
    have hd4 : decide (e1 = e2) = false := decide_eq_false he
    clear he HC
    go_enter Try.func26, Try.ntmps26
    go_wp2_with fail
    go_ret
    exact ⟨rfl, HB.out⟩

theorem EvX.eq_iff (x y : EvX) : (x = y) ↔ (x.ca = y.ca ∧ x.iv = y.iv ∧ x.rs = y.rs ∧ x.st = y.st ∧ (x.er = y.er ∧ x.vl = y.vl ∧ x.lw = y.lw) ∧ x.kw = y.kw) := by
  constructor
  · rintro rfl; exact ⟨rfl, rfl, rfl, rfl, ⟨rfl, rfl, rfl⟩, rfl⟩
  · obtain ⟨_, _, _, _, _, _, _, _⟩ := x
    obtain ⟨_, _, _, _, _, _, _, _⟩ := y
    rintro ⟨a, b, c, d, ⟨e, f, g⟩, h⟩
    dsimp only at a b c d e f g h
    subst a; subst b; subst c; subst d; subst e; subst f; subst g; subst h
    rfl
instance (x y : EvX) : Decidable (x = y) := decidable_of_iff _ (EvX.eq_iff x y).symm
theorem EvR.words {w : World} {e : EvX} {s : EvS} (h : EvR w e s) : WrdR w s.la s.lb s.lo e.lw := ⟨h.la, h.lb, h.lc⟩

set_option maxHeartbeats 4000000 in
set_option maxRecDepth 100000 in
theorem cmpE_any (x y : EvX) (s t : EvS) (w : World) (hx : EvR w x s) (hy : EvR w y t) (hl : (x.lw.length ≤ 4611686018427387904 ∧ x.kw.length ≤ 4611686018427387904) ∧ (y.lw.length ≤ 4611686018427387904 ∧ y.kw.length ≤ 4611686018427387904)) :
    Calls Try.prog 14 #[evV x s, evV y t] w fun e w' => e = .returned (.bool (decide (x = y))) ∧ Below w.heap.size w w' := by
  have hb : Below w.heap.size w ((w.alloc (evO x s)).alloc (evO y t)) := ((Below.refl _ _).alloc (Nat.le_refl _) _).alloc (by simp) _
  have HI := Lib.hid (EvX.eq_iff x y)
  obtain ⟨W0, hW0⟩ : ∃ W0, (w.alloc (evO x s)).alloc (evO y t) = W0 := ⟨_, rfl⟩
  rw [hW0] at hb
  have s1 : (w.alloc (evO x s)).heap.size = w.heap.size + 1 := by simp
  have q1 : StB W0 w.heap.size 44 (evVs x s) := by rw [← hW0]; exact (StB.new w _ (evVs x s)).alloc _
  have q2 : StB W0 (w.heap.size + 1) 44 (evVs y t) := by rw [← hW0, ← s1]; exact StB.new _ _ (evVs y t)
  have g1 := hx.below hb
  have g2 := hy.below hb
  have HB := Lib.hid hb
  have hsz : w.heap.size + 1 < W0.heap.size := by rw [← hW0]; simp
  obtain ⟨ca1, iv1, rs1, st1, er1, vl1, lw1, kw1⟩ := x
  obtain ⟨ca2, iv2, rs2, st2, er2, vl2, lw2, kw2⟩ := y
  obtain ⟨la1, lb1, lo1, lc1, ka1, kb1, ko1, kc1⟩ := s
  obtain ⟨la2, lb2, lo2, lc2, ka2, kb2, ko2, kc2⟩ := t
  dsimp only at *
  obtain ⟨⟨m1, m2⟩, m3, m4⟩ := hl
  have HA := Lib.hid (cmpA_any er1 er2 vl1 vl2 la1 la2 lb1 lo1 lc1 lb2 lo2 lc2 lw1 lw2 W0 m1 m3 g1.words g2.words)
  have HK : Hid (∀ W, Below W0.heap.size W0 W → Calls Try.prog 27 #[.slice ka1 kw1.length kc1, .slice ka2 kw2.length kc2] W fun e w' => e = .returned (.bool (decide (kw1 = kw2))) ∧ Below W.heap.size W w') := Lib.hid (fun W h => by
    have u1 := g1.below h
    have u2 := g2.below h
    exact cmpI_any ka1 ka2 kb1 ko1 kc1 kb2 ko2 kc2 kw1 kw2 W m2 m4 u1.ka u1.kc u2.ka u2.kc)
  have a0 : W0.cell? ⟨w.heap.size, 0, none⟩ = some (.int .i64 ca1) := q1.cell (i := 0) rfl
  have b0 : W0.cell? ⟨w.heap.size + 1, 0, none⟩ = some (.int .i64 ca2) := q2.cell (i := 0) rfl
  have a1 : W0.cell? ⟨w.heap.size, 1, none⟩ = some (.int .i64 iv1) := q1.cell (i := 1) rfl
  have b1 : W0.cell? ⟨w.heap.size + 1, 1, none⟩ = some (.int .i64 iv2) := q2.cell (i := 1) rfl
  have a2 : W0.cell? ⟨w.heap.size, 2, none⟩ = some (.int .i64 rs1) := q1.cell (i := 2) rfl
  have b2 : W0.cell? ⟨w.heap.size + 1, 2, none⟩ = some (.int .i64 rs2) := q2.cell (i := 2) rfl
  have a3 : W0.cell? ⟨w.heap.size, 3, none⟩ = some (.int .i64 st1) := q1.cell (i := 3) rfl
  have b3 : W0.cell? ⟨w.heap.size + 1, 3, none⟩ = some (.int .i64 st2) := q2.cell (i := 3) rfl
  have a4 : W0.cell? ⟨w.heap.size, 4, none⟩ = some (.int .i64 er1) := q1.cell (i := 4) rfl
  have b4 : W0.cell? ⟨w.heap.size + 1, 4, none⟩ = some (.int .i64 er2) := q2.cell (i := 4) rfl
  have a5 : W0.cell? ⟨w.heap.size, 5, none⟩ = some (.int .u64 (vl1 : Int)) := q1.cell (i := 5) rfl
  have b5 : W0.cell? ⟨w.heap.size + 1, 5, none⟩ = some (.int .u64 (vl2 : Int)) := q2.cell (i := 5) rfl
  have a6 : W0.cell? ⟨w.heap.size, 6, none⟩ = some (.slice la1 lw1.length lc1) := q1.cell (i := 6) rfl
  have b6 : W0.cell? ⟨w.heap.size + 1, 6, none⟩ = some (.slice la2 lw2.length lc2) := q2.cell (i := 6) rfl
  have a7 : W0.cell? ⟨w.heap.size, 7, none⟩ = some (.slice ka1 kw1.length kc1) := q1.cell (i := 7) rfl
  have b7 : W0.cell? ⟨w.heap.size + 1, 7, none⟩ = some (.slice ka2 kw2.length kc2) := q2.cell (i := 7) rfl
  have HW := Lib.hid hW0
  clear hx hy hb q1 q2 g1 g2 m1 m2 m3 m4 s1
  by_cases hca : ca1 = ca2
  rotate_left
  · rw [show decide ((⟨ca1, iv1, rs1, st1, er1, vl1, lw1, kw1⟩ : EvX) = ⟨ca2, iv2, rs2, st2, er2, vl2, lw2, kw2⟩) = false from decide_eq_false (fun h => hca ((HI.out.1 h).1))]
    have hd2 : (ca1 == ca2) = false := by rw [beq_eq_false_iff_ne]; exact hca
    have hd4 : decide (ca1 = ca2) = false := decide_eq_false hca
    clear hca HA HK HI
    go_enter Try.func14, Try.ntmps14
    go_wp2
    try rw [HW.out]
    try clear hW0
    go_wp2_with fail
    go_ret
    exact ⟨rfl, HB.out⟩
  by_cases hiv : iv1 = iv2
  rotate_left
  · rw [show decide ((⟨ca1, iv1, rs1, st1, er1, vl1, lw1, kw1⟩ : EvX) = ⟨ca2, iv2, rs2, st2, er2, vl2, lw2, kw2⟩) = false from decide_eq_false (fun h => hiv ((HI.out.1 h).2.1))]
    have hd2 : (iv1 == iv2) = false := by rw [beq_eq_false_iff_ne]; exact hiv
    have hd4 : decide (iv1 = iv2) = false := decide_eq_false hiv
    clear hiv HA HK HI
    subst hca
    go_enter Try.func14, Try.ntmps14
    go_wp2
    try rw [HW.out]
    try clear hW0
    go_wp2_with fail
    go_ret
    exact ⟨rfl, HB.out⟩
  by_cases hrs : rs1 = rs2
  rotate_left
  · rw [show decide ((⟨ca1, iv1, rs1, st1, er1, vl1, lw1, kw1⟩ : EvX) = ⟨ca2, iv2, rs2, st2, er2, vl2, lw2, kw2⟩) = false from decide_eq_false (fun h => hrs ((HI.out.1 h).2.2.1))]
    have hd2 : (rs1 == rs2) = false := by rw [beq_eq_false_iff_ne]; exact hrs
    have hd4 : decide (rs1 = rs2) = false := decide_eq_false hrs
    clear hrs HA HK HI
    subst hca
    subst hiv
    go_enter Try.func14, Try.ntmps14
    go_wp2
    try rw [HW.out]
    try clear hW0
    go_wp2_with fail
    go_ret
    exact ⟨rfl, HB.out⟩
  by_cases hst : st1 = st2
  rotate_left
  · rw [show decide ((⟨ca1, iv1, rs1, st1, er1, vl1, lw1, kw1⟩ : EvX) = ⟨ca2, iv2, rs2, st2, er2, vl2, lw2, kw2⟩) = false from decide_eq_false (fun h => hst ((HI.out.1 h).2.2.2.1))]
    have hd2 : (st1 == st2) = false := by rw [beq_eq_false_iff_ne]; exact hst
    have hd4 : decide (st1 = st2) = false := decide_eq_false hst
    clear hst HA HK HI
    subst hca
    subst hiv
    subst hrs
    go_enter Try.func14, Try.ntmps14
    go_wp2
    try rw [HW.out]
    try clear hW0
    go_wp2_with fail
    go_ret
    exact ⟨rfl, HB.out⟩
  subst hca
  subst hiv
  subst hrs
  subst hst
  obtain ⟨d, hd⟩ : ∃ d, decide (er1 = er2 ∧ vl1 = vl2 ∧ lw1 = lw2) = d := ⟨_, rfl⟩
  have HD := Lib.hid hd
  rw [hd] at HA
  clear hd
  cases d with
  | false =>
    rw [show decide ((⟨ca1, iv1, rs1, st1, er1, vl1, lw1, kw1⟩ : EvX) = ⟨ca1, iv1, rs1, st1, er2, vl2, lw2, kw2⟩) = false from decide_eq_false (fun h => of_decide_eq_false HD.out (HI.out.1 h).2.2.2.2.1)]
    clear HK HI
    go_enter Try.func14, Try.ntmps14
    go_wp2_with (go_at_call 26; refine HA.out.mono ?_; rintro e w1 ⟨rfl, hb1⟩)
    have HB1 := Lib.hid (HB.out.trans (hb1.mono HB.out.size))
    clear hb1
    go_ret
    exact ⟨rfl, HB1.out⟩
  | true =>
    rw [show decide ((⟨ca1, iv1, rs1, st1, er1, vl1, lw1, kw1⟩ : EvX) = ⟨ca1, iv1, rs1, st1, er2, vl2, lw2, kw2⟩) = decide (kw1 = kw2) from decide_eq_decide.2 ⟨fun h => (HI.out.1 h).2.2.2.2.2, fun h => HI.out.2 ⟨rfl, rfl, rfl, rfl, of_decide_eq_true HD.out, h⟩⟩]
    clear HI
    generalize decide (kw1 = kw2) = k at HK ⊢
    go_enter Try.func14, Try.ntmps14
    go_wp2_with (first
      | (go_at_call 26; refine HA.out.mono ?_; rintro e w1 ⟨rfl, hb1⟩; (have HB1 := Lib.hid (HB.out.trans (hb1.mono HB.out.size))); (have c7 := (hb1.cell (p := ⟨w.heap.size, 7, none⟩) (by show w.heap.size < _; omega)).trans a7); (have e7 := (hb1.cell (p := ⟨w.heap.size + 1, 7, none⟩) (by show w.heap.size + 1 < _; omega)).trans b7); (have HK1 := Lib.hid (HK.out w1 hb1)); clear hb1)
      | (go_at_call 27; refine HK1.out.mono ?_; rintro e w2 ⟨rfl, hb2⟩))
    have HB2 := Lib.hid (HB1.out.trans (hb2.mono HB1.out.size))
    clear hb2
    go_ret
    exact ⟨rfl, HB2.out⟩
end Go.Proofs.Ythacohejdpjjeaa
