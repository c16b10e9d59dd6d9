/- Walk of the law TextReads: which event any line is, or where it goes wrong. -/
import Derived.Test.YtgmgpbplgiicoaaMZ
import Derived.Test.YtgmgpbplgiicoaaCA
import Derived.Deep.Cut
namespace Go.Proofs.Ytgmgpbplgiicoaa
set_option linter.unusedSimpArgs false
set_option linter.unusedVariables false
open Go.RowKit Go.Lib Go.Sort

theorem numsF_least {α : Type} (p : α → List Nat) : ∀ (b : Bool) (l : List α), l.length ≤ (numsF p b l).length + (if b = true then 1 else 0)
  | _, [] => by simp
  | b, x :: l => by
    have h1 := numsF_least p false l
    rw [if_neg (by simp)] at h1
    rw [numsF, List.length_append, List.length_append, List.length_cons]
    cases b
    · rw [if_neg (by simp), if_neg (by simp)]; simp; omega
    · rw [if_pos rfl, if_pos rfl]; simp; omega
theorem evLine_ge (e : EvX) : e.lw.length ≤ (evLine e).length ∧ e.kw.length ≤ (evLine e).length := by
  have h1 := numsF_least digs true e.lw
  have h2 := numsF_least digI true e.kw
  rw [if_pos rfl] at h1 h2
  unfold evLine listL
  simp only [List.length_append, List.length_cons, List.length_nil]
  omega
def zX : EvX := ⟨0, 0, 0, 0, 0, 0, [], []⟩
def zS : EvS := ⟨none, 0, 0, 0, none, 0, 0, 0⟩
theorem zR (w : World) : EvR w zX zS := by
  have z1 : ¬ 0 < zX.lw.length := by decide
  have z2 : ¬ 0 < zX.kw.length := by decide
  refine ⟨fun h => absurd h z1, fun h => absurd h z1, Nat.le_refl _, fun i x hx => ?_, fun h => absurd h z2, fun h => absurd h z2, Nat.le_refl _, fun i x hx => ?_⟩ <;> simp [zX] at hx

set_option maxHeartbeats 4000000 in
set_option maxRecDepth 100000 in
theorem reads_any (L : List Nat) (w : World) (hL : ∀ x ∈ L, x < 256) (hm : L.length ≤ maxLen) :
    Calls Try.prog 4 #[.string (strB L)] w fun e w' => e = .returned (.bool true) ∧ Below w.heap.size w w' := by
  have HT := Lib.hid three_any
  have hmx : L.length < 9223372036854775808 := by unfold maxLen at hm; omega
  by_cases g1 : L.length ≤ 5000
  · have dl : ¬ 5000 < (strB L).size := by rw [strB_size]; omega
    have hB : BytL L := ⟨hL, by omega⟩
    have RD : Hid (∀ W, Calls Try.prog 12 #[.string (strB L)] W (ReadP L W)) := Lib.hid (fun W => read_any L W hB (by omega))
    have RF : Hid (∀ W, Calls Try.prog 13 #[.string (strB L)] W (RefP L W)) := Lib.hid (fun W => rread_any L W hB (by omega))
    obtain ⟨j, hj⟩ : ∃ j, L.length - (endP L).1.length = j := ⟨_, rfl⟩
    have HJ := Lib.hid hj
    have HL := Lib.hid g1
    clear hj g1 hm hmx hL
    go_enter Try.func4, Try.ntmps4
    go_wp2_with fail
    refine (RD.out w).mono ?_
    rintro e w1 ⟨hb1, ⟨hok, s, rfl, hs⟩ | ⟨hok, rfl⟩⟩
    · obtain ⟨hgood, hOk⟩ := read_good hok
      have hre := evR_eq hok
      have HOK := Lib.hid hok
      have HRE := Lib.hid hre
      have hlen : (evP L).lw.length ≤ 5000 ∧ (evP L).kw.length ≤ 5000 := by
        have h1 := evLine_ge (evP L)
        rw [← hgood] at h1
        have := HL.out
        omega
      have EVT : Hid (∀ (W : World), EvR W (evP L) s → Calls Try.prog 8 #[evV (evP L) s] W fun e w' => e = .returned (.string (strB L)) ∧ Below W.heap.size W w') := Lib.hid (fun W h => by
        have := event_any (evP L) s W hOk (h.at (Nat.le_refl _)) (by omega)
        rw [← hgood] at this
        exact this)
      have CMP : Hid (∀ (t : EvS) (W : World), EvR W (evP L) s → EvR W (evP L) t → Calls Try.prog 14 #[evV (evP L) s, evV (evP L) t] W fun e w' => e = .returned (.bool true) ∧ Below W.heap.size W w') := Lib.hid (fun t W h1 h2 => by
        have := cmpE_any (evP L) (evP L) s t W h1 h2 ⟨by omega, by omega⟩
        rw [decide_eq_true rfl] at this
        exact this)
      have HS := Lib.hid hs
      have HB1 := Lib.hid hb1
      clear hok hgood hOk hre hlen hs hb1 RD
      generalize evP L = x at HS EVT CMP HRE ⊢
      obtain ⟨ca, iv, rs, st, er, vl, lw, kw⟩ := x
      obtain ⟨la, lb, lo, lc, ka, kb, ko, kc⟩ := s
      dsimp only [evV] at EVT CMP ⊢
      obtain ⟨w2, hw2⟩ : ∃ w2, w1.alloc (.cells #[.int .i64 ca, .int .i64 iv, .int .i64 rs, .int .i64 st, .int .i64 er, .int .u64 (vl : Int), .slice la lw.length lc, .slice ka kw.length kc] 29) = w2 := ⟨_, rfl⟩
      have hb2 : Below w1.heap.size w1 w2 := by rw [← hw2]; exact (Below.refl _ _).alloc (Nat.le_refl _) _
      have HE2 : Hid (w2.heap[w1.heap.size]? = some (.cells #[.int .i64 ca, .int .i64 iv, .int .i64 rs, .int .i64 st, .int .i64 er, .int .u64 (vl : Int), .slice la lw.length lc, .slice ka kw.length kc] 29 (0, 0))) := Lib.hid (by rw [← hw2]; exact heap_alloc_new _ _)
      have HB2 := Lib.hid hb2
      have HR2 := Lib.hid (HS.out.below hb2)
      clear hb2
      go_wp2_with fail
      try rw [hw2]
      clear hw2
      refine (RF.out w2).mono ?_
      rintro e w3 ⟨hb3, t, rfl, ht⟩
      rw [HRE.out] at ht ⊢
      rw [HOK.out, HJ.out]
      have hE3 := (hb3.block _ (lt_of_heap HE2.out)).trans HE2.out
      have hS3 := HR2.out.below hb3
      obtain ⟨xa, xb, xo, xc, ya, yb, yo, yc⟩ := t
      dsimp only [evV]
      obtain ⟨w4, hw4⟩ : ∃ w4, (w3.alloc (.cells #[.int .i64 ca, .int .i64 iv, .int .i64 rs, .int .i64 st, .int .i64 er, .int .u64 (vl : Int), .slice xa lw.length xc, .slice ya kw.length yc] 29)).alloc (.cells #[.string (strB L), .int .i64 (j : Int), .bool false] 39) = w4 := ⟨_, rfl⟩
      have s1 : (w3.alloc (.cells #[.int .i64 ca, .int .i64 iv, .int .i64 rs, .int .i64 st, .int .i64 er, .int .u64 (vl : Int), .slice xa lw.length xc, .slice ya kw.length yc] 29)).heap.size = w3.heap.size + 1 := by simp
      have hb4 : Below w3.heap.size w3 w4 := by rw [← hw4]; exact ((Below.refl _ _).alloc (Nat.le_refl _) _).alloc (by simp) _
      have HE4 := Lib.hid ((hb4.block _ (lt_of_heap hE3)).trans hE3)
      have HX4 : Hid (w4.heap[w3.heap.size]? = some (.cells #[.int .i64 ca, .int .i64 iv, .int .i64 rs, .int .i64 st, .int .i64 er, .int .u64 (vl : Int), .slice xa lw.length xc, .slice ya kw.length yc] 29 (0, 0))) := Lib.hid (by
        rw [← hw4]
        exact (Below.heap_alloc _ _ w3.heap.size (by omega)).trans (heap_alloc_new _ _))
      have HN4 : Hid (w4.heap[w3.heap.size + 1]? = some (.cells #[.string (strB L), .int .i64 (j : Int), .bool false] 39 (0, 0))) := Lib.hid (by
        rw [← hw4, ← s1]
        exact heap_alloc_new _ _)
      have HS4 := Lib.hid (hS3.below hb4)
      have HB4 : Hid (Below w.heap.size w w4) := Lib.hid (by
        have q1 := HB1.out.size
        have q2 := HB2.out.size
        have q3 := hb3.size
        exact ((HB1.out.trans (HB2.out.mono q1)).trans (hb3.mono (Nat.le_trans q1 q2))).trans (hb4.mono (Nat.le_trans q1 (Nat.le_trans q2 q3))))
      have HT4 := Lib.hid (ht.below hb4)
      have HW4 := Lib.hid hw4
      clear hb3 ht hE3 hS3 hb4 s1 hw4
      go_upto_region 5 with fail
      rw [HW4.out]
      clear HW4
      have a0 := cell_of_heap HE4.out (k := 0) rfl
      have a1 := cell_of_heap HE4.out (k := 1) rfl
      have a2 := cell_of_heap HE4.out (k := 2) rfl
      have a3 := cell_of_heap HE4.out (k := 3) rfl
      have a4 := cell_of_heap HE4.out (k := 4) rfl
      have a5 := cell_of_heap HE4.out (k := 5) rfl
      have a6 := cell_of_heap HE4.out (k := 6) rfl
      have a7 := cell_of_heap HE4.out (k := 7) rfl
      have b0 := cell_of_heap HX4.out (k := 0) rfl
      have b1 := cell_of_heap HX4.out (k := 1) rfl
      have b2 := cell_of_heap HX4.out (k := 2) rfl
      have b3 := cell_of_heap HX4.out (k := 3) rfl
      have b4 := cell_of_heap HX4.out (k := 4) rfl
      have b5 := cell_of_heap HX4.out (k := 5) rfl
      have b6 := cell_of_heap HX4.out (k := 6) rfl
      have b7 := cell_of_heap HX4.out (k := 7) rfl
      have n0 := cell_of_heap HN4.out (k := 0) rfl
      have n1 := cell_of_heap HN4.out (k := 1) rfl
      have n2 := cell_of_heap HN4.out (k := 2) rfl
      go_wp2_with (first
        | (go_at_call 14; (with_reducible refine (CMP.out ⟨xa, xb, xo, xc, ya, yb, yo, yc⟩ _ HS4.out HT4.out).mono ?_); rintro e w5 ⟨rfl, hb5⟩; (have HE5 := Lib.hid ((hb5.block _ (lt_of_heap HE4.out)).trans HE4.out)); (have HS5 := Lib.hid (HS4.out.below hb5)); (have c0 := cell_of_heap HE5.out (k := 0) rfl); (have c1 := cell_of_heap HE5.out (k := 1) rfl); (have c2 := cell_of_heap HE5.out (k := 2) rfl); (have c3 := cell_of_heap HE5.out (k := 3) rfl); (have c4 := cell_of_heap HE5.out (k := 4) rfl); (have c5 := cell_of_heap HE5.out (k := 5) rfl); (have c6 := cell_of_heap HE5.out (k := 6) rfl); (have c7 := cell_of_heap HE5.out (k := 7) rfl); (have HB5 := Lib.hid (HB4.out.trans (hb5.mono HB4.out.size))); clear hb5)
        | (go_at_call 8; (with_reducible refine (EVT.out _ HS5.out).mono ?_); rintro e w6 ⟨rfl, hb6⟩; (have HB6 := Lib.hid (HB5.out.trans (hb6.mono HB5.out.size))); clear hb6)
        | (go_at_call 7; (with_reducible refine (HT.out _).mono ?_); rintro e w9 ⟨rfl, hb9⟩; (have HB9 := Lib.hid (HB6.out.trans (hb9.mono HB6.out.size))); clear hb9))
      go_ret
      exact ⟨rfl, HB9.out⟩
    · have HOK := Lib.hid hok
      have CMP : Hid (∀ (W : World), Calls Try.prog 14 #[.agg #[.int .i64 0, .int .i64 0, .int .i64 0, .int .i64 0, .int .i64 0, .int .u64 0, .slice none 0 0, .slice none 0 0], .agg #[.int .i64 0, .int .i64 0, .int .i64 0, .int .i64 0, .int .i64 0, .int .u64 0, .slice none 0 0, .slice none 0 0]] W fun e w' => e = .returned (.bool true) ∧ Below W.heap.size W w') := Lib.hid (fun W => by
        have := cmpE_any zX zX zS zS W (zR W) (zR W) (by decide)
        rw [decide_eq_true rfl] at this
        exact this)
      unfold zeroV
      rw [HJ.out]
      have HB1 := Lib.hid hb1
      clear hok hb1 RD
      obtain ⟨w2, hw2⟩ : ∃ w2, w1.alloc (.cells #[.int .i64 0, .int .i64 0, .int .i64 0, .int .i64 0, .int .i64 0, .int .u64 0, .slice none 0 0, .slice none 0 0] 29) = w2 := ⟨_, rfl⟩
      have HE2 : Hid (w2.heap[w1.heap.size]? = some (.cells #[.int .i64 0, .int .i64 0, .int .i64 0, .int .i64 0, .int .i64 0, .int .u64 0, .slice none 0 0, .slice none 0 0] 29 (0, 0))) := Lib.hid (by rw [← hw2]; exact heap_alloc_new _ _)
      have HB2 : Hid (Below w.heap.size w w2) := Lib.hid (by rw [← hw2]; exact HB1.out.alloc HB1.out.size _)
      have HW2 := Lib.hid hw2
      clear hw2
      have a0 : (w1.alloc (.cells #[.int .i64 0, .int .i64 0, .int .i64 0, .int .i64 0, .int .i64 0, .int .u64 0, .slice none 0 0, .slice none 0 0] 29)).cell? ⟨w1.heap.size, 0, none⟩ = some (.int .i64 0) := by rw [HW2.out]; exact cell_of_heap HE2.out rfl
      have a1 : (w1.alloc (.cells #[.int .i64 0, .int .i64 0, .int .i64 0, .int .i64 0, .int .i64 0, .int .u64 0, .slice none 0 0, .slice none 0 0] 29)).cell? ⟨w1.heap.size, 1, none⟩ = some (.int .i64 0) := by rw [HW2.out]; exact cell_of_heap HE2.out rfl
      have a2 : (w1.alloc (.cells #[.int .i64 0, .int .i64 0, .int .i64 0, .int .i64 0, .int .i64 0, .int .u64 0, .slice none 0 0, .slice none 0 0] 29)).cell? ⟨w1.heap.size, 2, none⟩ = some (.int .i64 0) := by rw [HW2.out]; exact cell_of_heap HE2.out rfl
      have a3 : (w1.alloc (.cells #[.int .i64 0, .int .i64 0, .int .i64 0, .int .i64 0, .int .i64 0, .int .u64 0, .slice none 0 0, .slice none 0 0] 29)).cell? ⟨w1.heap.size, 3, none⟩ = some (.int .i64 0) := by rw [HW2.out]; exact cell_of_heap HE2.out rfl
      have a4 : (w1.alloc (.cells #[.int .i64 0, .int .i64 0, .int .i64 0, .int .i64 0, .int .i64 0, .int .u64 0, .slice none 0 0, .slice none 0 0] 29)).cell? ⟨w1.heap.size, 4, none⟩ = some (.int .i64 0) := by rw [HW2.out]; exact cell_of_heap HE2.out rfl
      have a5 : (w1.alloc (.cells #[.int .i64 0, .int .i64 0, .int .i64 0, .int .i64 0, .int .i64 0, .int .u64 0, .slice none 0 0, .slice none 0 0] 29)).cell? ⟨w1.heap.size, 5, none⟩ = some (.int .u64 0) := by rw [HW2.out]; exact cell_of_heap HE2.out rfl
      have a6 : (w1.alloc (.cells #[.int .i64 0, .int .i64 0, .int .i64 0, .int .i64 0, .int .i64 0, .int .u64 0, .slice none 0 0, .slice none 0 0] 29)).cell? ⟨w1.heap.size, 6, none⟩ = some (.slice none 0 0) := by rw [HW2.out]; exact cell_of_heap HE2.out rfl
      have a7 : (w1.alloc (.cells #[.int .i64 0, .int .i64 0, .int .i64 0, .int .i64 0, .int .i64 0, .int .u64 0, .slice none 0 0, .slice none 0 0] 29)).cell? ⟨w1.heap.size, 7, none⟩ = some (.slice none 0 0) := by rw [HW2.out]; exact cell_of_heap HE2.out rfl
      go_upto_region 4 with fail
      go_wp2_with fail
      try rw [HW2.out]
      refine (RF.out w2).mono ?_
      rintro e w3 ⟨hb3, t, rfl, ht⟩
      rw [HOK.out, HJ.out]
      have hE3 := (hb3.block _ (lt_of_heap HE2.out)).trans HE2.out
      obtain ⟨xa, xb, xo, xc, ya, yb, yo, yc⟩ := t
      generalize evR L = y at ht ⊢
      obtain ⟨ca', iv', rs', st', er', vl', lw', kw'⟩ := y
      dsimp only [evV]
      obtain ⟨w4, hw4⟩ : ∃ w4, (w3.alloc (.cells #[.int .i64 ca', .int .i64 iv', .int .i64 rs', .int .i64 st', .int .i64 er', .int .u64 (vl' : Int), .slice xa lw'.length xc, .slice ya kw'.length yc] 29)).alloc (.cells #[.string (strB L), .int .i64 (j : Int), .bool true] 39) = w4 := ⟨_, rfl⟩
      have s1 : (w3.alloc (.cells #[.int .i64 ca', .int .i64 iv', .int .i64 rs', .int .i64 st', .int .i64 er', .int .u64 (vl' : Int), .slice xa lw'.length xc, .slice ya kw'.length yc] 29)).heap.size = w3.heap.size + 1 := by simp
      have hb4 : Below w3.heap.size w3 w4 := by rw [← hw4]; exact ((Below.refl _ _).alloc (Nat.le_refl _) _).alloc (by simp) _
      have HE4 := Lib.hid ((hb4.block _ (lt_of_heap hE3)).trans hE3)
      have HN4 : Hid (w4.heap[w3.heap.size + 1]? = some (.cells #[.string (strB L), .int .i64 (j : Int), .bool true] 39 (0, 0))) := Lib.hid (by
        rw [← hw4, ← s1]
        exact heap_alloc_new _ _)
      have HB4 := Lib.hid ((HB2.out.trans (hb3.mono HB2.out.size)).trans (hb4.mono (Nat.le_trans HB2.out.size hb3.size)))
      clear hb3 ht hE3 hb4 s1 a0 a1 a2 a3 a4 a5 a6 a7
      go_upto_region 5 with fail
      try rw [hw4]
      clear hw4
      have b0 := cell_of_heap HE4.out (k := 0) rfl
      have b1 := cell_of_heap HE4.out (k := 1) rfl
      have b2 := cell_of_heap HE4.out (k := 2) rfl
      have b3 := cell_of_heap HE4.out (k := 3) rfl
      have b4 := cell_of_heap HE4.out (k := 4) rfl
      have b5 := cell_of_heap HE4.out (k := 5) rfl
      have b6 := cell_of_heap HE4.out (k := 6) rfl
      have b7 := cell_of_heap HE4.out (k := 7) rfl
      have n0 := cell_of_heap HN4.out (k := 0) rfl
      have n1 := cell_of_heap HN4.out (k := 1) rfl
      have n2 := cell_of_heap HN4.out (k := 2) rfl
      go_wp2_with (first
        | (go_at_call 14; (with_reducible refine (CMP.out _).mono ?_); rintro e w5 ⟨rfl, hb5⟩; (have HN5 := Lib.hid ((hb5.block _ (lt_of_heap HN4.out)).trans HN4.out)); (have c0 := cell_of_heap HN5.out (k := 0) rfl); (have c1 := cell_of_heap HN5.out (k := 1) rfl); (have c2 := cell_of_heap HN5.out (k := 2) rfl); (have HB5 := Lib.hid (HB4.out.trans (hb5.mono HB4.out.size))); clear hb5)
        | (go_at_call 7; (with_reducible refine (HT.out _).mono ?_); rintro e w9 ⟨rfl, hb9⟩; (have HB9 := Lib.hid (HB5.out.trans (hb9.mono HB5.out.size))); clear hb9))
      go_ret
      exact ⟨rfl, HB9.out⟩
  · have dl : 5000 < (strB L).size := by rw [strB_size]; omega
    clear g1
    go_enter Try.func4, Try.ntmps4
    go_wp2_with fail
    refine (HT.out _).mono ?_
    rintro e w2 ⟨rfl, hb⟩
    have HB2 := Lib.hid hb
    clear hb
    go_wp2_with fail
    go_ret
    exact ⟨rfl, HB2.out⟩
end Go.Proofs.Ytgmgpbplgiicoaa
