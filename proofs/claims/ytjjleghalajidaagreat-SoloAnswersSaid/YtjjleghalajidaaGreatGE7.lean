/- SoloAnswers: the law. | SoloAnswers: the law, walked. | Opening: a scene, by value: a number, objects, calls, picks. -/
import Derived.Test.YtjjleghalajidaaGreatEP
import Derived.Test.YtjjleghalajidaaGreatGB2
import Derived.Test.YtjjleghalajidaaGreatGK
namespace Go.Proofs.YtjjleghalajidaaGreat
section
open Go.ChangeShapes Go.WideShapes Go.ChangeAt Go.RowKit Go.Maps
set_option linter.unusedVariables false
set_option linter.unusedSimpArgs false
set_option maxRecDepth 100000

theorem AnsW.at1 {w : World} {C : Nat} {v : Value} {az : List MdR} {lst : List (MdR × Value)} (h : AnsW w C v az lst) {g n cap : Nat} (hv : v = .slice (some ⟨g, 0, none⟩) n cap) {i : Nat} {a : MdR} (ha : az[i]? = some a) :
    ∃ x, w.cell? ⟨g, i * 3, none⟩ = some (.int .i64 (a.err : Int)) ∧ w.cell? ⟨g, i * 3 + 1, none⟩ = some (.int .u64 (a.val : Int)) ∧ w.cell? ⟨g, i * 3 + 2, none⟩ = some x ∧ ArgB w C x a.ls := by
  rw [← h.eq, List.getElem?_map] at ha
  obtain ⟨p, hp, rfl⟩ := Option.map_eq_some_iff.1 ha
  obtain ⟨e0, e1, e2⟩ := ansVs_get hp
  have hrow := h.row
  have hn : n = az.length := by
    obtain ⟨_, ⟨h0, _⟩ | ⟨g', cap', cur, h0, _⟩⟩ := hrow
    · rw [hv] at h0; cases h0
    · rw [hv] at h0; cases h0; rfl
  rw [hv, hn] at hrow
  have hil : i < az.length := by
    have := (List.getElem?_eq_some_iff.1 hp).1
    rw [← h.eq, List.length_map]; exact this
  refine ⟨p.2, ?_, ?_, ?_, h.ls p (List.mem_of_getElem? hp)⟩
  · rw [World.ownsRow.cellAt hrow _ (by omega)]; exact e0
  · rw [World.ownsRow.cellAt hrow _ (by omega)]; exact e1
  · rw [World.ownsRow.cellAt hrow _ (by omega)]; exact e2
theorem AnsW.form {w : World} {C : Nat} {v : Value} {az : List MdR} {lst : List (MdR × Value)} (h : AnsW w C v az lst) : ∃ ao g cap, v = .slice ao az.length cap ∧ (0 < az.length → ao = some ⟨g, 0, none⟩) ∧ (0 < az.length → g < w.heap.size) := by
  obtain ⟨ao, g, cap, rfl, o1, o2, o3, o4⟩ := owns_open h.row
  exact ⟨ao, g, cap, rfl, o1, o3⟩

set_option maxHeartbeats 1000000 in
theorem panswer_same (e vl : Int) (v1 v2 : Value) (l : List Nat) (w : World) (hl : l.length ≤ 4294967296) (h1 : ArgW w v1 l) (h2 : ArgW w v2 l) :
    Calls Tryz.prog 19 #[.agg #[.int .i64 e, .int .u64 vl, v1], .agg #[.int .i64 e, .int .u64 vl, v2]] w fun e w' => e = .returned (.bool true) ∧ Below w.heap.size w w' := by
  have HS : Hid (∀ W, Below w.heap.size w W → Calls Tryz.prog 20 #[v1, v2] W fun e w' => e = .returned (.bool true) ∧ ∃ m, w' = W.drewN m) := Lib.hid (fun W hb => sameW v1 v2 l W hl (h1.below hb) (h2.below hb))
  obtain ⟨a1, c1, rfl⟩ := h1.isSlice
  obtain ⟨a2, c2, rfl⟩ := h2.isSlice
  have HB : Hid (Below w.heap.size w ((w.alloc (ansC e vl (.slice a1 l.length c1))).alloc (ansC e vl (.slice a2 l.length c2)))) := Lib.hid (((Below.refl _ _).alloc (Nat.le_refl _) _).alloc (by simp) _)
  clear h1 h2
  go_enter Tryz.func19, Tryz.ntmps19
  go_wp2_with (go_at_call 20; refine (HS.out _ HB.out).mono ?_; rintro e w5 ⟨rfl, m, rfl⟩)
  go_ret
  exact ⟨rfl, below_drewN HB.out _⟩

/-- too many calls for the statement -/
def manyB (a b : Nat) : Bool := decide (20 < a) || (decide (60 < b ∧ b ≤ 1000) || decide (1100 < b))
set_option maxHeartbeats 1000000 in
theorem many_any (cao : Option Addr) (nb cc : Nat) (w : World) :
    Calls Tryz.prog 43 #[.slice cao nb cc, .slice none 0 0] w fun e w' => e = .returned (.bool (decide (60 < nb ∧ nb ≤ 1000) || decide (1100 < nb))) ∧ w = w' := by
  by_cases h1 : 60 < nb
  · have d1 : decide ((60 : Int) < (nb : Int)) = true := decide_eq_true (by omega)
    by_cases h2 : nb ≤ 1000
    · have d2 : decide ((nb : Int) ≤ (1000 : Int)) = true := decide_eq_true (by omega)
      have hd : Hid ((decide (60 < nb ∧ nb ≤ 1000) || decide (1100 < nb)) = true) := Lib.hid (by rw [decide_eq_true ⟨h1, h2⟩]; rfl)
      rw [hd.out]
      go_enter Tryz.func43, Tryz.ntmps43
      go_wp2
      go_ret
      exact ⟨rfl, rfl⟩
    · have d2 : decide ((nb : Int) ≤ (1000 : Int)) = false := decide_eq_false (by omega)
      by_cases h3 : 1100 < nb
      · have d3 : decide ((1100 : Int) < (nb : Int)) = true := decide_eq_true (by omega)
        have hd : Hid ((decide (60 < nb ∧ nb ≤ 1000) || decide (1100 < nb)) = true) := Lib.hid (by rw [decide_eq_true h3, Bool.or_true])
        rw [hd.out]
        go_enter Tryz.func43, Tryz.ntmps43
        go_wp2
        go_ret
        exact ⟨rfl, rfl⟩
      · have d3 : decide ((1100 : Int) < (nb : Int)) = false := decide_eq_false (by omega)
        have hd : Hid ((decide (60 < nb ∧ nb ≤ 1000) || decide (1100 < nb)) = false) := Lib.hid (by rw [decide_eq_false h3, decide_eq_false (fun h => h2 h.2)]; rfl)
        rw [hd.out]
        go_enter Tryz.func43, Tryz.ntmps43
        go_wp2
        go_ret
        exact ⟨rfl, rfl⟩
  · have d1 : decide ((60 : Int) < (nb : Int)) = false := decide_eq_false (by omega)
    have d3 : decide ((1100 : Int) < (nb : Int)) = false := decide_eq_false (by omega)
    have hd : Hid ((decide (60 < nb ∧ nb ≤ 1000) || decide (1100 < nb)) = false) := Lib.hid (by rw [decide_eq_false (fun h => h1 h.1), decide_eq_false (by omega)]; rfl)
    rw [hd.out]
    go_enter Tryz.func43, Tryz.ntmps43
    go_wp2
    go_ret
    exact ⟨rfl, rfl⟩
abbrev sceneV (n : Int) (s c p : Value) : Value := .agg #[.int .i64 n, s, c, p]
abbrev sceneO (n : Int) (s c p : Value) : Obj := .cells #[.int .i64 n, s, c, p] 26
set_option maxHeartbeats 1000000 in
theorem large_any (n : Int) (sao cao : Option Addr) (na sc nb cc : Nat) (w : World) :
    Calls Tryz.prog 13 #[sceneV n (.slice sao na sc) (.slice cao nb cc) (.slice none 0 0)] w fun e w' => e = .returned (.bool (manyB na nb)) ∧ Below w.heap.size w w' := by
  have HM := Lib.hid (fun w => many_any cao nb cc w)
  have HB : Hid (Below w.heap.size w (w.alloc (sceneO n (.slice sao na sc) (.slice cao nb cc) (.slice none 0 0)))) := Lib.hid ((Below.refl _ _).alloc (Nat.le_refl _) _)
  unfold manyB
  obtain ⟨bb, hbb⟩ : ∃ bb, (decide (60 < nb ∧ nb ≤ 1000) || decide (1100 < nb)) = bb := ⟨_, rfl⟩
  rw [hbb] at HM ⊢
  clear hbb
  by_cases h : 20 < na
  · have d : decide ((20 : Int) < (na : Int)) = true := decide_eq_true (by omega)
    have hd : Hid ((decide (20 < na) || bb) = true) := Lib.hid (by rw [decide_eq_true h, Bool.true_or])
    rw [hd.out]
    go_enter Tryz.func13, Tryz.ntmps13
    go_wp2_with fail
    go_ret
    exact ⟨rfl, HB.out⟩
  · have d : decide ((20 : Int) < (na : Int)) = false := decide_eq_false (by omega)
    have hd : Hid ((decide (20 < na) || bb) = bb) := Lib.hid (by rw [decide_eq_false h, Bool.false_or])
    rw [hd.out]
    go_enter Tryz.func13, Tryz.ntmps13
    go_wp2_with (go_at_call 43; refine (HM.out _).mono ?_; rintro e w5 ⟨rfl, rfl⟩)
    go_ret
    exact ⟨rfl, HB.out⟩

/- the example -/
def plL : List Tb.SpecL := [⟨8, 1, 1⟩]
def plC : List CallM := [⟨0, 0, 0, 5, 0, 0⟩, ⟨0, 0, 0, 6, 0, 0⟩, ⟨0, 0, 1, 0, 0, 0⟩, ⟨0, 0, 0, 7, 0, 0⟩]
abbrev plSO : Obj := .cells #[.int .i64 8, .int .i64 1, .int .i64 1] 63
abbrev plCO : Obj := .cells #[.int .i64 0, .int .i64 0, .int .i64 0, .int .u64 5, .int .u64 0, .int .u64 0, .int .i64 0, .int .i64 0, .int .i64 0, .int .u64 6, .int .u64 0, .int .u64 0, .int .i64 0, .int .i64 0, .int .i64 1, .int .u64 0, .int .u64 0, .int .u64 0, .int .i64 0, .int .i64 0, .int .i64 0, .int .u64 7, .int .u64 0, .int .u64 0] 65
theorem pl_all : (soAll 1 plL plC).2 = [⟨[], 0, 0, []⟩, ⟨[], 6, 0, []⟩, ⟨[], 0, 5, []⟩, ⟨[], 6, 0, []⟩] := by kernel_rfl
theorem pl_one : (soAll 1 plL (plC.take 1)).1.ms.getD 0 [] = [0, 5] := by decide +kernel
theorem pl_ok : soErr 1 plL plC = 0 ∧ soErr 1 plL (plC.take 1) = 0 := by decide +kernel
theorem pl_args (w : World) (bs bc : Nat) (h1 : w.heap[bs]? = some plSO) (h2 : w.heap[bc]? = some plCO) (cs : List CallM) (hcs : cs = plC ∨ cs = plC.take 1) : SoArgs w (some ⟨bs, 0, none⟩) (some ⟨bc, 0, none⟩) bs 0 bc 0 plL cs := by
  have hall : CallsM w bc 0 plC := by
    intro i x hx
    match i, hx with
    | 0, hx => cases hx; exact ⟨Tb.cell_of_blkT h2 rfl, Tb.cell_of_blkT h2 rfl, Tb.cell_of_blkT h2 rfl, Tb.cell_of_blkT h2 rfl, Tb.cell_of_blkT h2 rfl, Tb.cell_of_blkT h2 rfl⟩
    | 1, hx => cases hx; exact ⟨Tb.cell_of_blkT h2 rfl, Tb.cell_of_blkT h2 rfl, Tb.cell_of_blkT h2 rfl, Tb.cell_of_blkT h2 rfl, Tb.cell_of_blkT h2 rfl, Tb.cell_of_blkT h2 rfl⟩
    | 2, hx => cases hx; exact ⟨Tb.cell_of_blkT h2 rfl, Tb.cell_of_blkT h2 rfl, Tb.cell_of_blkT h2 rfl, Tb.cell_of_blkT h2 rfl, Tb.cell_of_blkT h2 rfl, Tb.cell_of_blkT h2 rfl⟩
    | 3, hx => cases hx; exact ⟨Tb.cell_of_blkT h2 rfl, Tb.cell_of_blkT h2 rfl, Tb.cell_of_blkT h2 rfl, Tb.cell_of_blkT h2 rfl, Tb.cell_of_blkT h2 rfl, Tb.cell_of_blkT h2 rfl⟩
  have hok : ∀ x ∈ plC, x.Ok := fun x hx => by
    simp only [plC, List.mem_cons, List.not_mem_nil, or_false] at hx
    rcases hx with rfl | rfl | rfl | rfl <;> exact ⟨by decide, by decide, by decide⟩
  refine ⟨fun _ => rfl, fun i x hx => ?_, fun _ => rfl, ?_, ?_⟩
  · match i, hx with
    | 0, hx => cases hx; exact ⟨Tb.cell_of_blkT h1 rfl, Tb.cell_of_blkT h1 rfl, Tb.cell_of_blkT h1 rfl⟩
  · rcases hcs with rfl | rfl
    · exact hall
    · intro i x hx
      refine hall i x ?_
      rw [List.getElem?_take] at hx
      split at hx
      · exact hx
      · cases hx
  · rcases hcs with rfl | rfl
    · exact hok
    · exact fun x hx => hok x (List.mem_of_mem_take hx)
set_option maxHeartbeats 4000000 in
theorem place_any (w : World) : Calls Tryz.prog 14 #[] w fun e w' => e = .returned (.bool true) ∧ Below w.heap.size w w' := by
  obtain ⟨w2, hw2⟩ : ∃ w2, w2 = (w.alloc plSO).alloc plCO := ⟨_, rfl⟩
  have hb1 : w2.heap[w.heap.size]? = some plSO := by rw [hw2]; exact (Below.heap_alloc _ _ _ (by simp)).trans (heap_alloc_new _ _)
  have hb2 : w2.heap[w.heap.size + 1]? = some plCO := by
    rw [hw2]
    have := heap_alloc_new (w.alloc plSO) plCO
    rw [World.size_alloc] at this; exact this
  have HB2 : Hid (Below w.heap.size w w2) := Lib.hid (by rw [hw2]; exact ((Below.refl _ _).alloc (Nat.le_refl _) _).alloc (by simp) _)
  have HA4 := Lib.hid (pl_args w2 _ _ hb1 hb2 plC (.inl rfl))
  have HA1 := Lib.hid (pl_args w2 _ _ hb1 hb2 (plC.take 1) (.inr rfl))
  have H1 : Hid (Calls Tryz.prog 15 #[.int .i64 1, .slice (some ⟨w.heap.size, 0, none⟩) 1 1, .slice (some ⟨w.heap.size + 1, 0, none⟩) 4 4] w2 (AnsP 1 plL plC w2)) := Lib.hid (answers_ok 1 _ _ _ 0 1 _ 0 4 plL plC w2 HA4.out pl_ok.1)
  have H2 : Hid (∀ W, Below w2.heap.size w2 W → Calls Tryz.prog 16 #[.int .i64 1, .slice (some ⟨w.heap.size, 0, none⟩) 1 1, .slice (some ⟨w.heap.size + 1, 0, none⟩) 1 4, .int .i64 0] W (LastP 1 plL (plC.take 1) 0 W)) := Lib.hid (fun W hb => last_ok 1 _ _ _ 0 1 _ 0 4 plL (plC.take 1) 0 W (HA1.out.below hb) pl_ok.2 (by decide))
  clear hb1 hb2 HA4 HA1
  rw [hw2] at H1 H2 HB2
  clear hw2
  go_enter Tryz.func14, Tryz.ntmps14
  go_wp2_with (first
    | (go_at_call 15; refine H1.out.mono ?_; rintro e w3 ⟨v3, lst, C, rfl, hA, hb3⟩; rw [pl_all] at hA; (obtain ⟨ao, g, cap, rfl, h0, _⟩ := hA.form); (obtain rfl := h0 (by decide)); (obtain ⟨x0, p00, p01, _, _⟩ := hA.at1 rfl (i := 0) rfl); (obtain ⟨x1, p10, p11, _, _⟩ := hA.at1 rfl (i := 1) rfl); (obtain ⟨x2, p20, p21, _, _⟩ := hA.at1 rfl (i := 2) rfl); (obtain ⟨x3, p30, p31, _, _⟩ := hA.at1 rfl (i := 3) rfl); (have HB3 := Lib.hid hb3); (have HL := Lib.hid (H2.out w3 hb3)); simp only [Nat.zero_mul, Nat.reduceMul, Nat.reduceAdd] at p00 p01 p10 p11 p20 p21 p30 p31; clear hA h0 hb3)
    | (go_at_call 16; refine HL.out.mono ?_; rintro e w4 ⟨u4, rfl, hA4, hb4⟩; rw [pl_one] at hA4; (obtain ⟨uao, ucap, rfl⟩ := hA4.isSlice); (have q0 := (hb4.cell (World.block_lt_of_cell? w3 _ p00)).trans p00); (have q1 := (hb4.cell (World.block_lt_of_cell? w3 _ p10)).trans p10); (have q2 := (hb4.cell (World.block_lt_of_cell? w3 _ p21)).trans p21); (have q3 := (hb4.cell (World.block_lt_of_cell? w3 _ p30)).trans p30); (have HB4 := Lib.hid hb4); (have HA5 : Hid (ArgW (w4.alloc (.cells #[.int .u64 0, .int .u64 5] 55)) (.slice uao 2 ucap) [0, 5]) := Lib.hid (hA4.alloc _)); (have HB5 : Hid (ArgW (w4.alloc (.cells #[.int .u64 0, .int .u64 5] 55)) (.slice (some ⟨w4.heap.size, 0, none⟩) 2 2) [0, 5]) := Lib.hid (arg_new w4 [0, 5] _ rfl 2 rfl)); clear hA4 hb4 p00 p01 p10 p11 p20 p21 p30 p31)
    | (go_at_call 20; refine (sameW _ _ [0, 5] _ (by decide) HA5.out HB5.out).mono ?_; rintro e w6 ⟨rfl, m6, rfl⟩))
  go_ret
  have hB3 := HB2.out.trans (HB3.out.mono HB2.out.size)
  have hB4 := hB3.trans (HB4.out.mono hB3.size)
  exact ⟨rfl, below_drewN (hB4.alloc hB4.size _) _⟩
end
section
open Go.ChangeShapes Go.WideShapes Go.ChangeAt Go.RowKit Go.Maps
set_option linter.unusedVariables false
set_option linter.unusedSimpArgs false
set_option maxRecDepth 100000

/-- the scene's box stays -/
structure ScAt (w : World) (b : Nat) (n : Int) (s c : Value) : Prop where
  blk : w.heap[b]? = some (sceneO n s c (.slice none 0 0))
theorem ScAt.below {w w' : World} {b : Nat} {n : Int} {s c : Value} (h : ScAt w b n s c) (hb : Below w.heap.size w w') : ScAt w' b n s c := ⟨(hb.block _ (blk_lt h.blk)).trans h.blk⟩
theorem ScAt.cells {w : World} {b : Nat} {n : Int} {s c : Value} (h : ScAt w b n s c) : w.cell? ⟨b, 0, none⟩ = some (.int .i64 n) ∧ w.cell? ⟨b, 1, none⟩ = some s ∧ w.cell? ⟨b, 2, none⟩ = some c ∧ w.cell? ⟨b, 3, none⟩ = some (.slice none 0 0) :=
  ⟨Tb.cell_of_blkT h.blk rfl, Tb.cell_of_blkT h.blk rfl, Tb.cell_of_blkT h.blk rfl, Tb.cell_of_blkT h.blk rfl⟩

set_option maxHeartbeats 4000000 in
theorem solo_big (n ob : Int) (sao cao pao : Option Addr) (sb so sc cb co cc pn pc : Nat) (l : List Tb.SpecL) (cs : List CallM) (w : World) (hbig : manyB l.length cs.length = true) :
    Calls Tryz.prog 5 #[sceneV n (.slice sao l.length sc) (.slice cao cs.length cc) (.slice pao pn pc), .int .i64 ob] w fun e w' => e = .returned (.bool true) ∧ Below w.heap.size w w' := by
  have HL : Hid (∀ W, Calls Tryz.prog 13 #[sceneV n (.slice sao l.length sc) (.slice cao cs.length cc) (.slice none 0 0)] W fun e w' => e = .returned (.bool true) ∧ Below W.heap.size W w') := Lib.hid (fun W => by have := large_any n sao cao l.length sc cs.length cc W; rw [hbig] at this; exact this)
  have HP := Lib.hid place_any
  have HSC : Hid (ScAt (w.alloc (sceneO n (.slice sao l.length sc) (.slice cao cs.length cc) (.slice none 0 0))) w.heap.size n (.slice sao l.length sc) (.slice cao cs.length cc)) := Lib.hid ⟨heap_alloc_new _ _⟩
  have HB0 : Hid (Below w.heap.size w (w.alloc (sceneO n (.slice sao l.length sc) (.slice cao cs.length cc) (.slice none 0 0)))) := Lib.hid ((Below.refl _ _).alloc (Nat.le_refl _) _)
  clear hbig
  unfold sceneV at *
  go_enter Tryz.func5, Tryz.ntmps5
  go_upto_region 2 with fail
  generalize hw0 : w.alloc (.cells #[.int .i64 n, .slice sao l.length sc, .slice cao cs.length cc, .slice none 0 0] 26) = w0 at *
  clear hw0
  obtain ⟨b0, b1, b2, b3⟩ := HSC.out.cells
  go_wp2_with (first
    | (go_at_call 13; refine (HL.out _).mono ?_; rintro e w1 ⟨rfl, hb1⟩; (have HB1 := Lib.hid (HB0.out.trans (hb1.mono HB0.out.size))); clear hb1)
    | (go_at_call 14; refine (HP.out _).mono ?_; rintro e w2 ⟨rfl, hb2⟩; (have HB2 := Lib.hid (HB1.out.trans (hb2.mono HB1.out.size))); clear hb2))
  go_ret
  exact ⟨rfl, HB2.out⟩

set_option maxHeartbeats 4000000 in
theorem solo_bad (n ob : Int) (sao cao pao : Option Addr) (sb so sc cb co cc pn pc : Nat) (l : List Tb.SpecL) (cs : List CallM) (w : World) (h : SoArgs w sao cao sb so cb co l cs) (hbig : manyB l.length cs.length = false) (hl : l.length ≤ 4294967296) (hbad : soErr n l cs ≠ 0) :
    Calls Tryz.prog 5 #[sceneV n (.slice sao l.length sc) (.slice cao cs.length cc) (.slice pao pn pc), .int .i64 ob] w fun e w' => e = .returned (.bool true) ∧ Below w.heap.size w w' := by
  have HL : Hid (∀ W, Calls Tryz.prog 13 #[sceneV n (.slice sao l.length sc) (.slice cao cs.length cc) (.slice none 0 0)] W fun e w' => e = .returned (.bool false) ∧ Below W.heap.size W w') := Lib.hid (fun W => by have := large_any n sao cao l.length sc cs.length cc W; rw [hbig] at this; exact this)
  have HP := Lib.hid place_any
  have HSC : Hid (ScAt (w.alloc (sceneO n (.slice sao l.length sc) (.slice cao cs.length cc) (.slice none 0 0))) w.heap.size n (.slice sao l.length sc) (.slice cao cs.length cc)) := Lib.hid ⟨heap_alloc_new _ _⟩
  have HB0 : Hid (Below w.heap.size w (w.alloc (sceneO n (.slice sao l.length sc) (.slice cao cs.length cc) (.slice none 0 0)))) := Lib.hid ((Below.refl _ _).alloc (Nat.le_refl _) _)
  have HA : Hid (∀ W, Below w.heap.size w W → SoArgs W sao cao sb so cb co l cs) := Lib.hid (fun W hb => h.below hb)
  obtain ⟨er, her⟩ : ∃ er, soErr n l cs = er := ⟨_, rfl⟩
  have H1 : Hid (∀ W, Below w.heap.size w W → Calls Tryz.prog 15 #[.int .i64 n, .slice sao l.length sc, .slice cao cs.length cc] W fun e w' => e = .returned (.tuple #[.slice none 0 0, .int .i64 er]) ∧ Below W.heap.size W w') := Lib.hid (fun W hb => by rw [← her]; exact answers_bad n sao cao sb so sc cb co cc l cs W (h.below hb) hl hbad)
  have H2 : Hid (∀ W, Below w.heap.size w W → Calls Tryz.prog 16 #[.int .i64 n, .slice sao l.length sc, .slice cao cs.length cc, .int .i64 ob] W fun e w' => e = .returned (.tuple #[.slice none 0 0, .int .i64 er]) ∧ Below W.heap.size W w') := Lib.hid (fun W hb => by rw [← her]; exact last_bad n sao cao sb so sc cb co cc l cs ob W (h.below hb) hl hbad)
  have H3 : Hid (∀ W, Below w.heap.size w W → Calls Tryz.prog 17 #[.int .i64 n, .slice sao l.length sc, .slice cao cs.length cc] W fun e w' => e = .returned (.int .i64 er) ∧ Below W.heap.size W w') := Lib.hid (fun W hb => by rw [← her]; exact rwrong_any n sao cao sb so sc cb co cc l cs W (h.below hb))
  rw [her] at hbad
  clear hbig h her hl
  unfold sceneV at *
  go_enter Tryz.func5, Tryz.ntmps5
  go_upto_region 2 with fail
  generalize hw0 : w.alloc (.cells #[.int .i64 n, .slice sao l.length sc, .slice cao cs.length cc, .slice none 0 0] 26) = w0 at *
  clear hw0
  obtain ⟨b0, b1, b2, b3⟩ := HSC.out.cells
  go_wp2_with (first
    | (go_at_call 13; refine (HL.out _).mono ?_; rintro e w1 ⟨rfl, hb1⟩; (have HB1 := Lib.hid (HB0.out.trans (hb1.mono HB0.out.size))); (have HSC1 := Lib.hid (HSC.out.below hb1)); clear b0 b1 b2 b3 hb1; (obtain ⟨b0, b1, b2, b3⟩ := HSC1.out.cells))
    | (go_at_call 15; refine (H1.out _ HB1.out).mono ?_; rintro e w2 ⟨rfl, hb2⟩; (have HB2 := Lib.hid (HB1.out.trans (hb2.mono HB1.out.size))); (have HSC2 := Lib.hid (HSC1.out.below hb2)); clear b0 b1 b2 b3 hb2; (obtain ⟨b0, b1, b2, b3⟩ := HSC2.out.cells))
    | (go_at_call 16; refine (H2.out _ HB2.out).mono ?_; rintro e w3 ⟨rfl, hb3⟩; (have HB3 := Lib.hid (HB2.out.trans (hb3.mono HB2.out.size))); (have HSC3 := Lib.hid (HSC2.out.below hb3)); clear b0 b1 b2 b3 hb3; (obtain ⟨b0, b1, b2, b3⟩ := HSC3.out.cells))
    | (go_at_call 17; refine (H3.out _ HB3.out).mono ?_; rintro e w4 ⟨rfl, hb4⟩; (have HB4 := Lib.hid (HB3.out.trans (hb4.mono HB3.out.size))); clear b0 b1 b2 b3 hb4)
    | (go_at_call 14; refine (HP.out _).mono ?_; rintro e w5 ⟨rfl, hb5⟩; (have HB5 := Lib.hid (HB4.out.trans (hb5.mono HB4.out.size))); clear hb5))
  go_ret
  exact ⟨rfl, HB5.out⟩


theorem ls_ite {c : Prop} [Decidable c] {a b : MdR} {N : Nat} (ha : a.ls.length ≤ N) (hb : b.ls.length ≤ N) : (if c then a else b).ls.length ≤ N := by split <;> assumption
theorem mdOp_ls (n k p q : Int) (m : List Nat) (x : CallM) : (mdOp n k p q m x).ls.length ≤ m.length := by
  have h0 : ∀ (a : List Nat) (b c : Nat), (MdR.mk a b c []).ls.length ≤ m.length := fun _ _ _ => Nat.zero_le _
  have h1 : ∀ t, (mdList m t).ls.length ≤ m.length := fun t => by unfold mdList; show (List.take _ m).length ≤ m.length; rw [List.length_take]; omega
  unfold mdOp mdCell mdCons mdTally mdAdder mdMax mdSnap mdMulti mdUniv mdQ mdPin mdAdd mdShow mdUpd
  repeat' (first | exact h0 _ _ _ | exact h1 _ | refine ls_ite ?_ ?_)
theorem soStep_ls {n : Int} {l : List Tb.SpecL} {s : SoS} {j : Nat} {x : CallM} (h : SoOk n l s j) (hok : ∀ y ∈ l, Tb.tbErr n y.k y.p y.q = 0) (hj : j ≤ 1000) : (soStep n l s x).2.ls.length ≤ 2000 := by
  unfold soStep
  split
  · exact Nat.zero_le _
  · rename_i hin
    split
    · exact Nat.zero_le _
    · rw [Decidable.not_not] at hin
      unfold soIn at hin
      obtain ⟨y, hy⟩ : ∃ y, l[x.ob.toNat]? = some y := ⟨_, List.getElem?_eq_getElem (show x.ob.toNat < l.length by omega)⟩
      have h1 := (h.ob _ y hy).small (hok y (List.mem_of_getElem? hy)) hj
      have h2 := mdOp_ls n (l.getD x.ob.toNat sp0).k (l.getD x.ob.toNat sp0).p (l.getD x.ob.toNat sp0).q (s.ms.getD x.ob.toNat []) x
      show (soR n l s x).ls.length ≤ 2000
      unfold soR
      omega
theorem soRun_ls {n : Int} {l : List Tb.SpecL} (hok : ∀ x ∈ l, Tb.tbErr n x.k x.p x.q = 0) : ∀ (cs : List CallM) (s : SoS) (az : List MdR) (j : Nat), SoOk n l s j → (∀ x ∈ cs, x.Ok) → (∀ x ∈ cs, 0 ≤ x.th ∧ x.th < n) → j + cs.length ≤ 1000 → (∀ a ∈ az, a.ls.length ≤ 2000) → ∀ a ∈ (soRun n l s az cs).2, a.ls.length ≤ 2000
  | [], s, az, j, _, _, _, _, h => h
  | x :: cs, s, az, j, h, h1, h2, h3, h4 => by
    rw [soRun]
    rw [List.length_cons] at h3
    refine soRun_ls hok cs _ _ (j + 1) (h.step hok (h1 x List.mem_cons_self) (h2 x List.mem_cons_self)) (fun y hy => h1 y (List.mem_cons_of_mem _ hy)) (fun y hy => h2 y (List.mem_cons_of_mem _ hy)) (by omega) (fun a ha => ?_)
    rcases List.mem_append.1 ha with ha | ha
    · exact h4 a ha
    · rw [List.mem_singleton.1 ha]; exact soStep_ls h hok (by omega)

set_option maxHeartbeats 8000000 in
theorem solo_ok (n ob : Int) (sao cao pao : Option Addr) (sb so sc cb co cc pn pc : Nat) (l : List Tb.SpecL) (cs : List CallM) (w : World) (h : SoArgs w sao cao sb so cb co l cs) (hbig : manyB l.length cs.length = false) (hok : soErr n l cs = 0) :
    Calls Tryz.prog 5 #[sceneV n (.slice sao l.length sc) (.slice cao cs.length cc) (.slice pao pn pc), .int .i64 ob] w fun e w' => e = .returned (.bool true) ∧ Below w.heap.size w w' := by
  have HL : Hid (∀ W, Calls Tryz.prog 13 #[sceneV n (.slice sao l.length sc) (.slice cao cs.length cc) (.slice none 0 0)] W fun e w' => e = .returned (.bool false) ∧ Below W.heap.size W w') := Lib.hid (fun W => by have := large_any n sao cao l.length sc cs.length cc W; rw [hbig] at this; exact this)
  have HP := Lib.hid place_any
  have HSC : Hid (ScAt (w.alloc (sceneO n (.slice sao l.length sc) (.slice cao cs.length cc) (.slice none 0 0))) w.heap.size n (.slice sao l.length sc) (.slice cao cs.length cc)) := Lib.hid ⟨heap_alloc_new _ _⟩
  have HB0 : Hid (Below w.heap.size w (w.alloc (sceneO n (.slice sao l.length sc) (.slice cao cs.length cc) (.slice none 0 0)))) := Lib.hid ((Below.refl _ _).alloc (Nat.le_refl _) _)
  have hrun := soAll_ok hok h.cx
  obtain ⟨hS, az, hall⟩ : ∃ S az, soAll n l cs = (S, az) := ⟨_, _, rfl⟩
  have H1 : Hid (∀ W, Below w.heap.size w W → Calls Tryz.prog 15 #[.int .i64 n, .slice sao l.length sc, .slice cao cs.length cc] W (fun e w' => ∃ v lst C, e = .returned (.tuple #[v, .int .i64 0]) ∧ AnsW w' C v az lst ∧ Below W.heap.size W w')) := Lib.hid (fun W hb => by have := answers_ok n sao cao sb so sc cb co cc l cs W (h.below hb) hok; unfold AnsP at this; rw [hall] at this; exact this)
  have H3 : Hid (∀ W, Below w.heap.size w W → Calls Tryz.prog 17 #[.int .i64 n, .slice sao l.length sc, .slice cao cs.length cc] W fun e w' => e = .returned (.int .i64 0) ∧ Below W.heap.size W w') := Lib.hid (fun W hb => by have := rwrong_any n sao cao sb so sc cb co cc l cs W (h.below hb); rw [hok] at this; exact this)
  have H4 : Hid (∀ W, Below w.heap.size w W → Calls Tryz.prog 18 #[.int .i64 n, .slice sao l.length sc, .slice cao cs.length cc] W (fun e w' => ∃ av sv us lst d7 lb, e = .returned (.agg #[av, sv]) ∧ RfAt w' l d7 lb av sv l.length us hS az lst ∧ Below W.heap.size W w')) := Lib.hid (fun W hb => by have := do_any n sao cao sb so sc cb co cc l cs W (h.below hb) hok; unfold DoP at this; rw [hall] at this; exact this)
  rw [hall] at hrun
  have HRN := Lib.hid hrun
  have hcl : az.length ≤ 1000 := by
    have e := soRun_len (n := n) (l := l) cs (soNew n l) []
    have h2 := (soErr_ok hok).2.1
    unfold soAll at hall
    rw [hall] at e
    simp at e
    omega
  have hlen8 := (laErr_ok (soErr_ok hok).2.2.2).2.1
  have hsm : ∀ a ∈ az, a.ls.length ≤ 2000 := by
    have h1 := soErr_ok hok
    have h2 := (laErr_ok h1.2.2.2).2.2.1
    have := soRun_ls h2 cs (soNew n l) [] 0 (soOk_new h2) h.cx (thrOk_mem h1.2.2.1) (by omega) (fun a ha => by simp at ha)
    unfold soAll at hall
    rw [hall] at this
    exact this
  have HSML := Lib.hid hsm
  have HLO : Hid (¬ (0 ≤ ob ∧ ob < l.length) → ∀ W, Below w.heap.size w W → Calls Tryz.prog 16 #[.int .i64 n, .slice sao l.length sc, .slice cao cs.length cc, .int .i64 ob] W fun e w' => e = .returned (.tuple #[.slice none 0 0, .int .i64 12]) ∧ Below W.heap.size W w') := Lib.hid (fun hno W hb => last_none n sao cao sb so sc cb co cc l cs ob W (h.below hb) hok hno)
  have HLY : Hid (∀ i : Nat, i < l.length → ∀ W, Below w.heap.size w W → Calls Tryz.prog 16 #[.int .i64 n, .slice sao l.length sc, .slice cao cs.length cc, .int .i64 (i : Int)] W (fun e w' => ∃ u, e = .returned (.tuple #[u, .int .i64 0]) ∧ ArgW w' u (hS.ms.getD i []) ∧ Below W.heap.size W w')) := Lib.hid (fun i hi W hb => by have := last_ok n sao cao sb so sc cb co cc l cs i W (h.below hb) hok hi; unfold LastP at this; rw [hall] at this; exact this)
  have HML : Hid (∀ i : Nat, i < l.length → (hS.ms.getD i []).length ≤ 4294967296) := Lib.hid (fun i hi => by
    obtain ⟨y, hy⟩ : ∃ y, l[i]? = some y := ⟨_, List.getElem?_eq_getElem hi⟩
    have h2 := hrun.ob i y hy
    have h3 := (laErr_ok (soErr_ok hok).2.2.2).2.2.1 y (List.mem_of_getElem? hy)
    have h4 := (soErr_ok hok).2.1
    have := h2.small h3 h4
    simp only at this
    omega)
  clear hbig h hok hall hrun hsm
  unfold sceneV at *
  by_cases hin : 0 ≤ ob ∧ ob < l.length
  · obtain ⟨i, rfl⟩ : ∃ i : Nat, ob = i := ⟨ob.toNat, by omega⟩
    have hil : i < l.length := by omega
    have H5 := Lib.hid (HLY.out i hil)
    have HMLI := Lib.hid (HML.out i hil)
    clear hin HLY HLO HML
    generalize hmd : hS.ms.getD i [] = md at *
    have HMD := Lib.hid hmd
    clear hmd
    go_enter Tryz.func5, Tryz.ntmps5
    go_upto_region 2 with fail
    generalize hw0 : w.alloc (.cells #[.int .i64 n, .slice sao l.length sc, .slice cao cs.length cc, .slice none 0 0] 26) = w0 at *
    clear hw0
    have HSC0 := HSC
    obtain ⟨b0, b1, b2, b3⟩ := HSC.out.cells
    go_upto_region 10 with (first
      | (go_at_call 13; refine (HL.out _).mono ?_; rintro e w1 ⟨rfl, hb1⟩; (have HB1 := Lib.hid (HB0.out.trans (hb1.mono HB0.out.size))); (have HSC1 := Lib.hid (HSC0.out.below hb1)); clear b0 b1 b2 b3 hb1; (obtain ⟨b0, b1, b2, b3⟩ := HSC1.out.cells))
      | (go_at_call 15; refine (H1.out _ HB1.out).mono ?_; rintro e w2 ⟨v2, lst2, C2, rfl, hA2, hb2⟩; (have HB2 := Lib.hid (HB1.out.trans (hb2.mono HB1.out.size))); (have HSC2 := Lib.hid (HSC1.out.below hb2)); (have HA2 := Lib.hid hA2); (obtain ⟨ao2, g2, cap2, rfl, hg2, hg2l⟩ := hA2.form); (have HG2 := Lib.hid hg2); (have HG2L := Lib.hid hg2l); clear b0 b1 b2 b3 hb2 hA2 hg2 hg2l; (obtain ⟨b0, b1, b2, b3⟩ := HSC2.out.cells))
      | (go_at_call 16; refine (H5.out _ HB2.out).mono ?_; rintro e w3 ⟨u3, rfl, hA3, hb3⟩; (have HB3 := Lib.hid (HB2.out.trans (hb3.mono HB2.out.size))); (have HSC3 := Lib.hid (HSC2.out.below hb3)); (have HA23 := Lib.hid (HA2.out.below hb3)); (have HA3 := Lib.hid hA3); (obtain ⟨uao, ucap, rfl⟩ := hA3.isSlice); clear hA3; clear b0 b1 b2 b3 hb3; (obtain ⟨b0, b1, b2, b3⟩ := HSC3.out.cells))
      | (go_at_call 17; refine (H3.out _ HB3.out).mono ?_; rintro e w4 ⟨rfl, hb4⟩; (have HB4 := Lib.hid (HB3.out.trans (hb4.mono HB3.out.size))); (have HSC4 := Lib.hid (HSC3.out.below hb4)); (have HA24 := Lib.hid (HA23.out.below hb4)); (have HA4 := Lib.hid (HA3.out.below hb4)); clear b0 b1 b2 b3 hb4; (obtain ⟨b0, b1, b2, b3⟩ := HSC4.out.cells))
      | (go_at_call 18; refine (H4.out _ HB4.out).mono ?_; rintro e w5 ⟨av, sv, us, lst5, d7, lb, rfl, hR5, hb5⟩; (have HB5 := Lib.hid (HB4.out.trans (hb5.mono HB4.out.size))); (have HSC5 := Lib.hid (HSC4.out.below hb5)); (have HA25 := Lib.hid (HA24.out.below hb5)); (have HA5 := Lib.hid (HA4.out.below hb5)); (have HR5 := Lib.hid hR5); (obtain ⟨avo, avg, avc, rfl, hag, hagl⟩ := hR5.an.form); (obtain ⟨svo, svg, svc, rfl, _, _, _, _⟩ := owns_open hR5.row); (have HAG := Lib.hid hag); (have HAGL := Lib.hid hagl); clear b0 b1 b2 b3 hb5 hR5 hag hagl; (obtain ⟨b0, b1, b2, b3⟩ := HSC5.out.cells)))
    have HDB : Hid ((w5.alloc (.cells #[.slice avo az.length avc, .slice svo l.length svc] 52)).heap[w5.heap.size]? = some (dnO (.slice avo az.length avc) (.slice svo l.length svc))) := Lib.hid (heap_alloc_new _ _)
    have hb6 : Below w5.heap.size w5 (w5.alloc (.cells #[.slice avo az.length avc, .slice svo l.length svc] 52)) := (Below.refl _ _).alloc (Nat.le_refl _) _
    have HB6 := Lib.hid (HB5.out.trans (hb6.mono HB5.out.size))
    have HSC6 := Lib.hid (HSC5.out.below hb6)
    have HA26 := Lib.hid (HA25.out.below hb6)
    have HA6 := Lib.hid (HA5.out.below hb6)
    have HR6 := Lib.hid (HR5.out.below hb6)
    generalize hbd : w5.heap.size = bd at *
    generalize hw6 : w5.alloc (.cells #[.slice avo az.length avc, .slice svo l.length svc] 52) = w6 at *
    clear hb6 hw6 hbd b0 b1 b2 b3
    obtain ⟨b0, b1, b2, b3⟩ := HSC6.out.cells
    have d0 := Tb.cell_of_blkT (k := 0) HDB.out rfl
    have d1 := Tb.cell_of_blkT (k := 1) HDB.out rfl
    have hbd6 := blk_lt HDB.out
    go_wp2_with fail
    go_loopw [86] (fun kk wr => ∃ (j : Nat), j ≤ az.length ∧ kk = .int .i64 j ∧ Hid (Below w6.heap.size w6 wr)) (fun kk _ => az.length - (intOf kk).toNat)
    case atStart => exact ⟨0, Nat.zero_le _, rfl, Lib.hid (Below.refl _ _)⟩
    case round =>
      obtain ⟨j, hj, rfl, HBR⟩ := hrel
      by_cases hlt : j < az.length
      · obtain rfl := HG2.out (by omega)
        obtain rfl := HAG.out (by omega)
        obtain ⟨a, ha⟩ : ∃ a, az[j]? = some a := ⟨_, List.getElem?_eq_getElem hlt⟩
        obtain ⟨x1, e0, e1, e2, hX1⟩ := (HA26.out.below HBR.out).at1 rfl ha
        obtain ⟨x2, f0, f1, f2, hX2⟩ := ((HR6.out.below HBR.out).an).at1 rfl ha
        have hal := HSML.out a (List.mem_of_getElem? ha)
        have dr0 := (HBR.out.cell (p := ⟨bd, 0, none⟩) hbd6).trans d0
        have hg2r := World.block_lt_of_cell? wr _ e0
        have hagr := World.block_lt_of_cell? wr _ f0
        have hbdr := World.block_lt_of_cell? wr _ dr0
        simp only at hg2r hagr hbdr
        have l0 : ∀ p : BW wr.heap.size wr, p.v.cell? ⟨g2, j * 3, none⟩ = some (.int .i64 (a.err : Int)) := fun p => p.cell hg2r e0
        have l1 : ∀ p : BW wr.heap.size wr, p.v.cell? ⟨g2, j * 3 + 1, none⟩ = some (.int .u64 (a.val : Int)) := fun p => p.cell hg2r e1
        have l2 : ∀ p : BW wr.heap.size wr, p.v.cell? ⟨g2, j * 3 + 2, none⟩ = some x1 := fun p => p.cell hg2r e2
        have m0 : ∀ p : BW wr.heap.size wr, p.v.cell? ⟨avg, j * 3, none⟩ = some (.int .i64 (a.err : Int)) := fun p => p.cell hagr f0
        have m1 : ∀ p : BW wr.heap.size wr, p.v.cell? ⟨avg, j * 3 + 1, none⟩ = some (.int .u64 (a.val : Int)) := fun p => p.cell hagr f1
        have m2 : ∀ p : BW wr.heap.size wr, p.v.cell? ⟨avg, j * 3 + 2, none⟩ = some x2 := fun p => p.cell hagr f2
        have n0 : ∀ p : BW wr.heap.size wr, p.v.cell? ⟨bd, 0, none⟩ = some (.slice (some ⟨avg, 0, none⟩) az.length avc) := fun p => p.cell hbdr dr0
        have HPA : Hid (∀ p : BW wr.heap.size wr, Calls Tryz.prog 19 #[.agg #[.int .i64 (a.err : Int), .int .u64 (a.val : Int), x1], .agg #[.int .i64 (a.err : Int), .int .u64 (a.val : Int), x2]] p.v fun e w' => e = .returned (.bool true) ∧ Below p.v.heap.size p.v w') := Lib.hid (fun p => panswer_same _ _ x1 x2 a.ls p.v (by omega) (hX1.arg.below p.h) (hX2.arg.below p.h))
        obtain ⟨x1a, x1c, rfl⟩ := hX1.arg.isSlice
        obtain ⟨x2a, x2c, rfl⟩ := hX2.arg.isSlice
        clear ha e0 e1 e2 f0 f1 f2 hX1 hX2 hg2r hagr hbdr dr0
        go_wp2_with fail
        refine wp_region_low (B := wr.heap.size) (w := wr) (by kernel_rfl) (by kernel_rfl) ?_
        repeat (go_big_quiet_step ((go_at_call 19; exact low_call (HPA.out _) (Nat.le_refl _))))
        refine wpQuiet_nil ?_
        intro W2 hw'
        obtain ⟨pq, eq1⟩ := hw'
        have hb2 := pq.h
        rw [← eq1] at hb2
        clear eq1 pq l0 l1 l2 m0 m1 m2 n0 HPA
        go_wp2_with fail
        go_roundw
        case rel => exact ⟨j + 1, by omega, by go_num, Lib.hid (HBR.out.trans (hb2.mono HBR.out.size))⟩
        case measure => simp [intOf]; omega
      · have HSCR := Lib.hid (HSC6.out.below HBR.out)
        have HBWR := Lib.hid (HB6.out.trans (HBR.out.mono HB6.out.size))
        have dr1 := (HBR.out.cell (p := ⟨bd, 1, none⟩) hbd6).trans d1
        have HARR := Lib.hid (HA6.out.below HBR.out)
        obtain ⟨mg, mcap, u', hv', _, _, hu', mm0, _, hM, _⟩ := (HR6.out.below HBR.out).model HRN.out.lm hil
        obtain ⟨rfl, rfl⟩ : svo = some ⟨mg, 0, none⟩ ∧ svc = mcap := by injection hv' with h1 h2 h3; exact ⟨h1, h3⟩
        rw [HMD.out] at hM
        have HMM := Lib.hid hM.arg
        obtain ⟨uao', ucap', rfl⟩ := hM.arg.isSlice
        have q0 : decide ((i : Int) < 0) = false := decide_eq_false (by omega)
        have q1 : decide ((l.length : Int) ≤ (i : Int)) = false := decide_eq_false (by omega)
        have hil2 : (i : Int) < (l.length : Int) := by omega
        clear hv' hu' hM
        clear b0 b1 b2 b3
        obtain ⟨b0, b1, b2, b3⟩ := HSCR.out.cells
        go_wp2_with (first
          | (go_at_call 20; (with_reducible refine (sameW _ _ md _ HMLI.out HARR.out HMM.out).mono ?_); rintro e w7 ⟨rfl, m7, hw7⟩; (have HB7 : Hid (Below w.heap.size w w7) := Lib.hid (by rw [hw7]; exact below_drewN HBWR.out _)); clear hw7)
          | (go_at_call 14; refine (HP.out _).mono ?_; rintro e w8 ⟨rfl, hb8⟩; (have HB8 := Lib.hid (HB7.out.trans (hb8.mono HB7.out.size))); clear hb8))
        go_ret
        exact ⟨rfl, HB8.out⟩
  · have H5 := Lib.hid (HLO.out hin)
    clear HLY HLO HML HRN
    go_enter Tryz.func5, Tryz.ntmps5
    go_upto_region 2 with fail
    generalize hw0 : w.alloc (.cells #[.int .i64 n, .slice sao l.length sc, .slice cao cs.length cc, .slice none 0 0] 26) = w0 at *
    clear hw0
    have HSC0 := HSC
    obtain ⟨b0, b1, b2, b3⟩ := HSC.out.cells
    go_upto_region 10 with (first
      | (go_at_call 13; refine (HL.out _).mono ?_; rintro e w1 ⟨rfl, hb1⟩; (have HB1 := Lib.hid (HB0.out.trans (hb1.mono HB0.out.size))); (have HSC1 := Lib.hid (HSC0.out.below hb1)); clear b0 b1 b2 b3 hb1; (obtain ⟨b0, b1, b2, b3⟩ := HSC1.out.cells))
      | (go_at_call 15; refine (H1.out _ HB1.out).mono ?_; rintro e w2 ⟨v2, lst2, C2, rfl, hA2, hb2⟩; (have HB2 := Lib.hid (HB1.out.trans (hb2.mono HB1.out.size))); (have HSC2 := Lib.hid (HSC1.out.below hb2)); (have HA2 := Lib.hid hA2); (obtain ⟨ao2, g2, cap2, rfl, hg2, hg2l⟩ := hA2.form); (have HG2 := Lib.hid hg2); (have HG2L := Lib.hid hg2l); clear b0 b1 b2 b3 hb2 hA2 hg2 hg2l; (obtain ⟨b0, b1, b2, b3⟩ := HSC2.out.cells))
      | (go_at_call 16; refine (H5.out _ HB2.out).mono ?_; rintro e w3 ⟨rfl, hb3⟩; (have HB3 := Lib.hid (HB2.out.trans (hb3.mono HB2.out.size))); (have HSC3 := Lib.hid (HSC2.out.below hb3)); (have HA23 := Lib.hid (HA2.out.below hb3)); clear b0 b1 b2 b3 hb3; (obtain ⟨b0, b1, b2, b3⟩ := HSC3.out.cells))
      | (go_at_call 17; refine (H3.out _ HB3.out).mono ?_; rintro e w4 ⟨rfl, hb4⟩; (have HB4 := Lib.hid (HB3.out.trans (hb4.mono HB3.out.size))); (have HSC4 := Lib.hid (HSC3.out.below hb4)); (have HA24 := Lib.hid (HA23.out.below hb4)); clear b0 b1 b2 b3 hb4; (obtain ⟨b0, b1, b2, b3⟩ := HSC4.out.cells))
      | (go_at_call 18; refine (H4.out _ HB4.out).mono ?_; rintro e w5 ⟨av, sv, us, lst5, d7, lb, rfl, hR5, hb5⟩; (have HB5 := Lib.hid (HB4.out.trans (hb5.mono HB4.out.size))); (have HSC5 := Lib.hid (HSC4.out.below hb5)); (have HA25 := Lib.hid (HA24.out.below hb5)); (have HR5 := Lib.hid hR5); (obtain ⟨avo, avg, avc, rfl, hag, hagl⟩ := hR5.an.form); (obtain ⟨svo, svg, svc, rfl, _, _, _, _⟩ := owns_open hR5.row); (have HAG := Lib.hid hag); (have HAGL := Lib.hid hagl); clear b0 b1 b2 b3 hb5 hR5 hag hagl; (obtain ⟨b0, b1, b2, b3⟩ := HSC5.out.cells)))
    have HDB : Hid ((w5.alloc (.cells #[.slice avo az.length avc, .slice svo l.length svc] 52)).heap[w5.heap.size]? = some (dnO (.slice avo az.length avc) (.slice svo l.length svc))) := Lib.hid (heap_alloc_new _ _)
    have hb6 : Below w5.heap.size w5 (w5.alloc (.cells #[.slice avo az.length avc, .slice svo l.length svc] 52)) := (Below.refl _ _).alloc (Nat.le_refl _) _
    have HB6 := Lib.hid (HB5.out.trans (hb6.mono HB5.out.size))
    have HSC6 := Lib.hid (HSC5.out.below hb6)
    have HA26 := Lib.hid (HA25.out.below hb6)
    skip
    have HR6 := Lib.hid (HR5.out.below hb6)
    generalize hbd : w5.heap.size = bd at *
    generalize hw6 : w5.alloc (.cells #[.slice avo az.length avc, .slice svo l.length svc] 52) = w6 at *
    clear hb6 hw6 hbd b0 b1 b2 b3
    obtain ⟨b0, b1, b2, b3⟩ := HSC6.out.cells
    have d0 := Tb.cell_of_blkT (k := 0) HDB.out rfl
    have d1 := Tb.cell_of_blkT (k := 1) HDB.out rfl
    have hbd6 := blk_lt HDB.out
    go_wp2_with fail
    go_loopw [86] (fun kk wr => ∃ (j : Nat), j ≤ az.length ∧ kk = .int .i64 j ∧ Hid (Below w6.heap.size w6 wr)) (fun kk _ => az.length - (intOf kk).toNat)
    case atStart => exact ⟨0, Nat.zero_le _, rfl, Lib.hid (Below.refl _ _)⟩
    case round =>
      obtain ⟨j, hj, rfl, HBR⟩ := hrel
      by_cases hlt : j < az.length
      · obtain rfl := HG2.out (by omega)
        obtain rfl := HAG.out (by omega)
        obtain ⟨a, ha⟩ : ∃ a, az[j]? = some a := ⟨_, List.getElem?_eq_getElem hlt⟩
        obtain ⟨x1, e0, e1, e2, hX1⟩ := (HA26.out.below HBR.out).at1 rfl ha
        obtain ⟨x2, f0, f1, f2, hX2⟩ := ((HR6.out.below HBR.out).an).at1 rfl ha
        have hal := HSML.out a (List.mem_of_getElem? ha)
        have dr0 := (HBR.out.cell (p := ⟨bd, 0, none⟩) hbd6).trans d0
        have hg2r := World.block_lt_of_cell? wr _ e0
        have hagr := World.block_lt_of_cell? wr _ f0
        have hbdr := World.block_lt_of_cell? wr _ dr0
        simp only at hg2r hagr hbdr
        have l0 : ∀ p : BW wr.heap.size wr, p.v.cell? ⟨g2, j * 3, none⟩ = some (.int .i64 (a.err : Int)) := fun p => p.cell hg2r e0
        have l1 : ∀ p : BW wr.heap.size wr, p.v.cell? ⟨g2, j * 3 + 1, none⟩ = some (.int .u64 (a.val : Int)) := fun p => p.cell hg2r e1
        have l2 : ∀ p : BW wr.heap.size wr, p.v.cell? ⟨g2, j * 3 + 2, none⟩ = some x1 := fun p => p.cell hg2r e2
        have m0 : ∀ p : BW wr.heap.size wr, p.v.cell? ⟨avg, j * 3, none⟩ = some (.int .i64 (a.err : Int)) := fun p => p.cell hagr f0
        have m1 : ∀ p : BW wr.heap.size wr, p.v.cell? ⟨avg, j * 3 + 1, none⟩ = some (.int .u64 (a.val : Int)) := fun p => p.cell hagr f1
        have m2 : ∀ p : BW wr.heap.size wr, p.v.cell? ⟨avg, j * 3 + 2, none⟩ = some x2 := fun p => p.cell hagr f2
        have n0 : ∀ p : BW wr.heap.size wr, p.v.cell? ⟨bd, 0, none⟩ = some (.slice (some ⟨avg, 0, none⟩) az.length avc) := fun p => p.cell hbdr dr0
        have HPA : Hid (∀ p : BW wr.heap.size wr, Calls Tryz.prog 19 #[.agg #[.int .i64 (a.err : Int), .int .u64 (a.val : Int), x1], .agg #[.int .i64 (a.err : Int), .int .u64 (a.val : Int), x2]] p.v fun e w' => e = .returned (.bool true) ∧ Below p.v.heap.size p.v w') := Lib.hid (fun p => panswer_same _ _ x1 x2 a.ls p.v (by omega) (hX1.arg.below p.h) (hX2.arg.below p.h))
        obtain ⟨x1a, x1c, rfl⟩ := hX1.arg.isSlice
        obtain ⟨x2a, x2c, rfl⟩ := hX2.arg.isSlice
        clear ha e0 e1 e2 f0 f1 f2 hX1 hX2 hg2r hagr hbdr dr0
        go_wp2_with fail
        refine wp_region_low (B := wr.heap.size) (w := wr) (by kernel_rfl) (by kernel_rfl) ?_
        repeat (go_big_quiet_step ((go_at_call 19; exact low_call (HPA.out _) (Nat.le_refl _))))
        refine wpQuiet_nil ?_
        intro W2 hw'
        obtain ⟨pq, eq1⟩ := hw'
        have hb2 := pq.h
        rw [← eq1] at hb2
        clear eq1 pq l0 l1 l2 m0 m1 m2 n0 HPA
        go_wp2_with fail
        go_roundw
        case rel => exact ⟨j + 1, by omega, by go_num, Lib.hid (HBR.out.trans (hb2.mono HBR.out.size))⟩
        case measure => simp [intOf]; omega
      · have HSCR := Lib.hid (HSC6.out.below HBR.out)
        have HBWR := Lib.hid (HB6.out.trans (HBR.out.mono HB6.out.size))
        have dr1 := (HBR.out.cell (p := ⟨bd, 1, none⟩) hbd6).trans d1
        clear b0 b1 b2 b3
        obtain ⟨b0, b1, b2, b3⟩ := HSCR.out.cells
        by_cases h0 : ob < 0
        · have q0 : decide (ob < 0) = true := decide_eq_true h0
          go_wp2_with (go_at_call 14; refine (HP.out _).mono ?_; rintro e w8 ⟨rfl, hb8⟩; (have HB8 := Lib.hid (HBWR.out.trans (hb8.mono HBWR.out.size))); clear hb8)
          go_ret
          exact ⟨rfl, HB8.out⟩
        · have q0 : decide (ob < 0) = false := decide_eq_false h0
          have q1 : decide ((l.length : Int) ≤ ob) = true := decide_eq_true (by omega)
          go_wp2_with (go_at_call 14; refine (HP.out _).mono ?_; rintro e w8 ⟨rfl, hb8⟩; (have HB8 := Lib.hid (HBWR.out.trans (hb8.mono HBWR.out.size))); clear hb8)
          go_ret
          exact ⟨rfl, HB8.out⟩
end
section
open Go.ChangeShapes Go.WideShapes Go.ChangeAt Go.RowKit
set_option maxRecDepth 100000

theorem slice_callsM {H : Type} {enc : TypeId × Value → H} {w : World} {base : Nat} {spare : Nat → Bool} {held : Bool} {fuel : Nat} {ao : Option Addr} {n cap : Nat} {x : DataW H × List MemPlace}
    (h : DataW.trod enc Tryz.prog w base spare held fuel 23 [.slice ao n cap] = some x) :
    ∃ (b off : Nat) (l : List CallM), n = l.length ∧ l.length ≤ maxLen ∧ (0 < l.length → ao = some ⟨b, off, none⟩) ∧ CallsM w b off l ∧ ∀ y ∈ l, y.Ok := by
  obtain ⟨ao', b, off, len, cap', hcs, hl, ha, hi⟩ := slice_cells Tryz.underlying23 (sz := 6) (by kernel_rfl) (by omega) h
  simp only [List.cons.injEq, Value.slice.injEq, and_true] at hcs
  obtain ⟨rfl, rfl, rfl⟩ := hcs
  have := list_of (n := n) (Q := fun i (x : CallM) => (w.cell? ⟨b, off + i * 6, none⟩ = some (.int .i64 x.th) ∧ w.cell? ⟨b, off + i * 6 + 1, none⟩ = some (.int .i64 x.ob) ∧ w.cell? ⟨b, off + i * 6 + 2, none⟩ = some (.int .i64 x.kd) ∧ w.cell? ⟨b, off + i * 6 + 3, none⟩ = some (.int .u64 (x.a : Int)) ∧ w.cell? ⟨b, off + i * 6 + 4, none⟩ = some (.int .u64 (x.b : Int)) ∧ w.cell? ⟨b, off + i * 6 + 5, none⟩ = some (.int .u64 (x.c : Int))) ∧ x.Ok) (fun i hil => by
    obtain ⟨cs', y, n', hcl, htr, hat⟩ := hi i hil
    obtain ⟨t, h0, _⟩ := field_cell Tryz.underlying65 htr (i := 0) (o := 0) rfl rfl (by kernel_rfl) Tryz.underlying3
    obtain ⟨ob, h1, _⟩ := field_cell Tryz.underlying65 htr (i := 1) (o := 1) rfl rfl (by kernel_rfl) Tryz.underlying3
    obtain ⟨kd, h2, _⟩ := field_cell Tryz.underlying65 htr (i := 2) (o := 2) rfl rfl (by kernel_rfl) Tryz.underlying3
    obtain ⟨a, h3, w3⟩ := field_cell Tryz.underlying65 htr (i := 3) (o := 3) rfl rfl (by kernel_rfl) Tryz.underlying55
    obtain ⟨bb, h4, w4⟩ := field_cell Tryz.underlying65 htr (i := 4) (o := 4) rfl rfl (by kernel_rfl) Tryz.underlying55
    obtain ⟨c, h5, w5⟩ := field_cell Tryz.underlying65 htr (i := 5) (o := 5) rfl rfl (by kernel_rfl) Tryz.underlying55
    have b3 := u64_bounds w3
    have b4 := u64_bounds w4
    have b5 := u64_bounds w5
    obtain ⟨a, rfl⟩ : ∃ z : Nat, a = z := ⟨a.toNat, by omega⟩
    obtain ⟨bb, rfl⟩ : ∃ z : Nat, bb = z := ⟨bb.toNat, by omega⟩
    obtain ⟨c, rfl⟩ : ∃ z : Nat, c = z := ⟨c.toNat, by omega⟩
    exact ⟨⟨t, ob, kd, a, bb, c⟩, ⟨(hat 0 (by omega)).trans h0, (hat 1 (by omega)).trans h1, (hat 2 (by omega)).trans h2, (hat 3 (by omega)).trans h3, (hat 4 (by omega)).trans h4, (hat 5 (by omega)).trans h5⟩, by show a < _; omega, by show bb < _; omega, by show c < _; omega⟩)
  obtain ⟨l, rfl, hq⟩ := this
  exact ⟨b, off, l, rfl, hl, fun h => (ha h).1, fun i x hx => (hq i x hx).1, fun y hy => by
    obtain ⟨i, hi⟩ := List.mem_iff_getElem?.1 hy
    exact (hq i y hi).2⟩

theorem scene_val {H : Type} {enc : TypeId × Value → H} {w : World} {base : Nat} {spare : Nat → Bool} {held : Bool} {r : Reach} {b0 : Nat} {v : Value} {d : DataW H} {ps : List MemPlace}
    (hv : Value.okWide Tryz.prog w r b0 26 v) (h : DataW.Trod enc Tryz.prog w base spare held 26 v d ps) :
    ∃ (n : Int) (sao cao : Option Addr) (sb so sc cb co cc : Nat) (l : List Tb.SpecL) (cs : List CallM) (pv : Value), v = sceneV n (.slice sao l.length sc) (.slice cao cs.length cc) pv ∧ (∃ a b c, pv = .slice a b c) ∧ SoArgs w sao cao sb so cb co l cs := by
  simp only [Value.okWide, Tryz.underlying26] at hv
  obtain ⟨cs, rfl, hcs, _⟩ := hv
  obtain ⟨fuel, h⟩ := h
  have h3 : Tryz.prog.cellsOf 26 = 4 := by kernel_rfl
  obtain ⟨c⟩ := cs
  rw [h3] at hcs
  match c, hcs with
  | [c0, c1, c2, c3], _ =>
    simp only [Value.cells] at h
    obtain ⟨n, e0, _⟩ := field_cell Tryz.underlying26 h (i := 0) (o := 0) rfl rfl (by kernel_rfl) Tryz.underlying3
    obtain ⟨m1, y1, p1⟩ := field_part Tryz.underlying26 h (i := 1) (o := 1) (c := 1) rfl rfl (by kernel_rfl)
    obtain ⟨m2, y2, p2⟩ := field_part Tryz.underlying26 h (i := 2) (o := 2) (c := 1) rfl rfl (by kernel_rfl)
    obtain ⟨m3, y3, p3⟩ := field_part Tryz.underlying26 h (i := 3) (o := 3) (c := 1) rfl rfl (by kernel_rfl)
    have p1' : DataW.trod enc Tryz.prog w base spare held m1 22 [c1] = some y1 := p1
    have p2' : DataW.trod enc Tryz.prog w base spare held m2 23 [c2] = some y2 := p2
    have p3' : DataW.trod enc Tryz.prog w base spare held m3 24 [c3] = some y3 := p3
    obtain ⟨a1, n1, q1, e1⟩ := part_slice Tryz.underlying22 p1'
    obtain ⟨a2, n2, q2, e2⟩ := part_slice Tryz.underlying23 p2'
    obtain ⟨a3, n3, q3, e3⟩ := part_slice Tryz.underlying24 p3'
    simp only [List.cons.injEq, and_true] at e1 e2 e3
    subst e1 e2 e3
    simp at e0
    subst e0
    obtain ⟨sb, so, l, rfl, hl, ha, hb, hsp⟩ := Tb.slice_specs p1'
    obtain ⟨cb, co, cs, rfl, hcl, hca, hcp, hcx⟩ := slice_callsM p2'
    exact ⟨n, a1, a2, sb, so, q1, cb, co, q2, l, cs, _, rfl, ⟨a3, n3, q3, rfl⟩, ⟨ha, hsp, hca, hcp, hcx⟩⟩
end
end Go.Proofs.YtjjleghalajidaaGreat
