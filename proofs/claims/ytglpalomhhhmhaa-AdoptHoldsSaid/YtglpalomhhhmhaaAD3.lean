/- Walks of adopters: the small functions. -/
import Derived.Test.YtglpalomhhhmhaaAD2
import Derived.Test.YtglpalomhhhmhaaOA
import Derived.Test.YtglpalomhhhmhaaK7
import Derived.Laws.CopyRow
import Derived.Deep.Cut
import Derived.Deep.QuietTactic
import Derived.BigQuiet
namespace Go.Proofs.Ytglpalomhhhmhaa
open Go.ChangeShapes Go.WideShapes Go.ChangeAt Go.RowKit
set_option linter.unusedVariables false
set_option linter.unusedSimpArgs false
theorem ad_withBit (x : Nat) (b : Bool) (hx : x < 4294967296) (w : World) : Calls Try.prog 80 #[.int .u64 (x : Int), .bool b] w fun e w' => e = .returned (.int .u64 ((2 * x + if b then 1 else 0 : Nat) : Int)) ∧ w = w' := by
  cases b with
  | true =>
    have hw : IntKind.u64.wrap (2 * (x : Int) + 1) = 2 * (x : Int) + 1 := by unfold IntKind.wrap; simp [IntKind.bits, IntKind.signed]; omega
    have hw2 : IntKind.u64.wrap (2 * (x : Int)) = 2 * (x : Int) := by unfold IntKind.wrap; simp [IntKind.bits, IntKind.signed]; omega
    go_enter Try.func80, Try.ntmps80
    go_wp2
    go_ret
    exact ⟨by congr 2, rfl⟩
  | false =>
    have hw2 : IntKind.u64.wrap (2 * (x : Int)) = 2 * (x : Int) := by unfold IntKind.wrap; simp [IntKind.bits, IntKind.signed]; omega
    go_enter Try.func80, Try.ntmps80
    go_wp2
    go_ret
    exact ⟨by congr 2, rfl⟩
theorem ad_markOf (x : Nat) (b : Bool) (hx : x < 4294967296) (w : World) : Calls Try.prog 77 #[.int .u64 (x : Int), .bool b] w fun e w' => e = .returned (.int .u64 ((2 * x + if b then 1 else 0 : Nat) : Int)) ∧ w = w' := by
  have H := Lib.hid (ad_withBit x b hx)
  generalize (2 * x + if b then 1 else 0) = y at H ⊢
  go_enter Try.func77, Try.ntmps77
  go_wp2_with fail
  refine (H.out _).mono ?_
  rintro e w1 ⟨rfl, rfl⟩
  go_wp2
  go_ret
  exact ⟨rfl, rfl⟩
theorem ad_resultOf (x : Nat) (b : Bool) (h1 : 1 ≤ x) (hx : x < 4294967296) (w : World) : Calls Try.prog 79 #[.int .u64 (x : Int), .bool b] w fun e w' => e = .returned (.int .u64 ((2 * (x - 1) + if b then 1 else 0 : Nat) : Int)) ∧ w = w' := by
  have H := Lib.hid (ad_withBit (x - 1) b (by omega))
  obtain ⟨z, hz⟩ : ∃ z, x - 1 = z := ⟨_, rfl⟩
  have hw : IntKind.u64.wrap ((x : Int) - 1) = (z : Int) := by unfold IntKind.wrap; simp [IntKind.bits, IntKind.signed]; omega
  rw [hz] at H ⊢
  clear hz
  generalize (2 * z + if b then 1 else 0) = y at H ⊢
  go_enter Try.func79, Try.ntmps79
  go_wp2_with fail
  refine (H.out _).mono ?_
  rintro e w1 ⟨rfl, rfl⟩
  go_wp2
  go_ret
  exact ⟨rfl, rfl⟩
theorem ad_isOdd (x : Nat) (hx : x < 18446744073709551616) (w : World) : Calls Try.prog 82 #[.int .u64 (x : Int)] w fun e w' => e = .returned (.bool (oddB x)) ∧ w = w' := by
  unfold oddB
  obtain ⟨d, hd⟩ : ∃ d, decide (x % 2 = 1) = d := ⟨_, rfl⟩
  obtain ⟨y, hy⟩ : ∃ y, x % 2 = y := ⟨_, rfl⟩
  have ht2 : ((x : Int).tmod 2) = (y : Int) := by rw [Int.tmod_eq_emod_of_nonneg (by omega)]; omega
  rw [hy] at hd
  rw [hy, hd]
  have e1 : ((y : Int) == 1) = d := by rw [← hd, Bool.eq_iff_iff, beq_iff_eq, decide_eq_true_eq]; omega
  have e2 : decide ((y : Int) = 1) = d := by rw [← hd]; congr 1; simp only [eq_iff_iff]; omega
  clear hd
  go_enter Try.func82, Try.ntmps82
  go_wp2
  go_ret
  exact ⟨ret_bool (by cases d <;> first | rfl | simp_all), rfl⟩
theorem ad_numberIn (x : Nat) (hx : x < 18446744073709551616) (w : World) : Calls Try.prog 84 #[.int .u64 (x : Int)] w fun e w' => e = .returned (.int .u64 ((x / 2 : Nat) : Int)) ∧ w = w' := by
  go_enter Try.func84, Try.ntmps84
  go_wp2
  go_ret
  exact ⟨ret_int (by omega), rfl⟩
theorem infoU1 : (Try.prog.info? 37).map (·.size) = some 1 := by kernel_rfl
set_option maxRecDepth 100000 in
theorem ad_together0 (x : Nat) (w : World) : Calls Try.prog 83 #[.int .u64 (x : Int), .slice none 0 0] w fun e w' => e = .returned (.tuple #[.int .u64 (x : Int), .int .u64 0, .int .u64 0]) ∧ Below w.heap.size w w' := by
  obtain ⟨W, hW⟩ : ∃ W, w.alloc (.cells #[.int .u64 0, .int .u64 0] 172) = W := ⟨_, rfl⟩
  have hB : Below w.heap.size w W := by rw [← hW]; exact (Below.refl _ _).alloc (Nat.le_refl _) _
  have hr : RowBlk 172 W w.heap.size [.int .u64 0, .int .u64 0] := by rw [← hW]; exact RowBlk.new _ _ _
  have hcp : ∀ ty, (Builtin.copy_ #[27, 27] ty #[.slice (some ⟨w.heap.size, 0, none⟩) 2 2, .slice none 0 0]).run Try.prog W = .ok (goInt 0) W := fun ty => by
    rw [run_copy_none _ _ _ ty 37 _ _ _ _ _ _ Try.underlying27 infoU1 (by simp)]
  have c0 := hr.cell (i := 0) rfl
  have c1 := hr.cell (i := 1) rfl
  have HB := Lib.hid hB
  clear hr hB
  go_enter Try.func83, Try.ntmps83
  go_wp2_with fail
  go_quiet (fail)
  go_wp2_with fail
  go_ret3
  exact ⟨rfl, below_drewN HB.out _⟩
set_option maxRecDepth 100000 in
theorem ad_together2 (x y z h : Nat) (w : World) (hh : RowBlk 37 w h [.int .u64 (y : Int), .int .u64 (z : Int)]) : Calls Try.prog 83 #[.int .u64 (x : Int), .slice (some ⟨h, 0, none⟩) 2 2] w fun e w' => e = .returned (.tuple #[.int .u64 (x : Int), .int .u64 (y : Int), .int .u64 (z : Int)]) ∧ Below w.heap.size w w' := by
  obtain ⟨W, hW⟩ : ∃ W, w.alloc (.cells #[.int .u64 0, .int .u64 0] 172) = W := ⟨_, rfl⟩
  have hB : Below w.heap.size w W := by rw [← hW]; exact (Below.refl _ _).alloc (Nat.le_refl _) _
  have hr : W.heap[w.heap.size]? = some (.cells #[.int .u64 0, .int .u64 0] 172 (0, 0)) := by rw [← hW]; exact heap_alloc_new w _
  have hhW : RowBlk 37 W h [.int .u64 (y : Int), .int .u64 (z : Int)] := by rw [← hW]; exact hh.alloc _
  have hcp : ∀ ty, (Builtin.copy_ #[27, 27] ty #[.slice (some ⟨w.heap.size, 0, none⟩) 2 2, .slice (some ⟨h, 0, none⟩) 2 2]).run Try.prog W = .ok (goInt 2) (W.setRow w.heap.size #[.int .u64 (y : Int), .int .u64 (z : Int)]) := fun ty => by
    rw [run_copy_row _ _ _ _ ty 37 w.heap.size 0 2 2 ⟨h, 0, none⟩ 2 2 _ _ [.int .u64 (y : Int), .int .u64 (z : Int)] Try.underlying27 infoU1 hr rfl (fun j v hv => by
        have e2 : (⟨h, 0, none⟩ : Addr).add j = ⟨h, j, none⟩ := by rw [addr_add _ j h 0 rfl, Nat.zero_add]
        rw [e2]
        exact hhW.cell hv) (by simp) (fun v hv => by
          rcases List.mem_cons.1 hv with rfl | hv
          · rfl
          · rw [List.mem_singleton] at hv; subst hv; rfl)]
    rfl
  have hr2 : RowBlk 172 (W.setRow w.heap.size #[.int .u64 (y : Int), .int .u64 (z : Int)]) w.heap.size [.int .u64 (y : Int), .int .u64 (z : Int)] := setRow_heap _ _ _ _ _ _ hr
  have hB2 : Below w.heap.size w (W.setRow w.heap.size #[.int .u64 (y : Int), .int .u64 (z : Int)]) := ⟨hB.os, hB.tape, hB.output, by simpa using hB.size, fun k hk => (setRow_other _ _ _ _ (by omega)).trans (hB.block k hk)⟩
  generalize W.setRow w.heap.size #[.int .u64 (y : Int), .int .u64 (z : Int)] = W2 at hcp hr2 hB2
  have c0 := hr2.cell (i := 0) rfl
  have c1 := hr2.cell (i := 1) rfl
  have HB := Lib.hid hB2
  clear hr hB hr2 hB2 hhW hh
  go_enter Try.func83, Try.ntmps83
  go_wp2_with fail
  go_quiet (fail)
  go_wp2_with fail
  go_ret3
  exact ⟨rfl, below_drewN HB.out _⟩
/-- the first odd one's place -/
def idxO : List Nat → Nat → Int
  | [], _ => -1
  | x :: l, i => if oddB x = true then i else idxO l (i + 1)
theorem idxO_drop {l : List Nat} {j x : Nat} (h : l[j]? = some x) : idxO (l.drop j) j = if oddB x = true then (j : Int) else idxO (l.drop (j + 1)) (j + 1) := by
  have hl := (List.getElem?_eq_some_iff.1 h).1
  rw [List.drop_eq_getElem_cons hl]
  rw [List.getElem?_eq_getElem hl, Option.some.injEq] at h
  rw [h]; rfl
theorem idxO_none : ∀ (l : List Nat) (i : Nat), l.find? oddB = none → idxO l i = -1
  | [], _, _ => rfl
  | x :: l, i, h => by
    rw [List.find?_cons] at h
    cases hx : oddB x with
    | true => rw [hx] at h; cases h
    | false => rw [hx] at h; unfold idxO; rw [hx, if_neg (by decide)]; exact idxO_none l (i + 1) h
theorem idxO_some : ∀ (l : List Nat) (i m : Nat), l.find? oddB = some m → ∃ j : Nat, idxO l i = ((i + j : Nat) : Int) ∧ l[j]? = some m
  | [], _, _, h => by cases h
  | x :: l, i, m, h => by
    rw [List.find?_cons] at h
    cases hx : oddB x with
    | true =>
      rw [hx] at h; cases h
      exact ⟨0, by unfold idxO; rw [hx, if_pos rfl]; rfl, rfl⟩
    | false =>
      rw [hx] at h
      obtain ⟨j, h1, h2⟩ := idxO_some l (i + 1) m h
      exact ⟨j + 1, by unfold idxO; rw [hx, if_neg (by decide), h1]; congr 1; omega, by simpa using h2⟩
/-- numbers as they lie -/
def WordsAt (w : World) (b : Nat) (l : List Nat) : Prop := ∀ (i x : Nat), l[i]? = some x → w.cell? ⟨b, i, none⟩ = some (.int .u64 (x : Int))
theorem WordsAt.below {w W : World} {b : Nat} {l : List Nat} (h : WordsAt w b l) (hb : Below w.heap.size w W) : WordsAt W b l := fun i x hx => by
  have h1 := h i x hx
  exact (hb.cell (p := ⟨b, i, none⟩) (World.block_lt_of_cell? w ⟨b, i, none⟩ h1)).trans h1
set_option maxRecDepth 100000 in
set_option maxHeartbeats 1000000 in
theorem ad_index (b cap : Nat) (l : List Nat) (w : World) (hc : WordsAt w b l) (hl : l.length ≤ 100000) (hB : ∀ x ∈ l, x < 18446744073709551616) :
    Calls Try.prog 81 #[.slice (some ⟨b, 0, none⟩) l.length cap, .func (.func 82) #[] #[]] w fun e w' => e = .returned (.int .i64 (idxO l 0)) ∧ Below w.heap.size w w' := by
  have hen : ∀ (args : Array Value) (w : World), (callFunc 82 args).run Try.prog w = .ok (.enter 82 args) w := fun _ _ => by kernel_rfl
  have HC := Lib.hid hc
  have HBD := Lib.hid hB
  obtain ⟨R, hR⟩ : ∃ R : Int, idxO l 0 = R := ⟨_, rfl⟩
  have HR : Hid (idxO (l.drop 0) 0 = R) := Lib.hid hR
  rw [hR]
  clear hc hR hB
  go_enter Try.func81, Try.ntmps81
  go_wp2
  go_loopw [8] (fun k wr => ∃ (j : Nat), j ≤ l.length ∧ k = .int .i64 j ∧ Hid (idxO (l.drop j) j = R) ∧ Below w.heap.size w wr) (fun k _ => l.length - (intOf k).toNat)
  case atStart => exact ⟨0, Nat.zero_le _, rfl, HR, Below.refl _ _⟩
  case round =>
    obtain ⟨j, hj, rfl, hq, hbl⟩ := hrel
    have HBL := Lib.hid hbl
    by_cases hlt : j < l.length
    · obtain ⟨y, hy⟩ : ∃ y, l[j]? = some y := ⟨l[j], List.getElem?_eq_getElem hlt⟩
      have cy : wr.cell? ⟨b, j, none⟩ = some (.int .u64 (y : Int)) := (HC.out.below hbl) j y hy
      have HD := Lib.hid (idxO_drop hy)
      have HO := Lib.hid (ad_isOdd y (HBD.out y (List.mem_of_getElem? hy)) wr)
      have i1 : (j : Int) < (l.length : Int) := by omega
      obtain ⟨gy, hgy⟩ : ∃ gy, oddB y = gy := ⟨_, rfl⟩
      rw [hgy] at HO HD
      clear hy hgy hbl
      cases gy with
      | true =>
        have HN : Hid ((j : Int) = R) := Lib.hid (by rw [← hq.out, HD.out, if_pos rfl])
        clear hq HD
        go_wp2_with (refine HO.out.mono ?_; rintro e w1 ⟨rfl, rfl⟩)
        go_ret
        exact ⟨by rw [← HN.out]; rfl, HBL.out⟩
      | false =>
        have HN : Hid (idxO (l.drop (j + 1)) (j + 1) = R) := Lib.hid (by rw [← hq.out, HD.out, if_neg (by decide)])
        clear hq HD
        go_wp2_with (refine HO.out.mono ?_; rintro e w1 ⟨rfl, rfl⟩)
        go_roundw
        case rel => exact ⟨j + 1, by omega, by go_num, HN, HBL.out⟩
        case measure => simp [intOf]; omega
    · have : j = l.length := by omega
      subst this
      have HN : Hid (-1 = R) := Lib.hid (by rw [← hq.out, List.drop_length]; rfl)
      clear hq
      go_wp2
      go_ret
      exact ⟨by rw [← HN.out]; rfl, HBL.out⟩
theorem countP_snoc {α : Type} (f : α → Bool) {l : List α} {j : Nat} {y : α} (h : l[j]? = some y) : (l.take (j + 1)).countP f = (l.take j).countP f + (if f y = true then 1 else 0) := by
  rw [take_snoc h, List.countP_append, List.countP_singleton]
/-- what examine tells -/
def adEx (l : List Nat) : Nat × Nat × Nat := match l.find? oddB with
  | none => (0, 0, 0)
  | some m => (l.countP oddB, m / 2, l.countP evenB)
set_option maxRecDepth 100000 in
set_option maxHeartbeats 2000000 in
theorem ad_examine (b cap : Nat) (l : List Nat) (w : World) (hc : WordsAt w b l) (hl : l.length ≤ 100000) (hB : ∀ x ∈ l, x < 18446744073709551616) :
    Calls Try.prog 78 #[.slice (some ⟨b, 0, none⟩) l.length cap] w fun e w' => e = .returned (.tuple #[.int .u64 ((adEx l).1 : Nat), .int .u64 ((adEx l).2.1 : Nat), .int .u64 ((adEx l).2.2 : Nat)]) ∧ Below w.heap.size w w' := by
  have HI := Lib.hid (ad_index b cap l w hc hl hB)
  have HC := Lib.hid hc
  have HBD := Lib.hid hB
  clear hc hB
  unfold adEx
  cases hf : l.find? oddB with
  | none =>
    rw [idxO_none l 0 hf] at HI
    simp only
    clear hf
    go_enter Try.func78, Try.ntmps78
    go_wp2_with fail
    refine HI.out.mono ?_
    rintro e w1 ⟨rfl, hb1⟩
    have HB1 := Lib.hid hb1
    clear hb1
    go_wp2_with fail
    refine (ad_together0 0 w1).mono ?_
    rintro e w2 ⟨rfl, hb2⟩
    have HB2 := Lib.hid (HB1.out.trans (hb2.mono HB1.out.size))
    clear hb2
    go_wp2_with fail
    go_ret3
    exact ⟨rfl, HB2.out⟩
  | some m =>
    obtain ⟨jm, h1, h2⟩ := idxO_some l 0 m hf
    rw [h1] at HI
    simp only
    have hjm := (List.getElem?_eq_some_iff.1 h2).1
    rw [Nat.zero_add] at HI
    have HM := Lib.hid h2
    have HMB := Lib.hid (HBD.out m (List.mem_of_getElem? h2))
    obtain ⟨co, hco⟩ : ∃ c, l.countP oddB = c := ⟨_, rfl⟩
    obtain ⟨ce, hce⟩ : ∃ c, l.countP evenB = c := ⟨_, rfl⟩
    have hco' : (l.take l.length).countP oddB = co := by rw [List.take_length]; exact hco
    have hce' : (l.take l.length).countP evenB = ce := by rw [List.take_length]; exact hce
    have HNU := Lib.hid (ad_numberIn m HMB.out)
    obtain ⟨h, hh⟩ : ∃ h, m / 2 = h := ⟨_, rfl⟩
    rw [hh] at HNU ⊢
    clear hh
    rw [hco, hce]
    have HCO := Lib.hid hco'
    have HCE := Lib.hid hce'
    have nj : ¬ (jm : Int) < 0 := by omega
    have nj0 : (0 : Int) ≤ (jm : Int) := by omega
    have nj1 : (jm : Int) < (l.length : Int) := by omega
    clear hf h1 h2 hco hce hco' hce'
    go_enter Try.func78, Try.ntmps78
    go_wp2_with fail
    refine HI.out.mono ?_
    rintro e w1 ⟨rfl, hb1⟩
    have HB1 := Lib.hid hb1
    have HC1 := Lib.hid (HC.out.below hb1)
    clear hb1
    go_wp2_with fail
    go_loopw [2, 4, 18] (fun ov ev k wr => ∃ (j : Nat), j ≤ l.length ∧ k = .int .i64 j ∧ ov = .int .u64 (((l.take j).countP oddB : Nat) : Int) ∧ ev = .int .u64 (((l.take j).countP evenB : Nat) : Int) ∧ wr = w1) (fun _ _ k _ => l.length - (intOf k).toNat)
    case atStart => exact ⟨0, Nat.zero_le _, rfl, rfl, rfl, rfl⟩
    case round =>
      obtain ⟨j, hj, rfl, rfl, rfl, rfl⟩ := hrel
      have hlo : (l.take j).countP oddB ≤ 100000 := Nat.le_trans List.countP_le_length (by rw [List.length_take]; omega)
      have hle : (l.take j).countP evenB ≤ 100000 := Nat.le_trans List.countP_le_length (by rw [List.length_take]; omega)
      by_cases hlt : j < l.length
      · obtain ⟨y, hy⟩ : ∃ y, l[j]? = some y := ⟨l[j], List.getElem?_eq_getElem hlt⟩
        have cy : wr.cell? ⟨b, j, none⟩ = some (.int .u64 (y : Int)) := HC1.out j y hy
        have ho := countP_snoc oddB hy
        have he := countP_snoc evenB hy
        have HO := Lib.hid (ad_isOdd y (HBD.out y (List.mem_of_getElem? hy)) wr)
        have i1 : (j : Int) < (l.length : Int) := by omega
        have hev : evenB y = decide (y ≠ 0 ∧ y % 2 ≠ 1) := rfl
        have hod : oddB y = decide (y % 2 = 1) := rfl
        generalize (l.take j).countP oddB = a1 at *
        generalize (l.take j).countP evenB = a2 at *
        by_cases hodd : y % 2 = 1
        · rw [decide_eq_true hodd] at hod
          rw [decide_eq_false (fun h => h.2 hodd)] at hev
          rw [hod, if_pos rfl] at ho
          rw [hev, if_neg (by decide)] at he
          rw [hod] at HO
          have HX := Lib.hid ho
          have HY := Lib.hid he
          clear hy hev hod hodd ho he
          go_wp2_with (refine HO.out.mono ?_; rintro e w1 ⟨rfl, rfl⟩)
          go_roundw
          case rel => exact ⟨j + 1, by omega, by go_num, by rw [HX.out]; go_num, by rw [HY.out, Nat.add_zero], trivial⟩
          case measure => simp [intOf]; omega
        · rw [decide_eq_false hodd] at hod
          rw [hod, if_neg (by decide)] at ho
          rw [hod] at HO
          by_cases hy0 : y = 0
          · subst hy0
            rw [decide_eq_false (fun h => h.1 rfl)] at hev
            rw [hev, if_neg (by decide)] at he
            have HX := Lib.hid ho
            have HY := Lib.hid he
            have cy' : wr.cell? ⟨b, j, none⟩ = some (.int .u64 0) := cy
            clear hy hev hod hodd ho he cy
            go_wp2_with (refine HO.out.mono ?_; rintro e w1 ⟨rfl, rfl⟩)
            go_roundw
            case rel => exact ⟨j + 1, by omega, by go_num, by rw [HX.out, Nat.add_zero], by rw [HY.out, Nat.add_zero], trivial⟩
            case measure => simp [intOf]; omega
          · rw [decide_eq_true ⟨hy0, hodd⟩] at hev
            rw [hev, if_pos rfl] at he
            have HX := Lib.hid ho
            have HY := Lib.hid he
            have y1 : ¬ (y : Int) = 0 := by omega
            have y2 : ((y : Int) == 0) = false := by rw [beq_eq_false_iff_ne]; exact y1
            have y3 : ((y : Int) != 0) = true := by rw [bne_iff_ne]; exact y1
            clear hy hev hod hodd ho he hy0
            go_wp2_with (refine HO.out.mono ?_; rintro e w1 ⟨rfl, rfl⟩)
            go_roundw
            case rel => exact ⟨j + 1, by omega, by go_num, by rw [HX.out, Nat.add_zero], by rw [HY.out]; go_num, trivial⟩
            case measure => simp [intOf]; omega
      · obtain rfl : j = l.length := by omega
        have i1 : ¬ (l.length : Int) < (l.length : Int) := by omega
        rw [HCO.out, HCE.out]
        have cm : wr.cell? ⟨b, jm, none⟩ = some (.int .u64 (m : Int)) := HC1.out jm m HM.out
        clear hlo hle
        go_wp2_with fail
        refine (HNU.out wr).mono ?_
        rintro e w2 ⟨rfl, rfl⟩
        go_wp2_with fail
        refine (ad_together2 co h ce wr.heap.size _ (RowBlk.new wr [.int .u64 (h : Int), .int .u64 (ce : Int)] 37)).mono ?_
        rintro e w3 ⟨rfl, hb3⟩
        have HB3 := Lib.hid (HB1.out.trans (((Below.refl _ _).alloc (Nat.le_refl _) (.cells [.int .u64 (h : Int), .int .u64 (ce : Int)].toArray 37)).trans (hb3.mono (by simp)) |>.mono HB1.out.size))
        clear hb3
        go_wp2_with fail
        go_ret3
        exact ⟨rfl, HB3.out⟩
/-- a proposal as it lies -/
def AdVs (n bo th num stp : Nat) (oth : Bool) (sv : Value) : List Value := [.int .i64 (n : Int), .int .i64 0, .int .i64 (n : Int), .slice (some ⟨bo, 0, none⟩) n n, .int .i64 (th : Int), .int .u64 (num : Int), .int .i64 (stp : Int), .bool oth, sv]
theorem adEx_none {l : List Nat} (h : l.find? oddB = none) : adEx l = (0, 0, 0) := by unfold adEx; rw [h]
theorem adEx_some {l : List Nat} {m : Nat} (h : l.find? oddB = some m) : (adEx l).1 ≠ 0 ∧ (adEx l).2.1 = m / 2 ∧ ((adEx l).2.2 = 0 ↔ l.any evenB = false) := by
  unfold adEx
  rw [h]
  refine ⟨?_, rfl, ?_⟩
  · show l.countP oddB ≠ 0
    have : 0 < l.countP oddB := List.countP_pos_iff.2 ⟨m, List.mem_of_find?_eq_some h, List.find?_some h⟩
    omega
  · show l.countP evenB = 0 ↔ _
    rw [List.countP_eq_zero, List.any_eq_false]
set_option maxRecDepth 100000 in
set_option maxHeartbeats 2000000 in
theorem ad_result (n bo g th num stp : Nat) (oth : Bool) (gl cap : Nat) (l : List Nat) (w : World) (hg : RowBlk 163 w g (AdVs n bo th num stp oth (.slice (some ⟨gl, 0, none⟩) l.length cap))) (hc : WordsAt w gl l) (hl : l.length ≤ 100000) (hn : 1 ≤ num ∧ num < 4294967296) (hB : ∀ x ∈ l, x < 8589934592 ∧ (x % 2 = 1 → 2 ≤ x)) :
    Calls Try.prog 76 #[.pointer (some ⟨g, 0, none⟩)] w fun e w' => e = .returned (.int .u64 ((adRes num l : Nat) : Int)) ∧ Below w.heap.size w w' := by
  have HX := Lib.hid (ad_examine gl cap l w hc hl (fun x hx => by have := (hB x hx).1; omega))
  have c5 : w.cell? ⟨g, 5, none⟩ = some (.int .u64 (num : Int)) := hg.cell rfl
  have c8 : w.cell? ⟨g, 8, none⟩ = some (.slice (some ⟨gl, 0, none⟩) l.length cap) := hg.cell rfl
  have HG := Lib.hid hg
  have hgl := hg.lt
  unfold adRes
  cases hf : l.find? oddB with
  | none =>
    rw [adEx_none hf] at HX
    simp only
    have HR := Lib.hid (ad_resultOf num false hn.1 hn.2)
    simp only [Bool.false_eq_true, if_false, Nat.add_zero] at HR
    generalize 2 * (num - 1) = y at HR ⊢
    clear hf hg
    go_enter Try.func76, Try.ntmps76
    go_wp2_with fail
    refine HX.out.mono ?_
    rintro e w1 ⟨rfl, hb1⟩
    have d5 : w1.cell? ⟨g, 5, none⟩ = some (.int .u64 (num : Int)) := (HG.out.same (hb1.block _ hgl)).cell rfl
    have HB1 := Lib.hid hb1
    clear hb1
    go_wp2_with fail
    refine (HR.out _).mono ?_
    rintro e w2 ⟨rfl, rfl⟩
    go_wp2_with fail
    go_ret
    exact ⟨rfl, HB1.out⟩
  | some m =>
    obtain ⟨x1, x2, x3⟩ := adEx_some hf
    obtain ⟨o1, j, o2⟩ := adFind_some hf
    have hmB := hB m (List.mem_of_getElem? o2)
    have hm1 : 1 ≤ m / 2 := by have := hmB.2 o1; omega
    have hm2 : m / 2 < 4294967296 := by have := hmB.1; omega
    simp only
    generalize (adEx l).1 = a1 at *
    generalize (adEx l).2.2 = a3 at *
    rw [x2] at HX
    generalize m / 2 = h at *
    obtain ⟨b, hb⟩ : ∃ b, l.any evenB = b := ⟨_, rfl⟩
    rw [hb] at x3 ⊢
    have hd : decide (a3 = 0) = !b := by cases b <;> simp_all
    have HR := Lib.hid (ad_resultOf h (!b) hm1 hm2)
    have hz : (2 * (h - 1) + if (!b) = true then 1 else 0) = 2 * (h - 1) + if b = true then 0 else 1 := by cases b <;> rfl
    rw [hz] at HR
    generalize (2 * (h - 1) + if b = true then 0 else 1) = y at HR ⊢
    have e1 : ¬ (a1 : Int) = 0 := by omega
    have e2 : ((a1 : Int) == 0) = false := by rw [beq_eq_false_iff_ne]; exact e1
    obtain ⟨d, hdd⟩ : ∃ d, (!b) = d := ⟨_, rfl⟩
    rw [hdd] at HR hd
    have e3 : ((a3 : Int) == 0) = d := by rw [← hd, Bool.eq_iff_iff, beq_iff_eq, decide_eq_true_eq]; omega
    have e4 : decide ((a3 : Int) = 0) = d := by rw [← hd]; congr 1; simp only [eq_iff_iff]; omega
    clear hf hg hb x1 x2 x3 o1 o2 hmB hd hz hdd hm1 hm2
    go_enter Try.func76, Try.ntmps76
    go_wp2_with fail
    refine HX.out.mono ?_
    rintro e w1 ⟨rfl, hb1⟩
    have HB1 := Lib.hid hb1
    clear hb1
    go_wp2_with fail
    refine (HR.out _).mono ?_
    rintro e w2 ⟨rfl, rfl⟩
    go_wp2_with fail
    go_ret
    exact ⟨rfl, HB1.out⟩
end Go.Proofs.Ytglpalomhhhmhaa
