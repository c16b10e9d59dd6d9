/- Lists that are alike, or not; answers; room in a queue. -/
import Derived.Test.YtmocjpcnohnfpaaGreatJC
namespace Go.Proofs.YtmocjpcnohnfpaaGreat
open Go.ChangeShapes Go.WideShapes Go.ChangeAt Go.RowKit
set_option linter.unusedVariables false
set_option linter.unusedSimpArgs false
set_option maxRecDepth 100000

theorem take_all_eq {l1 l2 : List Nat} (hl : l1.length = l2.length) (h : l1.take l1.length = l2.take l1.length) : l1 = l2 := by
  rw [List.take_length, hl, List.take_length] at h; exact h
theorem take_ne {l1 l2 : List Nat} {j x y : Nat} (h1 : l1[j]? = some x) (h2 : l2[j]? = some y) (h : x ≠ y) : l1 ≠ l2 := by
  intro e; subst e; rw [h1] at h2; cases h2; exact h rfl

set_option maxHeartbeats 1000000 in
theorem same_any (v1 v2 : Value) (l1 l2 : List Nat) (w : World) (hl1 : l1.length ≤ 4611686018427387904) (hl2 : l2.length ≤ 4611686018427387904) (h1 : ArgW w v1 l1) (h2 : ArgW w v2 l2) :
    Calls Tryz.prog 10 #[v1, v2] w fun e w' => e = .returned (.bool (decide (l1 = l2))) ∧ ∃ m, w' = w.drewN m := by
  obtain ⟨ao1, b1, o1, c1, rfl, ha1, hn1, hc1⟩ := h1
  obtain ⟨ao2, b2, o2, c2, rfl, ha2, hn2, hc2⟩ := h2
  by_cases hle : l1.length = l2.length
  · unfold wU at hc1 hc2
    have HA1 := Lib.hid ha1
    have HA2 := Lib.hid ha2
    have HC1 := Lib.hid hc1
    have HC2 := Lib.hid hc2
    have HT := Lib.hid (take_all_eq hle)
    have HLE := Lib.hid hle
    clear ha1 ha2 hc1 hc2 hn1 hn2
    rw [← hle] at hl2 HA2 ⊢
    clear hle
    go_enter Tryz.func10, Tryz.ntmps10
    go_wp2
    go_loopw [13] (fun k wr => ∃ j m : Nat, j ≤ l1.length ∧ k = .int .i64 j ∧ Hid (l1.take j = l2.take j) ∧ wr = w.drewN m) (fun k _ => l1.length - (intOf k).toNat)
    case atStart => exact ⟨0, 0, Nat.zero_le _, rfl, Lib.hid (by simp), rfl⟩
    case round =>
      obtain ⟨j, m, hj, rfl, hp, rfl⟩ := hrel
      by_cases hlt : j < l1.length
      · obtain rfl := HA1.out (by omega)
        obtain rfl := HA2.out (by omega)
        obtain ⟨x, hx⟩ : ∃ x, l1[j]? = some x := ⟨l1[j], List.getElem?_eq_getElem hlt⟩
        obtain ⟨y, hy⟩ : ∃ y, l2[j]? = some y := ⟨l2[j]'(by rw [← HLE.out]; exact hlt), List.getElem?_eq_getElem _⟩
        have d1 := HC1.out j x hx
        have d2 := HC2.out j y hy
        by_cases hxy : x = y
        · subst hxy
          have HN : Hid (l1.take (j + 1) = l2.take (j + 1)) := Lib.hid (by rw [take_snoc hx, take_snoc hy, hp.out])
          clear hx hy
          go_wp2_with fail
          go_quiet (fail)
          go_wp2
          go_roundw
          case rel => exact ⟨j + 1, _, by omega, by go_num, HN, rfl⟩
          case measure => simp [intOf]; omega
        · have HR : Hid (decide (l1 = l2) = false) := Lib.hid (decide_eq_false (take_ne hx hy hxy))
          have hd : decide ((x : Int) = (y : Int)) = false := decide_eq_false (by omega)
          have hd2 : ((x : Int) == (y : Int)) = false := by rw [beq_eq_false_iff_ne]; omega
          clear hx hy
          go_wp2_with fail
          go_quiet (fail)
          go_wp2
          go_ret
          exact ⟨ret_bool HR.out.symm, _, by rw [World.drewN_drewN]⟩
      · have : j = l1.length := by omega
        subst this
        have HR : Hid (decide (l1 = l2) = true) := Lib.hid (decide_eq_true (HT.out hp.out))
        go_wp2
        go_ret
        exact ⟨ret_bool HR.out.symm, _, rfl⟩
  · have HR : Hid (decide (l1 = l2) = false) := Lib.hid (decide_eq_false (fun e => hle (by rw [e])))
    have hd : ((l1.length : Int) == (l2.length : Int)) = false := by rw [beq_eq_false_iff_ne]; omega
    have hd2 : decide ((l1.length : Int) = (l2.length : Int)) = false := decide_eq_false (by omega)
    clear hle ha1 ha2 hc1 hc2
    go_enter Tryz.func10, Tryz.ntmps10
    go_wp2
    go_ret
    exact ⟨ret_bool HR.out.symm, 0, rfl⟩

set_option maxHeartbeats 1000000 in
theorem equal_any (v1 v2 : Value) (l1 l2 : List Nat) (w : World) (hl1 : l1.length ≤ 4611686018427387904) (hl2 : l2.length ≤ 4611686018427387904) (h1 : ArgW w v1 l1) (h2 : ArgW w v2 l2) :
    Calls Tryz.prog 116 #[v1, v2] w fun e w' => e = .returned (.bool (decide (l1 = l2))) ∧ ∃ m, w' = w.drewN m := by
  obtain ⟨ao1, b1, o1, c1, rfl, ha1, hn1, hc1⟩ := h1
  obtain ⟨ao2, b2, o2, c2, rfl, ha2, hn2, hc2⟩ := h2
  by_cases hle : l1.length = l2.length
  · unfold wU at hc1 hc2
    have HA1 := Lib.hid ha1
    have HA2 := Lib.hid ha2
    have HC1 := Lib.hid hc1
    have HC2 := Lib.hid hc2
    have HT := Lib.hid (take_all_eq hle)
    have HLE := Lib.hid hle
    clear ha1 ha2 hc1 hc2 hn1 hn2
    rw [← hle] at hl2 HA2 ⊢
    clear hle
    go_enter Tryz.func116, Tryz.ntmps116
    go_wp2
    go_loopw [13] (fun k wr => ∃ j m : Nat, j ≤ l1.length ∧ k = .int .i64 j ∧ Hid (l1.take j = l2.take j) ∧ wr = w.drewN m) (fun k _ => l1.length - (intOf k).toNat)
    case atStart => exact ⟨0, 0, Nat.zero_le _, rfl, Lib.hid (by simp), rfl⟩
    case round =>
      obtain ⟨j, m, hj, rfl, hp, rfl⟩ := hrel
      by_cases hlt : j < l1.length
      · obtain rfl := HA1.out (by omega)
        obtain rfl := HA2.out (by omega)
        obtain ⟨x, hx⟩ : ∃ x, l1[j]? = some x := ⟨l1[j], List.getElem?_eq_getElem hlt⟩
        obtain ⟨y, hy⟩ : ∃ y, l2[j]? = some y := ⟨l2[j]'(by rw [← HLE.out]; exact hlt), List.getElem?_eq_getElem _⟩
        have d1 := HC1.out j x hx
        have d2 := HC2.out j y hy
        by_cases hxy : x = y
        · subst hxy
          have HN : Hid (l1.take (j + 1) = l2.take (j + 1)) := Lib.hid (by rw [take_snoc hx, take_snoc hy, hp.out])
          clear hx hy
          go_wp2_with fail
          go_quiet (fail)
          go_wp2
          go_roundw
          case rel => exact ⟨j + 1, _, by omega, by go_num, HN, rfl⟩
          case measure => simp [intOf]; omega
        · have HR : Hid (decide (l1 = l2) = false) := Lib.hid (decide_eq_false (take_ne hx hy hxy))
          have hd : decide ((x : Int) = (y : Int)) = false := decide_eq_false (by omega)
          have hd2 : ((x : Int) == (y : Int)) = false := by rw [beq_eq_false_iff_ne]; omega
          clear hx hy
          go_wp2_with fail
          go_quiet (fail)
          go_wp2
          go_ret
          exact ⟨ret_bool HR.out.symm, _, by rw [World.drewN_drewN]⟩
      · have : j = l1.length := by omega
        subst this
        have HR : Hid (decide (l1 = l2) = true) := Lib.hid (decide_eq_true (HT.out hp.out))
        go_wp2
        go_ret
        exact ⟨ret_bool HR.out.symm, _, rfl⟩
  · have HR : Hid (decide (l1 = l2) = false) := Lib.hid (decide_eq_false (fun e => hle (by rw [e])))
    have hd : ((l1.length : Int) == (l2.length : Int)) = false := by rw [beq_eq_false_iff_ne]; omega
    have hd2 : decide ((l1.length : Int) = (l2.length : Int)) = false := decide_eq_false (by omega)
    clear hle ha1 ha2 hc1 hc2
    go_enter Tryz.func116, Tryz.ntmps116
    go_wp2
    go_ret
    exact ⟨ret_bool HR.out.symm, 0, rfl⟩

abbrev ansV (er val : Int) (lv : Value) : Value := .agg #[.int .i64 er, .int .u64 val, lv]
abbrev ansC (er val : Int) (lv : Value) : Obj := .cells #[.int .i64 er, .int .u64 val, lv] 63
/-- are two answers alike -/
def ansEq (e1 : Int) (v1 : Nat) (l1 : List Nat) (e2 : Int) (v2 : Nat) (l2 : List Nat) : Bool := decide (e1 = e2) && (decide (v1 = v2) && decide (l1 = l2))
set_option maxHeartbeats 1000000 in
theorem isSame_any (e1 e2 : Int) (a1 a2 : Nat) (v1 v2 : Value) (l1 l2 : List Nat) (w : World) (hl1 : l1.length ≤ 4611686018427387904) (hl2 : l2.length ≤ 4611686018427387904) (h1 : ArgW w v1 l1) (h2 : ArgW w v2 l2) :
    Calls Tryz.prog 59 #[ansV e1 a1 v1, ansV e2 a2 v2] w fun e w' => e = .returned (.bool (ansEq e1 a1 l1 e2 a2 l2)) ∧ Below w.heap.size w w' := by
  have HE : Hid (Calls Tryz.prog 116 #[v1, v2] ((w.alloc (ansC e1 a1 v1)).alloc (ansC e2 a2 v2)) fun e w' => e = .returned (.bool (decide (l1 = l2))) ∧ ∃ m, w' = ((w.alloc (ansC e1 a1 v1)).alloc (ansC e2 a2 v2)).drewN m) :=
    Lib.hid (equal_any v1 v2 l1 l2 _ hl1 hl2 ((h1.alloc _).alloc _) ((h2.alloc _).alloc _))
  obtain ⟨ao1, c1, rfl⟩ := h1.isSlice
  obtain ⟨ao2, c2, rfl⟩ := h2.isSlice
  have HB : Hid (Below w.heap.size w ((w.alloc (ansC e1 a1 (.slice ao1 l1.length c1))).alloc (ansC e2 a2 (.slice ao2 l2.length c2)))) := Lib.hid (((Below.refl _ _).alloc (Nat.le_refl _) _).alloc (by simp) _)
  clear h1 h2
  unfold ansEq
  generalize decide (l1 = l2) = d3 at *
  by_cases he : e1 = e2
  · subst he
    rw [decide_eq_true rfl]
    by_cases hv : a1 = a2
    · subst hv
      rw [decide_eq_true rfl]
      go_enter Tryz.func59, Tryz.ntmps59
      go_wp2_with (go_at_call 116; refine HE.out.mono ?_; rintro e w5 ⟨rfl, m, rfl⟩)
      go_ret
      exact ⟨ret_bool (by cases d3 <;> rfl), below_drewN HB.out _⟩
    · rw [decide_eq_false hv]
      have hd2 : ((a1 : Int) == (a2 : Int)) = false := by rw [beq_eq_false_iff_ne]; omega
      have hd3 : decide ((a1 : Int) = (a2 : Int)) = false := decide_eq_false (by omega)
      go_enter Tryz.func59, Tryz.ntmps59
      go_wp2_with fail
      go_ret
      exact ⟨rfl, HB.out⟩
  · rw [decide_eq_false he]
    have hd2 : (e1 == e2) = false := by rw [beq_eq_false_iff_ne]; exact he
    go_enter Tryz.func59, Tryz.ntmps59
    go_wp2_with fail
    go_ret
    exact ⟨rfl, HB.out⟩

/-- how many values of a queue a thread put there -/
def mdOwn (t : Nat) : List Nat → Nat
  | x :: _ :: r => (if x = t then 1 else 0) + mdOwn t r
  | _ => 0
theorem mdOwn_le (t : Nat) : ∀ m : List Nat, mdOwn t m ≤ m.length
  | x :: _ :: r => by unfold mdOwn; have := mdOwn_le t r; simp only [List.length_cons]; split <;> omega
  | [x] => by simp [mdOwn]
  | [] => by simp [mdOwn]
theorem mdOwn_step {t j x : Nat} {m : List Nat} (hx : m[j]? = some x) (hj : j + 1 < m.length) : mdOwn t (m.drop j) = (if x = t then 1 else 0) + mdOwn t (m.drop (j + 2)) := by
  obtain ⟨y, hy⟩ : ∃ y, m[j + 1]? = some y := ⟨m[j + 1], List.getElem?_eq_getElem hj⟩
  have e1 : m.drop j = x :: m.drop (j + 1) := by
    have h := (List.getElem?_eq_some_iff.1 hx)
    obtain ⟨h1, h2⟩ := h
    rw [← h2]; exact List.drop_eq_getElem_cons h1
  have e2 : m.drop (j + 1) = y :: m.drop (j + 2) := by
    have h := (List.getElem?_eq_some_iff.1 hy)
    obtain ⟨h1, h2⟩ := h
    rw [← h2]; exact List.drop_eq_getElem_cons h1
  rw [e1, e2]; rfl
/-- may a queue be full for a thread -/
def mdLack (n p : Int) (m : List Nat) (t : Nat) : Bool := decide (p - n - 1 ≤ (mdOwn t m : Int))
set_option maxHeartbeats 1000000 in
theorem lack_not (n k p q : Int) (t ob kd a b c : Int) (v : Value) (m : List Nat) (w : World) (h1 : ArgW w v m) (h : k ≠ 8 ∨ kd ≠ 0) :
    Calls Tryz.prog 60 #[.int .i64 n, Tb.specV k p q, v, callV t ob kd a b c] w fun e w' => e = .returned (.bool false) ∧ Below w.heap.size w w' := by
  obtain ⟨ao1, c1, rfl⟩ := h1.isSlice
  have HB : Hid (Below w.heap.size w ((w.alloc (Tb.specO k p q)).alloc (callO t ob kd a b c))) := Lib.hid (((Below.refl _ _).alloc (Nat.le_refl _) _).alloc (by simp) _)
  clear h1
  unfold Tb.specV at *
  by_cases h8 : k = 8
  · have h0 : ¬ kd = 0 := by omega
    subst h8
    clear h
    go_enter Tryz.func60, Tryz.ntmps60
    go_wp2_with fail
    go_ret
    exact ⟨rfl, HB.out⟩
  · clear h
    go_enter Tryz.func60, Tryz.ntmps60
    go_wp2_with fail
    go_ret
    exact ⟨rfl, HB.out⟩

set_option maxHeartbeats 2000000 in
theorem lack_any (n p q : Int) (t : Nat) (ob a b c : Int) (v : Value) (m : List Nat) (w : World) (h1 : ArgW w v m) (hn : 1 ≤ n ∧ n ≤ 16) (hp : 1 ≤ p ∧ p ≤ 32) (ht : t < 16) (hl : m.length ≤ 4000000) (he : m.length % 2 = 0) :
    Calls Tryz.prog 60 #[.int .i64 n, Tb.specV 8 p q, v, callV (t : Int) ob 0 a b c] w fun e w' => e = .returned (.bool (mdLack n p m t)) ∧ Below w.heap.size w w' := by
  have hcb : ((w.alloc (Tb.specO 8 p q)).alloc (callO (t : Int) ob 0 a b c)).heap[w.heap.size + 1]? = some (callO (t : Int) ob 0 a b c) := by
    have := heap_alloc_new (w.alloc (Tb.specO 8 p q)) (callO (t : Int) ob 0 a b c)
    rw [World.size_alloc] at this; exact this
  have hsb : ((w.alloc (Tb.specO 8 p q)).alloc (callO (t : Int) ob 0 a b c)).heap[w.heap.size]? = some (Tb.specO 8 p q) := (Below.heap_alloc _ _ _ (by simp)).trans (heap_alloc_new _ _)
  have HB : Hid (Below w.heap.size w ((w.alloc (Tb.specO 8 p q)).alloc (callO (t : Int) ob 0 a b c))) := Lib.hid (((Below.refl _ _).alloc (Nat.le_refl _) _).alloc (by simp) _)
  have h1' := (h1.alloc (Tb.specO 8 p q)).alloc (callO (t : Int) ob 0 a b c)
  obtain ⟨ao, b1, o1, cap, rfl, ha1, hn1, hc1⟩ := h1'
  have c0 : ((w.alloc (Tb.specO 8 p q)).alloc (callO (t : Int) ob 0 a b c)).cell? ⟨w.heap.size + 1, 0, none⟩ = some (.int .i64 (t : Int)) := Tb.cell_of_blkT hcb rfl
  have s1 : ((w.alloc (Tb.specO 8 p q)).alloc (callO (t : Int) ob 0 a b c)).cell? ⟨w.heap.size, 1, none⟩ = some (.int .i64 p) := Tb.cell_of_blkT hsb rfl
  have s0 : ((w.alloc (Tb.specO 8 p q)).alloc (callO (t : Int) ob 0 a b c)).cell? ⟨w.heap.size, 0, none⟩ = some (.int .i64 8) := Tb.cell_of_blkT hsb rfl
  have c2 : ((w.alloc (Tb.specO 8 p q)).alloc (callO (t : Int) ob 0 a b c)).cell? ⟨w.heap.size + 1, 2, none⟩ = some (.int .i64 0) := Tb.cell_of_blkT hcb rfl
  unfold wU at hc1
  have HA := Lib.hid ha1
  have HC := Lib.hid hc1
  have HO := Lib.hid (mdOwn_le t)
  have hp1 := hp.1; have hp2 := hp.2; have hn1' := hn.1; have hn2' := hn.2
  unfold Tb.specV at *
  generalize hw0 : (w.alloc (Tb.specO 8 p q)).alloc (callO (t : Int) ob 0 a b c) = w0 at *
  unfold Tb.specO at hw0
  clear h1 ha1 hc1 hn1 hcb hsb hp hn
  go_enter Tryz.func60, Tryz.ntmps60
  go_wp2
  go_loopw [9, 10] (fun o i wr => ∃ j oc k : Nat, j ≤ m.length ∧ i = .int .i64 j ∧ o = .int .i64 oc ∧ j % 2 = 0 ∧ oc ≤ j ∧ Hid (oc + mdOwn t (m.drop j) = mdOwn t m) ∧ wr = w0.drewN k) (fun _ i _ => m.length - (intOf i).toNat)
  case atStart => exact ⟨0, 0, 0, Nat.zero_le _, rfl, rfl, rfl, Nat.le_refl _, Lib.hid (by simp), rfl⟩
  case round =>
    obtain ⟨j, oc, k, hj, rfl, rfl, hj2, hoj, hp, rfl⟩ := hrel
    by_cases hlt : j < m.length
    · obtain rfl := HA.out (by omega)
      obtain ⟨x, hx⟩ : ∃ x, m[j]? = some x := ⟨m[j], List.getElem?_eq_getElem hlt⟩
      have d1 := HC.out j x hx
      have HS := Lib.hid (mdOwn_step (t := t) hx (by omega))
      clear hx
      by_cases hxt : x = t
      · subst hxt
        have HN : Hid (oc + 1 + mdOwn x (m.drop (j + 2)) = mdOwn x m) := Lib.hid (by rw [← hp.out, HS.out, if_pos rfl]; omega)
        clear HS
        go_wp2_with fail
        go_quiet (fail)
        go_wp2
        go_roundw
        case rel => exact ⟨j + 2, oc + 1, _, by omega, by go_num, by go_num, by omega, by omega, HN, rfl⟩
        case measure => simp [intOf]; omega
      · have HN : Hid (oc + mdOwn t (m.drop (j + 2)) = mdOwn t m) := Lib.hid (by rw [← hp.out, HS.out, if_neg hxt]; omega)
        have hd2 : ((x : Int) == (t : Int)) = false := by rw [beq_eq_false_iff_ne]; omega
        have hd3 : decide ((x : Int) = (t : Int)) = false := decide_eq_false (by omega)
        clear HS
        go_wp2_with fail
        go_quiet (fail)
        go_wp2
        go_roundw
        case rel => exact ⟨j + 2, oc, _, by omega, by go_num, rfl, by omega, by omega, HN, rfl⟩
        case measure => simp [intOf]; omega
    · have : j = m.length := by omega
      subst this
      have HE : Hid (oc = mdOwn t m) := Lib.hid (by rw [← hp.out, List.drop_length]; rfl)
      have HR : Hid (mdLack n p m t = decide (p - n - 1 ≤ (oc : Int))) := Lib.hid (by unfold mdLack; rw [HE.out])
      go_wp2
      go_ret
      exact ⟨ret_bool HR.out.symm, below_drewN HB.out _⟩
end Go.Proofs.YtmocjpcnohnfpaaGreat
