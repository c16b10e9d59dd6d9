/- Walk of ahead: how two keys stand to one another. | Walk of Order: the numbers of events that have keys, those whose keys stand ahead first. | Operations done one by one, by a model, plainly; objects whose operations take effect in their first step. | The order of keys, plainly: it is sorted, and has each number that has a key once. | Objects whose operations make one step each, plainly. -/
import Derived.Test.YtpoebpnmbogmnaaGZ3
import Derived.Test.YtpoebpnmbogmnaaGQ1
namespace Go.Proofs.Ytpoebpnmbogmnaa
section
open Go.RowKit
set_option linter.unusedVariables false

def aheadK : List Nat → List Nat → Bool
  | [], [] => false
  | [], _ :: _ => true
  | _ :: _, [] => false
  | x :: a, y :: b => if x = y then aheadK a b else decide (x < y)
theorem aheadK_same {a b : List Nat} {x y : Nat} {j : Nat} (ha : a[j]? = some x) (hb : b[j]? = some y) (h : x = y) : aheadK (a.drop j) (b.drop j) = aheadK (a.drop (j + 1)) (b.drop (j + 1)) := by
  obtain ⟨h1, e1⟩ := List.getElem?_eq_some_iff.1 ha
  obtain ⟨h2, e2⟩ := List.getElem?_eq_some_iff.1 hb
  rw [List.drop_eq_getElem_cons h1, List.drop_eq_getElem_cons h2, e1, e2]
  show (if x = y then _ else _) = _
  rw [if_pos h]
theorem aheadK_diff {a b : List Nat} {x y : Nat} {j : Nat} (ha : a[j]? = some x) (hb : b[j]? = some y) (h : ¬ x = y) : aheadK (a.drop j) (b.drop j) = decide (x < y) := by
  obtain ⟨h1, e1⟩ := List.getElem?_eq_some_iff.1 ha
  obtain ⟨h2, e2⟩ := List.getElem?_eq_some_iff.1 hb
  rw [List.drop_eq_getElem_cons h1, List.drop_eq_getElem_cons h2, e1, e2]
  show (if x = y then _ else _) = _
  rw [if_neg h]
theorem aheadK_end {a b : List Nat} {j : Nat} (h : a.length ≤ j ∨ b.length ≤ j) (hj : j ≤ a.length) (hj2 : j ≤ b.length) : aheadK (a.drop j) (b.drop j) = decide (a.length < b.length) := by
  by_cases h1 : a.length ≤ j
  · rw [List.drop_eq_nil_of_le h1]
    by_cases h2 : b.length ≤ j
    · rw [List.drop_eq_nil_of_le h2, decide_eq_false (by omega)]; rfl
    · rw [List.drop_eq_getElem_cons (by omega), decide_eq_true (by omega)]; rfl
  · have h2 : b.length ≤ j := h.resolve_left h1
    rw [List.drop_eq_nil_of_le h2, List.drop_eq_getElem_cons (by omega), decide_eq_false (by omega)]; rfl

set_option maxRecDepth 20000 in
set_option maxHeartbeats 1000000 in
theorem ahead_any (ka kb : Option Addr) (ca cb : Nat) (a b : List Nat) (p q : Nat → Prop) (w : World) (ha : ListAt w 3 mkI p (.slice ka a.length ca) a) (hb : ListAt w 3 mkI q (.slice kb b.length cb) b) :
    Calls Try.prog 65 #[.slice ka a.length ca, .slice kb b.length cb] w fun e w' => e = .returned (.bool (aheadK a b)) ∧ ∃ m, w' = w.drewN m := by
  obtain ⟨ao, ga, oa, cpa, e1, h1, _, hla, hc1⟩ := ha
  cases e1
  obtain ⟨bo, gb, ob, cpb, e2, h2, _, hlb, hc2⟩ := hb
  cases e2
  have HA := Lib.hid h1
  have HB := Lib.hid h2
  have HCA := Lib.hid hc1
  have HCB := Lib.hid hc2
  clear h1 h2 hc1 hc2
  go_enter Try.func65, Try.ntmps65
  go_wp2_with fail
  go_loopw [5] (fun k wr => ∃ (j m : Nat), j ≤ a.length ∧ j ≤ b.length ∧ k = .int .i64 j ∧ wr = w.drewN m ∧ Hid (aheadK (a.drop j) (b.drop j) = aheadK a b)) (fun k _ => a.length - (intOf k).toNat)
  case atStart => exact ⟨0, 0, Nat.zero_le _, Nat.zero_le _, rfl, rfl, Lib.hid rfl⟩
  case round =>
    obtain ⟨j, m, hj1, hj2, rfl, rfl, hE⟩ := hrel
    by_cases hl1 : j < a.length
    · by_cases hl2 : j < b.length
      · obtain rfl := (HA.out (by omega)).1
        obtain rfl := (HB.out (by omega)).1
        obtain ⟨x, hx⟩ : ∃ x, a[j]? = some x := ⟨a[j], List.getElem?_eq_getElem hl1⟩
        obtain ⟨y, hy⟩ : ∃ y, b[j]? = some y := ⟨b[j], List.getElem?_eq_getElem hl2⟩
        have c1 : w.cell? ⟨ga, oa + j, none⟩ = some (.int .i64 (x : Int)) := HCA.out j x hx
        have c2 : w.cell? ⟨gb, ob + j, none⟩ = some (.int .i64 (y : Int)) := HCB.out j y hy
        have hi0 : (0 : Int) ≤ (j : Int) := Int.natCast_nonneg _
        have hi1 : (j : Int) < (a.length : Int) := by omega
        have hi2 : (j : Int) < (b.length : Int) := by omega
        by_cases hxy : x = y
        · have HN : Hid (aheadK (a.drop (j + 1)) (b.drop (j + 1)) = aheadK a b) := Lib.hid (by rw [← aheadK_same hx hy hxy]; exact hE.out)
          subst hxy
          clear hx hy
          go_wp2_with fail
          go_quiet (fail)
          go_wp2_with fail
          go_roundw
          case rel => exact ⟨j + 1, m + nq, by omega, by omega, by go_num, rfl, HN⟩
          case measure => simp [intOf]; omega
        · have HN : Hid (decide (x < y) = aheadK a b) := Lib.hid (by rw [← aheadK_diff hx hy hxy]; exact hE.out)
          have n1 : ¬ (x : Int) = (y : Int) := by omega
          have n2 : ((x : Int) != (y : Int)) = true := by rw [bne_iff_ne]; exact n1
          have n3 : decide ((x : Int) = (y : Int)) = false := decide_eq_false n1
          have n4 : (x != y) = true := by rw [bne_iff_ne]; exact hxy
          have n5 : (x == y) = false := by rw [beq_eq_false_iff_ne]; exact hxy
          clear hx hy
          go_wp2_with fail
          go_quiet (fail)
          go_wp2_with fail
          go_quiet (fail)
          go_wp2_with fail
          go_ret
          refine ⟨ret_bool HN.out, _, by rw [World.drewN_drewN, World.drewN_drewN]⟩
      · have HN : Hid (decide (a.length < b.length) = aheadK a b) := Lib.hid (by rw [← aheadK_end (Or.inr (by omega)) hj1 hj2]; exact hE.out)
        have hi1 : (j : Int) < (a.length : Int) := by omega
        have hi2 : ¬ (j : Int) < (b.length : Int) := by omega
        have n1 : decide ((j : Int) < (b.length : Int)) = false := decide_eq_false hi2
        have n2 : decide (j < b.length) = false := decide_eq_false hl2
        go_wp2_with fail
        go_ret
        refine ⟨ret_bool HN.out, _, rfl⟩
    · have HN : Hid (decide (a.length < b.length) = aheadK a b) := Lib.hid (by rw [← aheadK_end (Or.inl (by omega)) hj1 hj2]; exact hE.out)
      have hi1 : ¬ (j : Int) < (a.length : Int) := by omega
      have n1 : decide ((j : Int) < (a.length : Int)) = false := decide_eq_false hi1
      have n2 : decide (j < a.length) = false := decide_eq_false hl1
      go_wp2_with fail
      go_ret
      refine ⟨ret_bool HN.out, _, rfl⟩
end
section
open Go.ChangeShapes Go.WideShapes Go.ChangeAt Go.RowKit
set_option linter.unusedVariables false

def keyAt (evs : List EvR) (i : Nat) : List Nat := match evs[i]? with | some x => x.key | none => []
theorem keyAt_some {evs : List EvR} {i : Nat} {x : EvR} (h : evs[i]? = some x) : keyAt evs i = x.key := by unfold keyAt; rw [h]
def placeB (evs : List EvR) (i : Nat) (out : List Nat) : Nat → Nat
  | 0 => 0
  | k + 1 => match aheadK (keyAt evs i) (keyAt evs (out[k]?.getD 0)) with | true => placeB evs i out k | false => k + 1
def insB (evs : List EvR) (i : Nat) (out : List Nat) : List Nat := out.take (placeB evs i out out.length) ++ i :: out.drop (placeB evs i out out.length)
def ordP (evs : List EvR) : Nat → List Nat
  | 0 => []
  | i + 1 => match (keyAt evs i).length with | 0 => ordP evs i | _ + 1 => insB evs i (ordP evs i)
theorem ordP_none {evs : List EvR} {i : Nat} (h : (keyAt evs i).length = 0) : ordP evs (i + 1) = ordP evs i := by
  show (match (keyAt evs i).length with | 0 => ordP evs i | _ + 1 => insB evs i (ordP evs i)) = _
  rw [h]
theorem ordP_some {evs : List EvR} {i : Nat} (h : 0 < (keyAt evs i).length) : ordP evs (i + 1) = insB evs i (ordP evs i) := by
  obtain ⟨m, hm⟩ : ∃ m, (keyAt evs i).length = m + 1 := ⟨(keyAt evs i).length - 1, by omega⟩
  show (match (keyAt evs i).length with | 0 => ordP evs i | _ + 1 => insB evs i (ordP evs i)) = _
  rw [hm]
theorem placeB_yes {evs : List EvR} {i k v : Nat} {out : List Nat} (hv : out[k]? = some v) (h : aheadK (keyAt evs i) (keyAt evs v) = true) : placeB evs i out (k + 1) = placeB evs i out k := by
  show (match aheadK (keyAt evs i) (keyAt evs (out[k]?.getD 0)) with | true => placeB evs i out k | false => k + 1) = _
  rw [hv]; simp [h]
theorem placeB_no {evs : List EvR} {i k v : Nat} {out : List Nat} (hv : out[k]? = some v) (h : aheadK (keyAt evs i) (keyAt evs v) = false) : placeB evs i out (k + 1) = k + 1 := by
  show (match aheadK (keyAt evs i) (keyAt evs (out[k]?.getD 0)) with | true => placeB evs i out k | false => k + 1) = _
  rw [hv]; simp [h]
theorem placeB_le (evs : List EvR) (i : Nat) (out : List Nat) : ∀ k, placeB evs i out k ≤ k
  | 0 => Nat.le_refl _
  | k + 1 => by
    show (match aheadK (keyAt evs i) (keyAt evs (out[k]?.getD 0)) with | true => placeB evs i out k | false => k + 1) ≤ _
    cases aheadK (keyAt evs i) (keyAt evs (out[k]?.getD 0)) with
    | true => exact Nat.le_succ_of_le (placeB_le evs i out k)
    | false => exact Nat.le_refl _
theorem hole_len (out : List Nat) (k h : Nat) (hk : k ≤ out.length) : (out.take k ++ h :: out.drop k).length = out.length + 1 := by simp; omega
theorem hole_get {out : List Nat} {k h v : Nat} (hv : out[k]? = some v) : (out.take (k + 1) ++ h :: out.drop (k + 1))[k]? = some v := by
  have hk := (List.getElem?_eq_some_iff.1 hv).1
  rw [List.getElem?_append_left (by simp; omega), List.getElem?_take_of_lt (Nat.lt_succ_self _)]; exact hv
theorem hole_set (out : List Nat) (k h x : Nat) (hk : k ≤ out.length) : (out.take k ++ h :: out.drop k).set k x = out.take k ++ x :: out.drop k := by
  rw [List.set_append_right _ _ (by simp; omega)]; simp [Nat.min_eq_left hk]
theorem hole_shift {out : List Nat} {k h v : Nat} (hv : out[k]? = some v) : (out.take (k + 1) ++ h :: out.drop (k + 1)).set (k + 1) v = out.take k ++ v :: out.drop k := by
  obtain ⟨hk, e⟩ := List.getElem?_eq_some_iff.1 hv
  rw [hole_set _ _ _ _ (by omega), List.drop_eq_getElem_cons hk, e, take_snoc hv, List.append_assoc]; rfl
theorem hole_mid {out : List Nat} {k h : Nat} (hk : k ≤ out.length) : (out.take k ++ h :: out.drop k)[k]? = some h := by
  rw [List.getElem?_append_right (by simp; omega)]; simp [Nat.min_eq_left hk]
theorem hole_end (out : List Nat) (i : Nat) : out ++ [i] = out.take out.length ++ i :: out.drop out.length := by simp
theorem insB_len (evs : List EvR) (i : Nat) (out : List Nat) : (insB evs i out).length = out.length + 1 := hole_len _ _ _ (placeB_le _ _ _ _)
theorem insB_mem {evs : List EvR} {i x : Nat} {out : List Nat} (h : x ∈ insB evs i out) : x = i ∨ x ∈ out := by
  unfold insB at h
  rcases List.mem_append.1 h with h | h
  · exact .inr (List.mem_of_mem_take h)
  · rcases List.mem_cons.1 h with h | h
    · exact .inl h
    · exact .inr (List.mem_of_mem_drop h)
theorem ordP_len (evs : List EvR) : ∀ i, (ordP evs i).length ≤ i
  | 0 => Nat.le_refl _
  | i + 1 => by
    have := ordP_len evs i
    by_cases h : (keyAt evs i).length = 0
    · rw [ordP_none h]; omega
    · rw [ordP_some (by omega), insB_len]; omega
theorem ordP_lt (evs : List EvR) : ∀ i, ∀ x ∈ ordP evs i, x < i
  | 0, x, h => by cases h
  | i + 1, x, h => by
    by_cases hk : (keyAt evs i).length = 0
    · rw [ordP_none hk] at h; exact Nat.lt_succ_of_lt (ordP_lt evs i x h)
    · rw [ordP_some (by omega)] at h
      rcases insB_mem h with rfl | h
      · exact Nat.lt_succ_self _
      · exact Nat.lt_succ_of_lt (ordP_lt evs i x h)

/-- a number put into a row of the call's own -/
theorem owns_store {w : World} {B g n cap : Nat} {e : TypeId} {l : List Nat} (h : w.ownsRow B e 1 (.slice (some ⟨g, 0, none⟩) n cap) n (nums l)) (i x : Nat) :
    (w.setCell ⟨g, i, none⟩ (.int .i64 (x : Int))).ownsRow B e 1 (.slice (some ⟨g, 0, none⟩) n cap) n (nums (l.set i x)) := by
  obtain ⟨h1, ⟨h2, _⟩ | ⟨g', cap', cur, hv, hg, hb, h3, h4, h5, h6⟩⟩ := h
  · cases h2
  · cases hv
    refine ⟨by rw [← h1]; simp [nums], .inr ⟨g, cap, cur.setIfInBounds i (.int .i64 (x : Int)), rfl, hg, ?_, h3, h4, by simp [h5], ?_⟩⟩
    · simp [World.setCell, Array.getElem?_modify, hb]
    · rw [Array.toList_setIfInBounds, List.take_set, h6]; unfold nums; rw [List.map_set]
theorem owns_free {w : World} {B g n cap : Nat} {e : TypeId} {xs : List Value} (h : w.ownsRow B e 1 (.slice (some ⟨g, 0, none⟩) n cap) n xs) (i : Nat) : w.frozen? ⟨g, i, none⟩ = false := by
  obtain ⟨_, ⟨h2, _⟩ | ⟨g', cap', cur, hv, hg, hb, _⟩⟩ := h
  · cases h2
  · cases hv; simp [World.frozen?, hb]
theorem owns_slice {w : World} {B n : Nat} {e : TypeId} {v : Value} {xs : List Value} (h : w.ownsRow B e 1 v n xs) (hv : v = .slice none 0 0 → False) : ∃ g cap, v = .slice (some ⟨g, 0, none⟩) n cap ∧ B ≤ g ∧ g < w.heap.size := by
  have hlt := h.lt
  obtain ⟨_, ⟨h2, _⟩ | ⟨g, cap, cur, rfl, hg, hb, _⟩⟩ := h
  · exact absurd h2 hv
  · exact ⟨g, cap, rfl, hg, (hlt g rfl).2⟩
theorem owns_at {w : World} {B g n cap : Nat} {e : TypeId} {xs : List Value} (h : w.ownsRow B e 1 (.slice (some ⟨g, 0, none⟩) n cap) n xs) {i : Nat} {u : Value} (hu : xs[i]? = some u) : w.cell? ⟨g, i, none⟩ = some u := by
  have := h.cells (g := g) rfl i u hu
  by_cases hi : i = 0
  · subst hi; simpa [Addr.add] using this
  · simpa [Addr.add, hi] using this

theorem order_put {W : World} {B g cap i k h : Nat} {e : TypeId} {evs : List EvR} {out : List Nat} (hO : W.ownsRow B e 1 (.slice (some ⟨g, 0, none⟩) (out.length + 1) cap) (out.length + 1) (nums (out.take k ++ h :: out.drop k))) (hk : k ≤ out.length) (hN : ordP evs (i + 1) = insB evs i out) (hP : placeB evs i out out.length = k) :
    (W.setCell ⟨g, k, none⟩ (.int .i64 (i : Int))).ownsRow B e 1 (.slice (some ⟨g, 0, none⟩) (out.length + 1) cap) (ordP evs (i + 1)).length (nums (ordP evs (i + 1))) := by
  have h1 := owns_store hO k i
  rw [hole_set _ _ _ _ hk] at h1
  rw [hN, insB_len]
  unfold insB
  rw [hP]
  exact h1

theorem nums_get1 {l : List Nat} {i x : Nat} (h : l[i]? = some x) : (nums l)[i]? = some (.int .i64 (x : Int)) := by unfold nums; rw [List.getElem?_map, h]; rfl

/-- what Order gives -/
def OrderOut (evs : List EvR) (w : World) (e : Ending) (w' : World) : Prop := ∃ v, e = .returned v ∧ w'.ownsRow w.heap.size 3 1 v (ordP evs evs.length).length (nums (ordP evs evs.length)) ∧ Below w.heap.size w w'

set_option maxRecDepth 20000 in
set_option maxHeartbeats 2000000 in
theorem order_any (aoE : Option Addr) (gE capE : Nat) (evs : List EvR) (B : Nat) (w : World) (hao : 0 < evs.length → aoE = some ⟨gE, 0, none⟩) (hev : EvAllG B w gE evs) (hel : evs.length ≤ 70000) :
    Calls Try.prog 43 #[.slice aoE evs.length capE] w (OrderOut evs w) := by
  obtain ⟨iI, ia, ib, ic, id⟩ := info_parts infoIu
  have HAO := Lib.hid hao
  have HEV : Hid (∀ W, Below w.heap.size w W → EvAllG B W gE evs) := Lib.hid (fun W hW => hev.below hW (Nat.le_refl _))
  clear hao hev
  go_enter Try.func43, Try.ntmps43
  go_wp2_with fail
  go_loopw [3, 8] (fun v k wr => ∃ (i : Nat), i ≤ evs.length ∧ k = .int .i64 i ∧ Hid (wr.ownsRow w.heap.size 3 1 v (ordP evs i).length (nums (ordP evs i))) ∧ Hid (Below w.heap.size w wr)) (fun _ k _ => evs.length - (intOf k).toNat)
  case atStart => exact ⟨0, Nat.zero_le _, rfl, Lib.hid (World.ownsRow_nil _ _ _ _), Lib.hid (Below.refl _ _)⟩
  case round =>
    obtain ⟨i, hi, rfl, hO, hB⟩ := hrel
    have hsz := hB.out.size
    by_cases hlt : i < evs.length
    · obtain rfl := HAO.out (by omega)
      obtain ⟨x, hx⟩ : ∃ x, evs[i]? = some x := ⟨evs[i], List.getElem?_eq_getElem hlt⟩
      obtain ⟨_, la, ka, lc, kc, hv⟩ := HEV.out wr hB.out i x hx
      have HKX := Lib.hid (keyAt_some hx)
      have HX := Lib.hid hx
      have v7 := hv.c7
      have hi0 : (0 : Int) ≤ (i : Int) := Int.natCast_nonneg _
      have hi1 : (i : Int) < (evs.length : Int) := by omega
      have hol := ordP_len evs i
      clear hv hx
      by_cases hk : x.key.length = 0
      · have hk2 : (x.key.length : Int) = 0 := by omega
        have HN : Hid (ordP evs (i + 1) = ordP evs i) := Lib.hid (ordP_none (by rw [HKX.out]; exact hk))
        go_wp2_with fail
        go_roundw
        case rel => exact ⟨i + 1, by omega, by go_num, by rw [HN.out]; exact hO, hB⟩
        case measure => simp [intOf]; omega
      · have hk2 : ¬ (x.key.length : Int) = 0 := by omega
        have HN : Hid (ordP evs (i + 1) = insB evs i (ordP evs i)) := Lib.hid (ordP_some (by rw [HKX.out]; omega))
        obtain ⟨out, hout⟩ : ∃ out, ordP evs i = out := ⟨_, rfl⟩
        rw [hout] at hO HN hol
        have HLT : Hid (∀ y ∈ out, y < i) := Lib.hid (by rw [← hout]; exact ordP_lt evs i)
        clear hout
        obtain ⟨ao0, g0, cap0, hv0, _⟩ := owns_open hO.out
        subst hv0
        have hO1 := hO.out
        have hj' : out.length ≤ 4294967296 := by omega
        go_wp2_with (at_builtin; refine append_new rfl _ _ 24 rfl w.heap.size 3 iI (.int .i64 0) 1 8 Try.underlying24 ia ib ic id rfl (by decide) (by decide) _ out.length _ rfl hO1 [.int .i64 (i : Int)] rfl rfl rfl hj' hsz ?_)
        intro v1 w1 ho1 hb1 _ hnn
        obtain ⟨g, cap, rfl, hgB, hgl⟩ := owns_slice ho1 hnn
        have HO1 : Hid (w1.ownsRow w.heap.size 3 1 (.slice (some ⟨g, 0, none⟩) (out.length + 1) cap) (out.length + 1) (nums (out.take out.length ++ i :: out.drop out.length))) := Lib.hid (by rw [← hole_end]; unfold nums; rw [List.map_append]; exact ho1)
        have HB1 : Hid (Below w.heap.size w w1) := Lib.hid (hB.out.trans hb1)
        clear ho1 hb1 hO1 hnn v7 hO hB
        go_wp2_with fail
        go_loopw [5] (fun k wr => ∃ (k0 h : Nat), k0 ≤ out.length ∧ k = .int .i64 k0 ∧ Hid (wr.ownsRow w.heap.size 3 1 (.slice (some ⟨g, 0, none⟩) (out.length + 1) cap) (out.length + 1) (nums (out.take k0 ++ h :: out.drop k0))) ∧ Hid (placeB evs i out k0 = placeB evs i out out.length) ∧ Hid (Below w.heap.size w wr)) (fun k _ => (intOf k).toNat)
        case atStart => exact ⟨out.length, i, Nat.le_refl _, rfl, HO1, Lib.hid rfl, HB1⟩
        case round =>
          obtain ⟨k0, h, hk0, rfl, hO, hP, hB⟩ := hrel
          have hsz := hB.out.size
          have hgl := hO.out.lt g rfl
          have hgl2 := hgl.2
          clear hgl
          have f1 : ∀ j, wr.frozen? ⟨g, j, none⟩ = false := fun j => owns_free hO.out j
          rcases Nat.eq_zero_or_pos k0 with hz | hpos
          · subst hz
            have hc0 : wr.cell? ⟨g, 0, none⟩ = some (.int .i64 (h : Int)) := owns_at hO.out (by simp [nums])
            have n1 : decide ((0 : Int) > 0) = false := by decide
            have n2 : decide ((0 : Int) < 0) = false := by decide
            go_wp2_with fail
            go_quiet (fail)
            go_wp2_with fail
            go_roundw
            case rel => exact ⟨i + 1, by omega, by go_num, Lib.hid (order_put (owns_drewN hO.out _) (Nat.zero_le _) HN.out (by rw [← hP.out]; rfl)), Lib.hid ((below_drewN hB.out _).setCell hgB _)⟩
            case measure => simp [intOf]; omega
          · obtain ⟨k, rfl⟩ : ∃ k, k0 = k + 1 := ⟨k0 - 1, by omega⟩
            obtain ⟨v, hv⟩ : ∃ v, out[k]? = some v := ⟨out[k]'(by omega), List.getElem?_eq_getElem (by omega)⟩
            have HV := Lib.hid hv
            have hvi : v < i := HLT.out v (List.mem_of_getElem? hv)
            obtain ⟨y, hy⟩ : ∃ y, evs[v]? = some y := ⟨evs[v]'(by omega), List.getElem?_eq_getElem (by omega)⟩
            obtain ⟨_, la, ka, lc, kc, hev1⟩ := HEV.out wr hB.out i x HX.out
            obtain ⟨_, la2, kb, lc2, kd, hev2⟩ := HEV.out wr hB.out v y hy
            have HKY := Lib.hid (keyAt_some hy)
            have v7 := hev1.c7
            have y7 := hev2.c7
            have HAH : Hid (∀ q, Calls Try.prog 65 #[.slice ka x.key.length kc, .slice kb y.key.length kd] (wr.drewN q) fun e w' => e = .returned (.bool (aheadK x.key y.key)) ∧ ∃ m, w' = (wr.drewN q).drewN m) :=
              Lib.hid (fun q => ahead_any ka kb kc kd x.key y.key _ _ (wr.drewN q) hev1.key hev2.key)
            have c1 : wr.cell? ⟨g, k, none⟩ = some (.int .i64 (v : Int)) := owns_at hO.out (nums_get1 (hole_get hv))
            have e1 : ((k + 1 : Nat) : Int) - 1 = (k : Int) := by omega
            have e2 : ((k : Int) + 1) - 1 = (k : Int) := by omega
            have hkb : (k : Int) ≤ 70000 := by omega
            have e3 : IntKind.i64.wrap (k : Int) = (k : Int) := by unfold IntKind.wrap; simp [IntKind.bits, IntKind.signed]; omega
            have n1 : decide (((k + 1 : Nat) : Int) > 0) = true := decide_eq_true (by omega)
            have n2 : decide ((0 : Int) < (k : Int) + 1) = true := decide_eq_true (by omega)
            have n3 : (0 : Int) < (k : Int) + 1 := by omega
            have m1 : (0 : Int) ≤ (k : Int) := Int.natCast_nonneg _
            have m2 : (k : Int) < (out.length : Int) + 1 := by omega
            have c2 : wr.cell? ⟨g, k + 1, none⟩ = some (.int .i64 (h : Int)) := owns_at hO.out (nums_get1 (hole_mid (by omega)))
            have m5 : (0 : Int) ≤ (k : Int) + 1 := by omega
            have m6 : (k : Int) + 1 < (out.length : Int) + 1 := by omega
            have m7 : ((k + 1 : Nat) : Int) < ((out.length + 1 : Nat) : Int) := by omega
            have m3 : (0 : Int) ≤ (v : Int) := Int.natCast_nonneg _
            have m4 : (v : Int) < (evs.length : Int) := by omega
            clear hv hy hev1 hev2
            cases hb : aheadK x.key y.key with
            | true =>
              have HB := Lib.hid hb
              rw [hb] at HAH
              clear hb
              go_wp2_with fail
              go_quiet ((go_at_call 65; (with_reducible refine call_quiet (fun q => ?_) (HAH.out _)); exact ⟨_, by rw [World.drewN_drewN]⟩))
              go_wp2_with fail
              go_roundw
              case rel => exact ⟨k, v, by omega, rfl, Lib.hid (by rw [← hole_shift (h := h) HV.out]; exact owns_store (owns_drewN hO.out _) (k + 1) v), Lib.hid (by rw [← placeB_yes HV.out (by rw [HKX.out, HKY.out]; exact HB.out)]; exact hP.out), Lib.hid ((below_drewN hB.out _).setCell hgB _)⟩
              case measure => simp [intOf]
            | false =>
              have HB := Lib.hid hb
              rw [hb] at HAH
              clear hb
              go_wp2_with fail
              go_quiet ((go_at_call 65; (with_reducible refine call_quiet (fun q => ?_) (HAH.out _)); exact ⟨_, by rw [World.drewN_drewN]⟩))
              go_wp2_with fail
              go_roundw
              case rel => exact ⟨i + 1, by omega, by go_num, Lib.hid (order_put (owns_drewN hO.out _) hk0 HN.out (by rw [← hP.out, placeB_no HV.out (by rw [HKX.out, HKY.out]; exact HB.out)])), Lib.hid ((below_drewN hB.out _).setCell hgB _)⟩
              case measure => simp [intOf]; omega
    · have : i = evs.length := by omega
      subst this
      go_wp2_with fail
      go_ret
      exact ⟨_, rfl, hO.out, hB.out⟩
end
section
open Go.RowKit
set_option linter.unusedVariables false

structure Mod where
  st0 : List Nat
  ap : List Nat → CallV → List Nat × Ans
section
variable (D : Mod)
def mStep (cs : List CallV) (st : List Nat) (i : Nat) : List Nat := match cs[i]? with | none => st | some x => if x.o < 0 ∨ 1 ≤ x.o then st else (D.ap st x).1
def mAns (cs : List CallV) (st : List Nat) (i : Nat) : Ans := match cs[i]? with | none => ⟨0, 0, []⟩ | some x => if x.o < 0 ∨ 1 ≤ x.o then ⟨12, 0, []⟩ else (D.ap st x).2
def mFold (cs : List CallV) (is : List Nat) : List Nat := is.foldl (mStep D cs) D.st0
end
theorem mStep_off {D : Mod} {cs : List CallV} {st : List Nat} {i : Nat} {x : CallV} (hx : cs[i]? = some x) (h : x.o < 0 ∨ 1 ≤ x.o) : mStep D cs st i = st := by unfold mStep; simp only [hx]; rw [if_pos h]
theorem mStep_on {D : Mod} {cs : List CallV} {st : List Nat} {i : Nat} {x : CallV} (hx : cs[i]? = some x) (h : ¬ (x.o < 0 ∨ 1 ≤ x.o)) : mStep D cs st i = (D.ap st x).1 := by unfold mStep; simp only [hx]; rw [if_neg h]
theorem mAns_off {D : Mod} {cs : List CallV} {st : List Nat} {i : Nat} {x : CallV} (hx : cs[i]? = some x) (h : x.o < 0 ∨ 1 ≤ x.o) : mAns D cs st i = ⟨12, 0, []⟩ := by unfold mAns; simp only [hx]; rw [if_pos h]
theorem mAns_on {D : Mod} {cs : List CallV} {st : List Nat} {i : Nat} {x : CallV} (hx : cs[i]? = some x) (h : ¬ (x.o < 0 ∨ 1 ≤ x.o)) : mAns D cs st i = (D.ap st x).2 := by unfold mAns; simp only [hx]; rw [if_neg h]
theorem mFold_snoc (D : Mod) (cs : List CallV) (is : List Nat) (i : Nat) : mFold D cs (is ++ [i]) = mStep D cs (mFold D cs is) i := by unfold mFold; rw [List.foldl_append]; rfl
def callOf (evs : List EvR) (j : Nat) : Nat := match evs[j]? with | some x => x.i | none => 0
theorem callOf_some {evs : List EvR} {j : Nat} {x : EvR} (h : evs[j]? = some x) : callOf evs j = x.i := by unfold callOf; rw [h]
/-- the model's state ahead of the k-th one in order -/
def stAt (D : Mod) (cs : List CallV) (evs : List EvR) (k : Nat) : List Nat := mFold D cs (((ordP evs evs.length).take k).map (callOf evs))
theorem stAt_succ {D : Mod} {cs : List CallV} {evs : List EvR} {k j : Nat} {x : EvR} (hj : (ordP evs evs.length)[k]? = some j) (hx : evs[j]? = some x) : stAt D cs evs (k + 1) = mStep D cs (stAt D cs evs k) x.i := by
  unfold stAt
  rw [take_snoc hj, List.map_append, List.map_singleton, mFold_snoc, callOf_some hx]
/-- what Wrong asks -/
def WrongOk (D : Mod) (cs : List CallV) (evs : List EvR) : Prop := ∀ (k j : Nat) (x : EvR), (ordP evs evs.length)[k]? = some j → evs[j]? = some x → ¬ x.resp = 0 → x.ans = mAns D cs (stAt D cs evs k) x.i

/-- keys in the order of the numbers -/
theorem ord_range {evs : List EvR} (h : ∀ (i : Nat) (x : EvR), evs[i]? = some x → x.key = [2 * x.inv]) (hg : ∀ (i j : Nat) (x y : EvR), i < j → evs[i]? = some x → evs[j]? = some y → x.inv < y.inv) : ∀ n, n ≤ evs.length → ordP evs n = List.range n
  | 0, _ => rfl
  | i + 1, hn => by
    have ih := ord_range h hg i (by omega)
    obtain ⟨x, hx⟩ : ∃ x, evs[i]? = some x := ⟨evs[i]'(by omega), List.getElem?_eq_getElem (by omega)⟩
    have hkx := keyAt_some hx
    have hk := h i x hx
    rw [ordP_some (by rw [hkx, hk]; simp), ih]
    have hp : placeB evs i (List.range i) i = i := by
      cases i with
      | zero => rfl
      | succ k =>
        obtain ⟨y, hy⟩ : ∃ y, evs[k]? = some y := ⟨evs[k]'(by omega), List.getElem?_eq_getElem (by omega)⟩
        refine placeB_no (v := k) (by rw [List.getElem?_range (by omega)]) ?_
        have := hg k (k + 1) y x (by omega) hy hx
        rw [hkx, keyAt_some hy, hk, h k y hy]
        show (if 2 * x.inv = 2 * y.inv then aheadK [] [] else decide (2 * x.inv < 2 * y.inv)) = false
        rw [if_neg (by omega), decide_eq_false (by omega)]
    unfold insB
    rw [List.length_range, hp, List.take_of_length_le (by simp), List.drop_of_length_le (by simp), ← List.range_succ]
theorem range_calls {evs : List EvR} {k : Nat} (hk : k ≤ evs.length) : ((List.range evs.length).take k).map (callOf evs) = (evs.take k).map EvR.i := by
  apply List.ext_getElem?
  intro a
  rw [List.getElem?_map, List.getElem?_map, List.getElem?_take, List.getElem?_take]
  by_cases ha : a < k
  · rw [if_pos ha, if_pos ha, List.getElem?_range (by omega)]
    obtain ⟨x, hx⟩ : ∃ x, evs[a]? = some x := ⟨evs[a]'(by omega), List.getElem?_eq_getElem (by omega)⟩
    rw [hx, Option.map_some, Option.map_some, callOf_some hx]
  · rw [if_neg ha, if_neg ha]; rfl

section
variable {M : Mach}
/-- an object whose operations take effect in their first step; 'G': what one that goes on will answer -/
structure FirstM (D : Mod) (cs : List CallV) (I : St M → Prop) (G : M.S → List Nat → M.Q ⊕ Nat → Nat → Ans → Prop) : Prop where
  key : ∀ s ws q inv a, G s ws q inv a → keyQ s q = [2 * inv]
  first : ∀ (st : St M) (i : Nat) (x : CallV) (t : Nat), I st → cs[i]? = some x → 0 < t →
    (stepQ (invQ st.s x).1 (invQ st.s x).2 st.ws st.cn t).ws = mStep D cs st.ws i ∧
    (∀ a, (stepQ (invQ st.s x).1 (invQ st.s x).2 st.ws st.cn t).ans = some a → a = mAns D cs st.ws i ∧ keyQ (stepQ (invQ st.s x).1 (invQ st.s x).2 st.ws st.cn t).s (stepQ (invQ st.s x).1 (invQ st.s x).2 st.ws st.cn t).q = []) ∧
    ((stepQ (invQ st.s x).1 (invQ st.s x).2 st.ws st.cn t).ans = none → G (stepQ (invQ st.s x).1 (invQ st.s x).2 st.ws st.cn t).s (stepQ (invQ st.s x).1 (invQ st.s x).2 st.ws st.cn t).ws (stepQ (invQ st.s x).1 (invQ st.s x).2 st.ws st.cn t).q t (mAns D cs st.ws i)) ∧
    (∀ q inv a, G st.s st.ws q inv a → G (stepQ (invQ st.s x).1 (invQ st.s x).2 st.ws st.cn t).s (stepQ (invQ st.s x).1 (invQ st.s x).2 st.ws st.cn t).ws q inv a)
  more : ∀ (st : St M) (q : M.Q ⊕ Nat) (inv : Nat) (a : Ans) (t : Nat), I st → G st.s st.ws q inv a → 0 < t →
    (stepQ st.s q st.ws st.cn t).ws = st.ws ∧
    (∀ a', (stepQ st.s q st.ws st.cn t).ans = some a' → a' = a ∧ keyQ (stepQ st.s q st.ws st.cn t).s (stepQ st.s q st.ws st.cn t).q = [2 * inv]) ∧
    ((stepQ st.s q st.ws st.cn t).ans = none → G (stepQ st.s q st.ws st.cn t).s (stepQ st.s q st.ws st.cn t).ws (stepQ st.s q st.ws st.cn t).q inv a) ∧
    (∀ q' inv' a', G st.s st.ws q' inv' a' → G (stepQ st.s q st.ws st.cn t).s (stepQ st.s q st.ws st.cn t).ws q' inv' a')
structure LinI (D : Mod) (cs : List CallV) (G : M.S → List Nat → M.Q ⊕ Nat → Nat → Ans → Prop) (st : St M) : Prop where
  fold : mFold D cs (st.evs.map Ev.i) = st.ws
  done : ∀ (k : Nat) (v : Ev M), st.evs[k]? = some v → ¬ v.resp = 0 → v.ans = mAns D cs (mFold D cs ((st.evs.take k).map Ev.i)) v.i ∧ v.key = [2 * v.inv]
  pend : ∀ (k : Nat) (v : Ev M), st.evs[k]? = some v → v.resp = 0 → G st.s st.ws v.q v.inv (mAns D cs (mFold D cs ((st.evs.take k).map Ev.i)) v.i)
theorem map_set_i (l : List (Ev M)) (e : Nat) (u v : Ev M) (hv : l[e]? = some v) (h : u.i = v.i) : (l.set e u).map Ev.i = l.map Ev.i := by
  rw [List.map_set, h]
  obtain ⟨hl, hv⟩ := List.getElem?_eq_some_iff.1 hv
  apply List.ext_getElem?
  intro k
  rw [List.getElem?_set]
  split
  · next hk =>
    subst hk
    rw [if_pos (by simp; exact hl), List.getElem?_map, List.getElem?_eq_getElem hl, hv]; rfl
  · rfl
theorem take_set_i (l : List (Ev M)) (e k : Nat) (u v : Ev M) (hv : l[e]? = some v) (h : u.i = v.i) : ((l.set e u).take k).map Ev.i = (l.take k).map Ev.i := by
  rw [List.map_take, List.map_take, map_set_i l e u v hv h]
theorem midEv_i (st : St M) (v : Ev M) : (midEv st v).i = v.i ∧ (midEv st v).inv = v.inv := by
  unfold midEv
  split <;> exact ⟨rfl, rfl⟩
theorem step_s {st : St M} {i : Nat} {p : Int} {e : Nat} {v : Ev M} : (st.step i p e v).s = (stepQ st.s v.q st.ws st.cn st.ticks).s := by unfold St.step; split <;> rfl
theorem LinI.turned {D : Mod} {cs : List CallV} {I : St M → Prop} {G : M.S → List Nat → M.Q ⊕ Nat → Nat → Ans → Prop} (hF : FirstM D cs I G) {st : St M} (h : LinI D cs G st) (hI : I st) (hw : Wf cs st) {p : Int} {i : Nat} {x : CallV} (hn : nowOf (thr cs) st.fin p = some i) (hx : cs[i]? = some x) : LinI D cs G (pickM cs st p) := by
  obtain ⟨e, v, h1, h2, h3, h4, h5⟩ := pickM_cases hw hn hx
  rw [h5]
  have hel := (List.getElem?_eq_some_iff.1 h2).1
  have hev := step_evs (st := st.turn i x p) (i := i) (p := p) (e := e) (v := v)
  have hws := step_ws (st := st.turn i x p) (i := i) (p := p) (e := e) (v := v)
  have hss := step_s (st := st.turn i x p) (i := i) (p := p) (e := e) (v := v)
  obtain ⟨m1, m2⟩ := midEv_i (st.turn i x p) v
  have htk : 0 < (st.turn i x p).ticks := by rw [turn_ticks]; omega
  cases hc : st.cur p with
  | some e0 =>
    have htu : st.turn i x p = st.tick := by unfold St.turn; rw [hc]
    rw [htu] at h1 h2 hel hev hws hss m1 m2 htk ⊢
    have hv : st.evs[e]? = some v := h2
    have hG := h.pend e v hv h3
    obtain ⟨a1, a2, a3, a4⟩ := hF.more st v.q v.inv _ st.tick.ticks hI hG htk
    refine ⟨?_, fun k u hu hr => ?_, fun k u hu hr => ?_⟩
    · rw [hev, hws, map_set_i _ e _ v h2 m1]
      exact h.fold.trans a1.symm
    · rw [hev] at hu ⊢
      rw [take_set_i _ e k _ v h2 m1]
      rcases set_get hu hel with ⟨rfl, rfl⟩ | ⟨_, hu'⟩
      · rw [m1, m2]
        cases ha : (stepQ st.s v.q st.ws st.cn st.tick.ticks).ans with
        | none =>
          rw [midEv_more (st := st.tick) ha] at hr
          exact absurd h3 hr
        | some an =>
          obtain ⟨b1, b2⟩ := a2 an ha
          rw [midEv_done (st := st.tick) ha]
          refine ⟨b1, ?_⟩
          show keyOr (keyQ (stepQ st.s v.q st.ws st.cn st.tick.ticks).s (stepQ st.s v.q st.ws st.cn st.tick.ticks).q) _ = _
          rw [b2]; unfold keyOr; rw [if_neg (by simp)]
      · exact h.done k u hu' hr
    · rw [hev] at hu ⊢
      rw [hws, hss, take_set_i _ e k _ v h2 m1]
      rcases set_get hu hel with ⟨rfl, rfl⟩ | ⟨_, hu'⟩
      · rw [m1, m2]
        cases ha : (stepQ st.s v.q st.ws st.cn st.tick.ticks).ans with
        | none =>
          rw [midEv_more (st := st.tick) ha]
          exact a3 ha
        | some an =>
          rw [midEv_done (st := st.tick) ha] at hr
          exact absurd (show st.tick.ticks = 0 from hr) (by omega)
      · exact a4 _ _ _ (h.pend k u hu' hr)
  | none =>
    have htu : st.turn i x p = st.tick.begin i x p := by unfold St.turn; rw [hc]
    have hcur : (st.turn i x p).cur p = some st.evs.length := by rw [htu]; exact updF_same _ _ _
    have hee : e = st.evs.length := by rw [h1] at hcur; exact Option.some.inj hcur
    have hte : (st.turn i x p).evs = st.evs ++ [⟨i, st.ticks + 1, 0, 0, ⟨0, 0, []⟩, [], (invQ st.s x).2⟩] := by rw [htu]; rfl
    have hts : (st.turn i x p).s = (invQ st.s x).1 := by rw [htu]; rfl
    have htw : (st.turn i x p).ws = st.ws := turn_ws
    have htc : (st.turn i x p).cn = st.cn := by rw [htu]; rfl
    have hvi : v.inv = st.ticks + 1 ∧ v.q = (invQ st.s x).2 := by
      rw [hte, hee, List.getElem?_append_right (Nat.le_refl _), Nat.sub_self] at h2
      cases h2; exact ⟨rfl, rfl⟩
    have htt : (st.turn i x p).ticks = st.ticks + 1 := turn_ticks
    obtain ⟨a1, a2, a3, a4⟩ := hF.first st i x (st.ticks + 1) hI hx (by omega)
    have hO : stepQ (st.turn i x p).s v.q (st.turn i x p).ws (st.turn i x p).cn (st.turn i x p).ticks = stepQ (invQ st.s x).1 (invQ st.s x).2 st.ws st.cn (st.ticks + 1) := by rw [hts, hvi.2, htw, htc, htt]
    have hev2 : ((st.turn i x p).step i p e v).evs = st.evs ++ [midEv (st.turn i x p) v] := by
      rw [hev, hte, hee]
      rw [List.set_append_right _ _ (Nat.le_refl _), Nat.sub_self]; rfl
    rw [hO] at hws hss
    have htake : ∀ k, k ≤ st.evs.length → ((st.evs ++ [midEv (st.turn i x p) v]).take k).map Ev.i = (st.evs.take k).map Ev.i := fun k hk => by rw [List.take_append_of_le_length hk]
    refine ⟨?_, fun k u hu hr => ?_, fun k u hu hr => ?_⟩
    · rw [hev2, hws, List.map_append, List.map_singleton, mFold_snoc, h.fold, m1, h4]
      exact a1.symm
    · rw [hev2] at hu ⊢
      rcases snoc_get hu with ⟨rfl, rfl⟩ | ⟨hk, hu'⟩
      · rw [htake _ (Nat.le_refl _), List.take_length, h.fold, m1, m2, h4]
        cases ha : (stepQ (invQ st.s x).1 (invQ st.s x).2 st.ws st.cn (st.ticks + 1)).ans with
        | none =>
          rw [midEv_more (by rw [hO]; exact ha)] at hr
          exact absurd h3 hr
        | some an =>
          obtain ⟨b1, b2⟩ := a2 an ha
          rw [midEv_done (by rw [hO]; exact ha)]
          refine ⟨b1, ?_⟩
          show keyOr (keyQ (stepQ (st.turn i x p).s v.q (st.turn i x p).ws (st.turn i x p).cn (st.turn i x p).ticks).s (stepQ (st.turn i x p).s v.q (st.turn i x p).ws (st.turn i x p).cn (st.turn i x p).ticks).q) _ = _
          rw [hO, b2, htt, hvi.1]; rfl
      · rw [htake k (by omega)]
        exact h.done k u hu' hr
    · rw [hev2] at hu ⊢
      rw [hws, hss]
      rcases snoc_get hu with ⟨rfl, rfl⟩ | ⟨hk, hu'⟩
      · rw [htake _ (Nat.le_refl _), List.take_length, h.fold, m1, m2, h4]
        cases ha : (stepQ (invQ st.s x).1 (invQ st.s x).2 st.ws st.cn (st.ticks + 1)).ans with
        | none =>
          rw [midEv_more (by rw [hO]; exact ha), hvi.1]
          show G _ _ (stepQ (st.turn i x p).s v.q (st.turn i x p).ws (st.turn i x p).cn (st.turn i x p).ticks).q _ _
          rw [hO]
          exact a3 ha
        | some an =>
          rw [midEv_done (by rw [hO]; exact ha)] at hr
          exact absurd (show (st.turn i x p).ticks = 0 from hr) (by omega)
      · rw [htake k (by omega)]
        exact a4 _ _ _ (h.pend k u hu' hr)
theorem linI_end {D : Mod} {cs : List CallV} {I : St M → Prop} {G : M.S → List Nat → M.Q ⊕ Nat → Nat → Ans → Prop} (hF : FirstM D cs I G) {K : MachRel M} (hK : MachOk K cs I) (ws : List Nat) (s : M.S) (h0 : I (stM cs ws s)) (hd : D.st0 = ws) (picks : List Int) : LinI D cs G (endM cs ws s picks) :=
  (foldM (R := fun st => Wf cs st ∧ I st ∧ LinI D cs G st) (fun st p h => ⟨h.1.pick p, hK.pick h.2.1 h.1 p, by
    cases hn : nowOf (thr cs) st.fin p with
    | none => rw [pickM_idle hn]; exact ⟨h.2.2.fold, h.2.2.done, h.2.2.pend⟩
    | some i =>
      have hil := (now_open hn).1
      rw [thr_len] at hil
      exact h.2.2.turned hF h.2.1 h.1 hn (List.getElem?_eq_getElem hil)⟩) picks _
    ⟨Wf.first cs ws s, h0, ⟨hd, fun k v hv => by simp [stM] at hv, fun k v hv => by simp [stM] at hv⟩⟩).2.2
theorem linI_keys {D : Mod} {cs : List CallV} {I : St M → Prop} {G : M.S → List Nat → M.Q ⊕ Nat → Nat → Ans → Prop} (hF : FirstM D cs I G) {st : St M} (h : LinI D cs G st) : ∀ (i : Nat) (x : EvR), (repOf st).evs[i]? = some x → x.key = [2 * x.inv] := fun i x hx => by
  have hx' : (st.evs.map (evR st.s))[i]? = some x := hx
  rw [List.getElem?_map] at hx'
  obtain ⟨v, hv, rfl⟩ := Option.map_eq_some_iff.1 hx'
  show (if v.resp = 0 then keyQ st.s v.q else v.key) = [2 * v.inv]
  by_cases hr : v.resp = 0
  · rw [if_pos hr]; exact hF.key _ _ _ _ _ (h.pend i v hv hr)
  · rw [if_neg hr]; exact (h.done i v hv hr).2
theorem linI_in {D : Mod} {cs : List CallV} {I : St M → Prop} {G : M.S → List Nat → M.Q ⊕ Nat → Nat → Ans → Prop} (hF : FirstM D cs I G) {st : St M} (h : LinI D cs G st) (hR : RowI cs st) : KeysIn st := fun v hv => by
  obtain ⟨k, hk⟩ := List.mem_iff_getElem?.1 hv
  have hc := hR.call v hv
  refine ⟨fun hr => ?_, fun hr => ?_⟩
  · have h3 := hc.2.2.2.2.2 hr
    exact ⟨2 * v.inv, [], (h.done k v hk hr).2, by omega, by omega⟩
  · exact .inr ⟨2 * v.inv, [], hF.key _ _ _ _ _ (h.pend k v hk hr), by omega, by omega⟩
theorem linI_wrong {D : Mod} {cs : List CallV} {I : St M → Prop} {G : M.S → List Nat → M.Q ⊕ Nat → Nat → Ans → Prop} (hF : FirstM D cs I G) {st : St M} (h : LinI D cs G st) (hR : RowI cs st) : WrongOk D cs (repOf st).evs := fun k j x hj hx hr => by
  have hget : ∀ (j : Nat) (x : EvR), (repOf st).evs[j]? = some x → ∃ v, st.evs[j]? = some v ∧ x = evR st.s v := fun j x hx => by
    have hx' : (st.evs.map (evR st.s))[j]? = some x := hx
    rw [List.getElem?_map] at hx'
    obtain ⟨v, hv, rfl⟩ := Option.map_eq_some_iff.1 hx'
    exact ⟨v, hv, rfl⟩
  have hord : ordP (repOf st).evs (repOf st).evs.length = List.range (repOf st).evs.length := ord_range (linI_keys hF h) (fun i j x y hij hx hy => by
    obtain ⟨u, hu, rfl⟩ := hget i x hx
    obtain ⟨v, hv, rfl⟩ := hget j y hy
    exact hR.grow i j u v hij hu hv) _ (Nat.le_refl _)
  have hjl := (List.getElem?_eq_some_iff.1 hx).1
  have hkj : k = j ∧ k < (repOf st).evs.length := by
    rw [hord] at hj
    have hkl := (List.getElem?_eq_some_iff.1 hj).1
    rw [List.length_range] at hkl
    rw [List.getElem?_range hkl] at hj
    exact ⟨Option.some.inj hj, hkl⟩
  obtain ⟨rfl, _⟩ := hkj
  unfold stAt
  rw [hord, range_calls (by omega)]
  obtain ⟨v, hv, rfl⟩ := hget k x hx
  have := (h.done k v hv hr).1
  show v.ans = mAns D cs (mFold D cs ((((st.evs.map (evR st.s))).take k).map EvR.i)) v.i
  rw [← List.map_take, List.map_map]
  exact this
end
end
section
open Go.RowKit
set_option linter.unusedVariables false
theorem aheadK_irrefl : ∀ a : List Nat, aheadK a a = false
  | [] => rfl
  | x :: a => by show (if x = x then aheadK a a else _) = _; rw [if_pos rfl, aheadK_irrefl a]
theorem aheadK_cons (x y : Nat) (a b : List Nat) : aheadK (x :: a) (y :: b) = if x = y then aheadK a b else decide (x < y) := rfl
theorem aheadK_trans : ∀ a b c : List Nat, aheadK a b = true → aheadK b c = true → aheadK a c = true
  | [], [], c, h, _ => by cases h
  | [], _ :: _, [], _, h => by cases h
  | [], _ :: _, _ :: _, _, _ => rfl
  | _ :: _, [], c, h, _ => by cases h
  | _ :: _, _ :: _, [], _, h => by cases h
  | x :: a, y :: b, z :: c, h1, h2 => by
    rw [aheadK_cons] at h1 h2 ⊢
    by_cases e1 : x = y
    · rw [if_pos e1] at h1
      subst e1
      by_cases e2 : x = z
      · rw [if_pos e2] at h2 ⊢; exact aheadK_trans a b c h1 h2
      · rw [if_neg e2] at h2 ⊢; exact h2
    · rw [if_neg e1] at h1
      have h1 := of_decide_eq_true h1
      by_cases e2 : y = z
      · subst e2; rw [if_neg e1]; exact decide_eq_true h1
      · rw [if_neg e2] at h2
        have h2 := of_decide_eq_true h2
        rw [if_neg (by omega)]; exact decide_eq_true (by omega)
theorem aheadK_conn : ∀ a b : List Nat, aheadK a b = false → aheadK b a = false → a = b
  | [], [], _, _ => rfl
  | [], _ :: _, h, _ => by cases h
  | _ :: _, [], _, h => by cases h
  | x :: a, y :: b, h1, h2 => by
    rw [aheadK_cons] at h1 h2
    by_cases e : x = y
    · subst e
      rw [if_pos rfl] at h1 h2
      rw [aheadK_conn a b h1 h2]
    · rw [if_neg e] at h1
      rw [if_neg (fun h => e h.symm)] at h2
      have h1 := of_decide_eq_false h1
      have h2 := of_decide_eq_false h2
      omega
theorem aheadK_asymm {a b : List Nat} (h : aheadK a b = true) : aheadK b a = false := by
  cases h2 : aheadK b a with
  | false => rfl
  | true => have := aheadK_trans a b a h h2; rw [aheadK_irrefl] at this; cases this
/-- what is not ahead of what is not ahead of a third one -/
theorem aheadK_neg {a b c : List Nat} (h1 : aheadK a b = false) (h2 : aheadK b c = false) : aheadK a c = false := by
  cases h : aheadK a c with
  | false => rfl
  | true =>
    cases h3 : aheadK b a with
    | true => have := aheadK_trans b a c h3 h; rw [h2] at this; cases this
    | false => have := aheadK_conn a b h1 h3; subst this; rw [h2] at h; cases h

theorem placeB_spec (evs : List EvR) (i : Nat) (out : List Nat) : ∀ k, k ≤ out.length → (∀ m v, placeB evs i out k ≤ m → m < k → out[m]? = some v → aheadK (keyAt evs i) (keyAt evs v) = true) ∧ (∀ v, 0 < placeB evs i out k → out[placeB evs i out k - 1]? = some v → aheadK (keyAt evs i) (keyAt evs v) = false)
  | 0, _ => ⟨fun m v h1 h2 => by omega, fun v h => absurd h (by show ¬ 0 < 0; omega)⟩
  | k + 1, hk => by
    obtain ⟨u, hu⟩ : ∃ u, out[k]? = some u := ⟨out[k]'(by omega), List.getElem?_eq_getElem (by omega)⟩
    obtain ⟨h1, h2⟩ := placeB_spec evs i out k (by omega)
    cases h : aheadK (keyAt evs i) (keyAt evs u) with
    | true =>
      rw [placeB_yes hu h]
      refine ⟨fun m v hm hmk hv => ?_, h2⟩
      by_cases e : m = k
      · subst e; rw [hu] at hv; cases hv; exact h
      · exact h1 m v hm (by omega) hv
    | false =>
      rw [placeB_no hu h]
      exact ⟨fun m v hm hmk hv => by omega, fun v _ hv => by rw [Nat.add_sub_cancel, hu] at hv; cases hv; exact h⟩
def SortedK (evs : List EvR) (l : List Nat) : Prop := l.Pairwise (fun i j => aheadK (keyAt evs j) (keyAt evs i) = false)
theorem take_mem' {out : List Nat} {p a : Nat} (h : a ∈ out.take p) : ∃ m, m < p ∧ out[m]? = some a := by
  obtain ⟨m, hm⟩ := List.mem_iff_getElem?.1 h
  rw [List.getElem?_take] at hm
  split at hm
  · next h => exact ⟨m, h, hm⟩
  · cases hm
theorem insB_sorted {evs : List EvR} {i : Nat} {out : List Nat} (h : SortedK evs out) : SortedK evs (insB evs i out) := by
  obtain ⟨h1, h2⟩ := placeB_spec evs i out out.length (Nat.le_refl _)
  have hp := placeB_le evs i out out.length
  generalize hpe : placeB evs i out out.length = p at h1 h2 hp
  unfold insB SortedK
  rw [hpe]
  have hsp : SortedK evs (out.take p ++ out.drop p) := by rw [List.take_append_drop]; exact h
  obtain ⟨s1, s2, s3⟩ := List.pairwise_append.1 hsp
  have before : ∀ a ∈ out.take p, aheadK (keyAt evs i) (keyAt evs a) = false := fun a ha => by
    obtain ⟨m, hm, hma⟩ := take_mem' ha
    obtain ⟨u, hu⟩ : ∃ u, out[p - 1]? = some u := ⟨out[p - 1]'(by omega), List.getElem?_eq_getElem (by omega)⟩
    have hiu := h2 u (by omega) hu
    by_cases e : m = p - 1
    · subst e; rw [hu] at hma; cases hma; exact hiu
    · have hua : aheadK (keyAt evs u) (keyAt evs a) = false := by
        have hs := List.pairwise_iff_getElem.1 h m (p - 1) (by omega) (by omega) (by omega)
        rw [List.getElem?_eq_getElem (by omega)] at hma hu
        cases hma; cases hu; exact hs
      exact aheadK_neg hiu hua
  have after : ∀ b ∈ out.drop p, aheadK (keyAt evs b) (keyAt evs i) = false := fun b hb => by
    obtain ⟨m, hm⟩ := List.mem_iff_getElem?.1 hb
    rw [List.getElem?_drop] at hm
    exact aheadK_asymm (h1 (p + m) b (by omega) (by have := (List.getElem?_eq_some_iff.1 hm).1; omega) hm)
  refine List.pairwise_append.2 ⟨s1, List.pairwise_cons.2 ⟨after, s2⟩, fun a ha b hb => ?_⟩
  rcases List.mem_cons.1 hb with rfl | hb
  · exact before a ha
  · exact s3 a ha b hb
theorem ordP_sorted (evs : List EvR) : ∀ n, SortedK evs (ordP evs n)
  | 0 => List.Pairwise.nil
  | i + 1 => by
    by_cases h : (keyAt evs i).length = 0
    · rw [ordP_none h]; exact ordP_sorted evs i
    · rw [ordP_some (by omega)]; exact insB_sorted (ordP_sorted evs i)
theorem insB_perm (evs : List EvR) (i : Nat) (out : List Nat) : (insB evs i out).Perm (out ++ [i]) := by
  unfold insB
  refine (List.perm_middle).trans ?_
  rw [List.take_append_drop]
  exact (List.perm_append_singleton i out).symm
/-- those that have keys -/
def keyed (evs : List EvR) (n : Nat) : List Nat := (List.range n).filter (fun i => decide (0 < (keyAt evs i).length))
theorem ordP_perm (evs : List EvR) : ∀ n, (ordP evs n).Perm (keyed evs n)
  | 0 => List.Perm.refl _
  | i + 1 => by
    have ih := ordP_perm evs i
    unfold keyed at *
    rw [List.range_succ, List.filter_append]
    by_cases h : (keyAt evs i).length = 0
    · rw [ordP_none h]
      have e : [i].filter (fun i => decide (0 < (keyAt evs i).length)) = [] := by simp [h]
      rw [e, List.append_nil]; exact ih
    · rw [ordP_some (by omega)]
      have e : [i].filter (fun i => decide (0 < (keyAt evs i).length)) = [i] := by simp; omega
      rw [e]
      exact (insB_perm evs i _).trans (ih.append_right _)
theorem ordP_nodup (evs : List EvR) (n : Nat) : (ordP evs n).Nodup := (ordP_perm evs n).nodup_iff.2 (List.nodup_range.sublist List.filter_sublist)
theorem ordP_mem {evs : List EvR} {n j : Nat} : j ∈ ordP evs n ↔ j < n ∧ 0 < (keyAt evs j).length := by
  rw [(ordP_perm evs n).mem_iff]
  unfold keyed
  simp
/-- of those ahead of the k-th one in order, so many are of a kind as keys stand ahead of its, if no two keys are alike -/
theorem ord_count {evs : List EvR} {n k j : Nat} (hj : (ordP evs n)[k]? = some j) (hd : ∀ a b, a < n → b < n → a ≠ b → 0 < (keyAt evs a).length → keyAt evs a ≠ keyAt evs b) (f : Nat → Bool) :
    ((ordP evs n).take k).countP f = (keyed evs n).countP (fun i => f i && aheadK (keyAt evs i) (keyAt evs j)) := by
  have hk := (List.getElem?_eq_some_iff.1 hj).1
  have hsplit : ordP evs n = (ordP evs n).take k ++ j :: (ordP evs n).drop (k + 1) := by
    have := List.drop_eq_getElem_cons hk
    rw [(List.getElem?_eq_some_iff.1 hj).2] at this
    rw [← this, List.take_append_drop]
  have hs := ordP_sorted evs n
  have hn := ordP_nodup evs n
  rw [← (ordP_perm evs n).countP_eq, show List.countP (fun i => f i && aheadK (keyAt evs i) (keyAt evs j)) (ordP evs n) = List.countP (fun i => f i && aheadK (keyAt evs i) (keyAt evs j)) ((ordP evs n).take k ++ j :: (ordP evs n).drop (k + 1)) by rw [← hsplit]]
  unfold SortedK at hs
  rw [hsplit] at hs hn
  obtain ⟨_, s2, s3⟩ := List.pairwise_append.1 hs
  obtain ⟨s4, _⟩ := List.pairwise_cons.1 s2
  obtain ⟨_, _, n3⟩ := List.nodup_append.1 hn
  have hmem : ∀ x, x ∈ (ordP evs n).take k → x < n ∧ 0 < (keyAt evs x).length := fun x hx => ordP_mem.1 (List.mem_of_mem_take hx)
  have hjm := ordP_mem.1 (List.mem_of_getElem? hj)
  rw [List.countP_append, List.countP_cons, if_neg (by rw [aheadK_irrefl]; simp), Nat.add_zero]
  have e1 : List.countP (fun i => f i && aheadK (keyAt evs i) (keyAt evs j)) ((ordP evs n).drop (k + 1)) = 0 := by
    rw [List.countP_eq_zero]
    intro b hb
    rw [s4 b hb]; simp
  rw [e1, Nat.add_zero]
  refine List.countP_congr fun x hx => ?_
  have hx1 := s3 x hx j List.mem_cons_self
  have hne : x ≠ j := n3 x hx j List.mem_cons_self
  have hxm := hmem x hx
  have hkd := hd x j hxm.1 hjm.1 hne hxm.2
  have ha : aheadK (keyAt evs x) (keyAt evs j) = true := by
    cases h : aheadK (keyAt evs x) (keyAt evs j) with
    | true => rfl
    | false => exact absurd (aheadK_conn _ _ h hx1) hkd
  rw [ha]; simp
end
section
open Go.RowKit
set_option linter.unusedVariables false
section
variable {M : Mach}
structure OneI (st : St M) : Prop where
  len : st.evs.length = st.ticks
  cur : ∀ p, st.cur p = none
  ev : ∀ (j : Nat) (v : Ev M), st.evs[j]? = some v → v.inv = j + 1 ∧ v.resp = j + 1 ∧ v.steps = 1
theorem OneI.turned (h1 : ∀ s q r t, ∃ a, (M.next s q r t).2.2 = some a) {cs : List CallV} {st : St M} (h : OneI st) (hw : Wf cs st) {p : Int} {i : Nat} {x : CallV} (hn : nowOf (thr cs) st.fin p = some i) (hx : cs[i]? = some x) : OneI (pickM cs st p) := by
  obtain ⟨e, v, g1, h2, h3, h4, h5⟩ := pickM_cases hw hn hx
  rw [h5]
  have hc := h.cur p
  have htu : st.turn i x p = st.tick.begin i x p := by unfold St.turn; rw [hc]
  have hcur : (st.turn i x p).cur p = some st.evs.length := by rw [htu]; exact updF_same _ _ _
  have hee : e = st.evs.length := by rw [g1] at hcur; exact Option.some.inj hcur
  have hte : (st.turn i x p).evs = st.evs ++ [⟨i, st.ticks + 1, 0, 0, ⟨0, 0, []⟩, [], (invQ st.s x).2⟩] := by rw [htu]; rfl
  have htc : ∀ q, q ≠ p → (st.turn i x p).cur q = st.cur q := fun q hq => by rw [htu]; exact updF_other _ _ hq
  have hvi : v.inv = st.ticks + 1 ∧ v.steps = 0 := by
    rw [hte, hee, List.getElem?_append_right (Nat.le_refl _), Nat.sub_self] at h2
    cases h2; exact ⟨rfl, rfl⟩
  have hev2 : ((st.turn i x p).step i p e v).evs = st.evs ++ [midEv (st.turn i x p) v] := by
    rw [step_evs, hte, hee]
    rw [List.set_append_right _ _ (Nat.le_refl _), Nat.sub_self]; rfl
  obtain ⟨t1, t2, t3⟩ := step_ticks (st := st.turn i x p) (i := i) (p := p) (e := e) (v := v)
  have htt : (st.turn i x p).ticks = st.ticks + 1 := turn_ticks
  obtain ⟨an, ha⟩ : ∃ an, (stepQ (st.turn i x p).s v.q (st.turn i x p).ws (st.turn i x p).cn (st.turn i x p).ticks).ans = some an := by
    cases v.q with
    | inl q => exact h1 _ _ _ _
    | inr e => exact ⟨_, rfl⟩
  have hcu : ((st.turn i x p).step i p e v).cur = updF (st.turn i x p).cur p none := by unfold St.step; rw [ha]
  refine ⟨?_, fun q => ?_, fun j u hu => ?_⟩
  · rw [t1, htt, hev2, List.length_append, h.len]; rfl
  · rw [hcu]
    by_cases hq : q = p
    · subst hq; exact updF_same _ _ _
    · rw [updF_other _ _ hq, htc q hq]; exact h.cur q
  · rw [hev2] at hu
    rcases snoc_get hu with ⟨rfl, rfl⟩ | ⟨hk, hu'⟩
    · rw [midEv_done ha]
      refine ⟨?_, ?_, ?_⟩
      · show v.inv = _; rw [hvi.1, h.len]
      · show (st.turn i x p).ticks = _; rw [htt, h.len]
      · show v.steps + 1 = 1; rw [hvi.2]
    · exact h.ev j u hu'
theorem oneI_end (h1 : ∀ s q r t, ∃ a, (M.next s q r t).2.2 = some a) (cs : List CallV) (ws : List Nat) (s : M.S) (picks : List Int) : OneI (endM (M := M) cs ws s picks) :=
  (foldM (R := fun st => Wf cs st ∧ OneI st) (fun st p h => ⟨h.1.pick p, by
    cases hn : nowOf (thr cs) st.fin p with
    | none => rw [pickM_idle hn]; exact ⟨h.2.len, h.2.cur, h.2.ev⟩
    | some i =>
      have hil := (now_open hn).1
      rw [thr_len] at hil
      exact h.2.turned h1 h.1 hn (List.getElem?_eq_getElem hil)⟩) picks _
    ⟨Wf.first cs ws s, ⟨rfl, fun p => rfl, fun j v hv => by simp [stM] at hv⟩⟩).2
end
end
end Go.Proofs.Ytpoebpnmbogmnaa
