/- Walk of Order: the numbers of events that have keys, those whose keys stand ahead first. -/
import Derived.Test.YtihhjbcphdnkhaaQH
namespace Go.Proofs.Ytihhjbcphdnkhaa
open Go.ChangeShapes Go.WideShapes Go.ChangeAt Go.RowKit
set_option linter.unusedVariables false

def keyAt (evs : List EvR) (i : Nat) : List Nat := match evs[i]? with | some x => x.key | none => []
theorem keyAt_some {evs : List EvR} {i : Nat} {x : EvR} (h : evs[i]? = some x) : keyAt evs i = x.key := by unfold keyAt; rw [h]
def placeB (evs : List EvR) (i : Nat) (out : List Nat) : Nat → Nat
  | 0 => 0
  | k + 1 => match aheadK (keyAt evs i) (keyAt evs (out[k]?.getD 0)) with | true => placeB evs i out k | false => k + 1
def insB (evs : List EvR) (i : Nat) (out : List Nat) : List Nat := out.take (placeB evs i out out.length) ++ i :: out.drop (placeB evs i out out.length)
def ordP (evs : List EvR) : Nat → List Nat
  | 0 => []
  | i + 1 => match (keyAt evs i).length with | 0 => ordP evs i | _ + 1 => insB evs i (ordP evs i)
theorem ordP_none {evs : List EvR} {i : Nat} (h : (keyAt evs i).length = 0) : ordP evs (i + 1) = ordP evs i := by
  show (match (keyAt evs i).length with | 0 => ordP evs i | _ + 1 => insB evs i (ordP evs i)) = _
  rw [h]
theorem ordP_some {evs : List EvR} {i : Nat} (h : 0 < (keyAt evs i).length) : ordP evs (i + 1) = insB evs i (ordP evs i) := by
  obtain ⟨m, hm⟩ : ∃ m, (keyAt evs i).length = m + 1 := ⟨(keyAt evs i).length - 1, by omega⟩
  show (match (keyAt evs i).length with | 0 => ordP evs i | _ + 1 => insB evs i (ordP evs i)) = _
  rw [hm]
theorem placeB_yes {evs : List EvR} {i k v : Nat} {out : List Nat} (hv : out[k]? = some v) (h : aheadK (keyAt evs i) (keyAt evs v) = true) : placeB evs i out (k + 1) = placeB evs i out k := by
  show (match aheadK (keyAt evs i) (keyAt evs (out[k]?.getD 0)) with | true => placeB evs i out k | false => k + 1) = _
  rw [hv]; simp [h]
theorem placeB_no {evs : List EvR} {i k v : Nat} {out : List Nat} (hv : out[k]? = some v) (h : aheadK (keyAt evs i) (keyAt evs v) = false) : placeB evs i out (k + 1) = k + 1 := by
  show (match aheadK (keyAt evs i) (keyAt evs (out[k]?.getD 0)) with | true => placeB evs i out k | false => k + 1) = _
  rw [hv]; simp [h]
theorem placeB_le (evs : List EvR) (i : Nat) (out : List Nat) : ∀ k, placeB evs i out k ≤ k
  | 0 => Nat.le_refl _
  | k + 1 => by
    show (match aheadK (keyAt evs i) (keyAt evs (out[k]?.getD 0)) with | true => placeB evs i out k | false => k + 1) ≤ _
    cases aheadK (keyAt evs i) (keyAt evs (out[k]?.getD 0)) with
    | true => exact Nat.le_succ_of_le (placeB_le evs i out k)
    | false => exact Nat.le_refl _
theorem hole_len (out : List Nat) (k h : Nat) (hk : k ≤ out.length) : (out.take k ++ h :: out.drop k).length = out.length + 1 := by simp; omega
theorem hole_get {out : List Nat} {k h v : Nat} (hv : out[k]? = some v) : (out.take (k + 1) ++ h :: out.drop (k + 1))[k]? = some v := by
  have hk := (List.getElem?_eq_some_iff.1 hv).1
  rw [List.getElem?_append_left (by simp; omega), List.getElem?_take_of_lt (Nat.lt_succ_self _)]; exact hv
theorem hole_set (out : List Nat) (k h x : Nat) (hk : k ≤ out.length) : (out.take k ++ h :: out.drop k).set k x = out.take k ++ x :: out.drop k := by
  rw [List.set_append_right _ _ (by simp; omega)]; simp [Nat.min_eq_left hk]
theorem hole_shift {out : List Nat} {k h v : Nat} (hv : out[k]? = some v) : (out.take (k + 1) ++ h :: out.drop (k + 1)).set (k + 1) v = out.take k ++ v :: out.drop k := by
  obtain ⟨hk, e⟩ := List.getElem?_eq_some_iff.1 hv
  rw [hole_set _ _ _ _ (by omega), List.drop_eq_getElem_cons hk, e, take_snoc hv, List.append_assoc]; rfl
theorem hole_mid {out : List Nat} {k h : Nat} (hk : k ≤ out.length) : (out.take k ++ h :: out.drop k)[k]? = some h := by
  rw [List.getElem?_append_right (by simp; omega)]; simp [Nat.min_eq_left hk]
theorem hole_end (out : List Nat) (i : Nat) : out ++ [i] = out.take out.length ++ i :: out.drop out.length := by simp
theorem insB_len (evs : List EvR) (i : Nat) (out : List Nat) : (insB evs i out).length = out.length + 1 := hole_len _ _ _ (placeB_le _ _ _ _)
theorem insB_mem {evs : List EvR} {i x : Nat} {out : List Nat} (h : x ∈ insB evs i out) : x = i ∨ x ∈ out := by
  unfold insB at h
  rcases List.mem_append.1 h with h | h
  · exact .inr (List.mem_of_mem_take h)
  · rcases List.mem_cons.1 h with h | h
    · exact .inl h
    · exact .inr (List.mem_of_mem_drop h)
theorem ordP_len (evs : List EvR) : ∀ i, (ordP evs i).length ≤ i
  | 0 => Nat.le_refl _
  | i + 1 => by
    have := ordP_len evs i
    by_cases h : (keyAt evs i).length = 0
    · rw [ordP_none h]; omega
    · rw [ordP_some (by omega), insB_len]; omega
theorem ordP_lt (evs : List EvR) : ∀ i, ∀ x ∈ ordP evs i, x < i
  | 0, x, h => by cases h
  | i + 1, x, h => by
    by_cases hk : (keyAt evs i).length = 0
    · rw [ordP_none hk] at h; exact Nat.lt_succ_of_lt (ordP_lt evs i x h)
    · rw [ordP_some (by omega)] at h
      rcases insB_mem h with rfl | h
      · exact Nat.lt_succ_self _
      · exact Nat.lt_succ_of_lt (ordP_lt evs i x h)

/-- a number put into a row of the call's own -/
theorem owns_store {w : World} {B g n cap : Nat} {e : TypeId} {l : List Nat} (h : w.ownsRow B e 1 (.slice (some ⟨g, 0, none⟩) n cap) n (nums l)) (i x : Nat) :
    (w.setCell ⟨g, i, none⟩ (.int .i64 (x : Int))).ownsRow B e 1 (.slice (some ⟨g, 0, none⟩) n cap) n (nums (l.set i x)) := by
  obtain ⟨h1, ⟨h2, _⟩ | ⟨g', cap', cur, hv, hg, hb, h3, h4, h5, h6⟩⟩ := h
  · cases h2
  · cases hv
    refine ⟨by rw [← h1]; simp [nums], .inr ⟨g, cap, cur.setIfInBounds i (.int .i64 (x : Int)), rfl, hg, ?_, h3, h4, by simp [h5], ?_⟩⟩
    · simp [World.setCell, Array.getElem?_modify, hb]
    · rw [Array.toList_setIfInBounds, List.take_set, h6]; unfold nums; rw [List.map_set]
theorem owns_free {w : World} {B g n cap : Nat} {e : TypeId} {xs : List Value} (h : w.ownsRow B e 1 (.slice (some ⟨g, 0, none⟩) n cap) n xs) (i : Nat) : w.frozen? ⟨g, i, none⟩ = false := by
  obtain ⟨_, ⟨h2, _⟩ | ⟨g', cap', cur, hv, hg, hb, _⟩⟩ := h
  · cases h2
  · cases hv; simp [World.frozen?, hb]
theorem owns_slice {w : World} {B n : Nat} {e : TypeId} {v : Value} {xs : List Value} (h : w.ownsRow B e 1 v n xs) (hv : v = .slice none 0 0 → False) : ∃ g cap, v = .slice (some ⟨g, 0, none⟩) n cap ∧ B ≤ g ∧ g < w.heap.size := by
  have hlt := h.lt
  obtain ⟨_, ⟨h2, _⟩ | ⟨g, cap, cur, rfl, hg, hb, _⟩⟩ := h
  · exact absurd h2 hv
  · exact ⟨g, cap, rfl, hg, (hlt g rfl).2⟩
theorem owns_at {w : World} {B g n cap : Nat} {e : TypeId} {xs : List Value} (h : w.ownsRow B e 1 (.slice (some ⟨g, 0, none⟩) n cap) n xs) {i : Nat} {u : Value} (hu : xs[i]? = some u) : w.cell? ⟨g, i, none⟩ = some u := by
  have := h.cells (g := g) rfl i u hu
  by_cases hi : i = 0
  · subst hi; simpa [Addr.add] using this
  · simpa [Addr.add, hi] using this

theorem order_put {W : World} {B g cap i k h : Nat} {e : TypeId} {evs : List EvR} {out : List Nat} (hO : W.ownsRow B e 1 (.slice (some ⟨g, 0, none⟩) (out.length + 1) cap) (out.length + 1) (nums (out.take k ++ h :: out.drop k))) (hk : k ≤ out.length) (hN : ordP evs (i + 1) = insB evs i out) (hP : placeB evs i out out.length = k) :
    (W.setCell ⟨g, k, none⟩ (.int .i64 (i : Int))).ownsRow B e 1 (.slice (some ⟨g, 0, none⟩) (out.length + 1) cap) (ordP evs (i + 1)).length (nums (ordP evs (i + 1))) := by
  have h1 := owns_store hO k i
  rw [hole_set _ _ _ _ hk] at h1
  rw [hN, insB_len]
  unfold insB
  rw [hP]
  exact h1

theorem nums_get1 {l : List Nat} {i x : Nat} (h : l[i]? = some x) : (nums l)[i]? = some (.int .i64 (x : Int)) := by unfold nums; rw [List.getElem?_map, h]; rfl

/-- what Order gives -/
def OrderOut (evs : List EvR) (w : World) (e : Ending) (w' : World) : Prop := ∃ v, e = .returned v ∧ w'.ownsRow w.heap.size 3 1 v (ordP evs evs.length).length (nums (ordP evs evs.length)) ∧ Below w.heap.size w w'

set_option maxRecDepth 20000 in
set_option maxHeartbeats 2000000 in
theorem order_any (aoE : Option Addr) (gE capE : Nat) (evs : List EvR) (B : Nat) (w : World) (hao : 0 < evs.length → aoE = some ⟨gE, 0, none⟩) (hev : EvAllG B w gE evs) (hel : evs.length ≤ 70000) :
    Calls Try.prog 9 #[.slice aoE evs.length capE] w (OrderOut evs w) := by
  obtain ⟨iI, ia, ib, ic, id⟩ := info_parts infoIu
  have HAO := Lib.hid hao
  have HEV : Hid (∀ W, Below w.heap.size w W → EvAllG B W gE evs) := Lib.hid (fun W hW => hev.below hW (Nat.le_refl _))
  clear hao hev
  go_enter Try.func9, Try.ntmps9
  go_wp2_with fail
  go_loopw [3, 8] (fun v k wr => ∃ (i : Nat), i ≤ evs.length ∧ k = .int .i64 i ∧ Hid (wr.ownsRow w.heap.size 3 1 v (ordP evs i).length (nums (ordP evs i))) ∧ Hid (Below w.heap.size w wr)) (fun _ k _ => evs.length - (intOf k).toNat)
  case atStart => exact ⟨0, Nat.zero_le _, rfl, Lib.hid (World.ownsRow_nil _ _ _ _), Lib.hid (Below.refl _ _)⟩
  case round =>
    obtain ⟨i, hi, rfl, hO, hB⟩ := hrel
    have hsz := hB.out.size
    by_cases hlt : i < evs.length
    · obtain rfl := HAO.out (by omega)
      obtain ⟨x, hx⟩ : ∃ x, evs[i]? = some x := ⟨evs[i], List.getElem?_eq_getElem hlt⟩
      obtain ⟨_, la, ka, lc, kc, hv⟩ := HEV.out wr hB.out i x hx
      have HKX := Lib.hid (keyAt_some hx)
      have HX := Lib.hid hx
      have v7 := hv.c7
      have hi0 : (0 : Int) ≤ (i : Int) := Int.natCast_nonneg _
      have hi1 : (i : Int) < (evs.length : Int) := by omega
      have hol := ordP_len evs i
      clear hv hx
      by_cases hk : x.key.length = 0
      · have hk2 : (x.key.length : Int) = 0 := by omega
        have HN : Hid (ordP evs (i + 1) = ordP evs i) := Lib.hid (ordP_none (by rw [HKX.out]; exact hk))
        go_wp2_with fail
        go_roundw
        case rel => exact ⟨i + 1, by omega, by go_num, by rw [HN.out]; exact hO, hB⟩
        case measure => simp [intOf]; omega
      · have hk2 : ¬ (x.key.length : Int) = 0 := by omega
        have HN : Hid (ordP evs (i + 1) = insB evs i (ordP evs i)) := Lib.hid (ordP_some (by rw [HKX.out]; omega))
        obtain ⟨out, hout⟩ : ∃ out, ordP evs i = out := ⟨_, rfl⟩
        rw [hout] at hO HN hol
        have HLT : Hid (∀ y ∈ out, y < i) := Lib.hid (by rw [← hout]; exact ordP_lt evs i)
        clear hout
        obtain ⟨ao0, g0, cap0, hv0, _⟩ := owns_open hO.out
        subst hv0
        have hO1 := hO.out
        have hj' : out.length ≤ 4294967296 := by omega
        go_wp2_with (at_builtin; refine append_new rfl _ _ 24 rfl w.heap.size 3 iI (.int .i64 0) 1 8 Try.underlying24 ia ib ic id rfl (by decide) (by decide) _ out.length _ rfl hO1 [.int .i64 (i : Int)] rfl rfl rfl hj' hsz ?_)
        intro v1 w1 ho1 hb1 _ hnn
        obtain ⟨g, cap, rfl, hgB, hgl⟩ := owns_slice ho1 hnn
        have HO1 : Hid (w1.ownsRow w.heap.size 3 1 (.slice (some ⟨g, 0, none⟩) (out.length + 1) cap) (out.length + 1) (nums (out.take out.length ++ i :: out.drop out.length))) := Lib.hid (by rw [← hole_end]; unfold nums; rw [List.map_append]; exact ho1)
        have HB1 : Hid (Below w.heap.size w w1) := Lib.hid (hB.out.trans hb1)
        clear ho1 hb1 hO1 hnn v7 hO hB
        go_wp2_with fail
        go_loopw [5] (fun k wr => ∃ (k0 h : Nat), k0 ≤ out.length ∧ k = .int .i64 k0 ∧ Hid (wr.ownsRow w.heap.size 3 1 (.slice (some ⟨g, 0, none⟩) (out.length + 1) cap) (out.length + 1) (nums (out.take k0 ++ h :: out.drop k0))) ∧ Hid (placeB evs i out k0 = placeB evs i out out.length) ∧ Hid (Below w.heap.size w wr)) (fun k _ => (intOf k).toNat)
        case atStart => exact ⟨out.length, i, Nat.le_refl _, rfl, HO1, Lib.hid rfl, HB1⟩
        case round =>
          obtain ⟨k0, h, hk0, rfl, hO, hP, hB⟩ := hrel
          have hsz := hB.out.size
          have hgl := hO.out.lt g rfl
          have hgl2 := hgl.2
          clear hgl
          have f1 : ∀ j, wr.frozen? ⟨g, j, none⟩ = false := fun j => owns_free hO.out j
          rcases Nat.eq_zero_or_pos k0 with hz | hpos
          · subst hz
            have hc0 : wr.cell? ⟨g, 0, none⟩ = some (.int .i64 (h : Int)) := owns_at hO.out (by simp [nums])
            have n1 : decide ((0 : Int) > 0) = false := by decide
            have n2 : decide ((0 : Int) < 0) = false := by decide
            go_wp2_with fail
            go_quiet (fail)
            go_wp2_with fail
            go_roundw
            case rel => exact ⟨i + 1, by omega, by go_num, Lib.hid (order_put (owns_drewN hO.out _) (Nat.zero_le _) HN.out (by rw [← hP.out]; rfl)), Lib.hid ((below_drewN hB.out _).setCell hgB _)⟩
            case measure => simp [intOf]; omega
          · obtain ⟨k, rfl⟩ : ∃ k, k0 = k + 1 := ⟨k0 - 1, by omega⟩
            obtain ⟨v, hv⟩ : ∃ v, out[k]? = some v := ⟨out[k]'(by omega), List.getElem?_eq_getElem (by omega)⟩
            have HV := Lib.hid hv
            have hvi : v < i := HLT.out v (List.mem_of_getElem? hv)
            obtain ⟨y, hy⟩ : ∃ y, evs[v]? = some y := ⟨evs[v]'(by omega), List.getElem?_eq_getElem (by omega)⟩
            obtain ⟨_, la, ka, lc, kc, hev1⟩ := HEV.out wr hB.out i x HX.out
            obtain ⟨_, la2, kb, lc2, kd, hev2⟩ := HEV.out wr hB.out v y hy
            have HKY := Lib.hid (keyAt_some hy)
            have v7 := hev1.c7
            have y7 := hev2.c7
            have HAH : Hid (∀ q, Calls Try.prog 16 #[.slice ka x.key.length kc, .slice kb y.key.length kd] (wr.drewN q) fun e w' => e = .returned (.bool (aheadK x.key y.key)) ∧ ∃ m, w' = (wr.drewN q).drewN m) :=
              Lib.hid (fun q => ahead_any ka kb kc kd x.key y.key _ _ (wr.drewN q) hev1.key hev2.key)
            have c1 : wr.cell? ⟨g, k, none⟩ = some (.int .i64 (v : Int)) := owns_at hO.out (nums_get1 (hole_get hv))
            have e1 : ((k + 1 : Nat) : Int) - 1 = (k : Int) := by omega
            have e2 : ((k : Int) + 1) - 1 = (k : Int) := by omega
            have hkb : (k : Int) ≤ 70000 := by omega
            have e3 : IntKind.i64.wrap (k : Int) = (k : Int) := by unfold IntKind.wrap; simp [IntKind.bits, IntKind.signed]; omega
            have n1 : decide (((k + 1 : Nat) : Int) > 0) = true := decide_eq_true (by omega)
            have n2 : decide ((0 : Int) < (k : Int) + 1) = true := decide_eq_true (by omega)
            have n3 : (0 : Int) < (k : Int) + 1 := by omega
            have m1 : (0 : Int) ≤ (k : Int) := Int.natCast_nonneg _
            have m2 : (k : Int) < (out.length : Int) + 1 := by omega
            have c2 : wr.cell? ⟨g, k + 1, none⟩ = some (.int .i64 (h : Int)) := owns_at hO.out (nums_get1 (hole_mid (by omega)))
            have m5 : (0 : Int) ≤ (k : Int) + 1 := by omega
            have m6 : (k : Int) + 1 < (out.length : Int) + 1 := by omega
            have m7 : ((k + 1 : Nat) : Int) < ((out.length + 1 : Nat) : Int) := by omega
            have m3 : (0 : Int) ≤ (v : Int) := Int.natCast_nonneg _
            have m4 : (v : Int) < (evs.length : Int) := by omega
            clear hv hy hev1 hev2
            cases hb : aheadK x.key y.key with
            | true =>
              have HB := Lib.hid hb
              rw [hb] at HAH
              clear hb
              go_wp2_with fail
              go_quiet ((go_at_call 16; (with_reducible refine call_quiet (fun q => ?_) (HAH.out _)); exact ⟨_, by rw [World.drewN_drewN]⟩))
              go_wp2_with fail
              go_roundw
              case rel => exact ⟨k, v, by omega, rfl, Lib.hid (by rw [← hole_shift (h := h) HV.out]; exact owns_store (owns_drewN hO.out _) (k + 1) v), Lib.hid (by rw [← placeB_yes HV.out (by rw [HKX.out, HKY.out]; exact HB.out)]; exact hP.out), Lib.hid ((below_drewN hB.out _).setCell hgB _)⟩
              case measure => simp [intOf]
            | false =>
              have HB := Lib.hid hb
              rw [hb] at HAH
              clear hb
              go_wp2_with fail
              go_quiet ((go_at_call 16; (with_reducible refine call_quiet (fun q => ?_) (HAH.out _)); exact ⟨_, by rw [World.drewN_drewN]⟩))
              go_wp2_with fail
              go_roundw
              case rel => exact ⟨i + 1, by omega, by go_num, Lib.hid (order_put (owns_drewN hO.out _) hk0 HN.out (by rw [← hP.out, placeB_no HV.out (by rw [HKX.out, HKY.out]; exact HB.out)])), Lib.hid ((below_drewN hB.out _).setCell hgB _)⟩
              case measure => simp [intOf]; omega
    · have : i = evs.length := by omega
      subst this
      go_wp2_with fail
      go_ret
      exact ⟨_, rfl, hO.out, hB.out⟩
end Go.Proofs.Ytihhjbcphdnkhaa
