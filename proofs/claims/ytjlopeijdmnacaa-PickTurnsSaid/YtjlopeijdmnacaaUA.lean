/- Walk of the law PickLines. -/
import Derived.Test.YtjlopeijdmnacaaU9
namespace Go.Proofs.Ytjlopeijdmnacaa
open Go.RowKit

theorem left_start {n : Int} {cs : List CallV} (h : wrongL n (thr cs) = 0) : leftOf' (ownL (thr cs) (List.replicate cs.length false)) = cs.length := by
  have h1 := wrongL_inv h
  rw [← thr_len, ← ownU_all]
  exact sumN_ownU (fun t ht => by have := h1.2.2 t ht; omega) _ (Nat.le_refl _)
theorem left_step {ts : List Int} {fin : List Bool} {p : Int} {i : Nat} (h : nowOf ts fin p = some i) (hp : 0 ≤ p ∧ p < 16) : leftOf' (ownL ts (fin.set i true)) + 1 = leftOf' (ownL ts fin) := by
  rw [own_set_fun h]
  unfold leftOf'
  have e : (fun q => (updF (ownL ts fin) p (ownL ts fin p).tail q).length) = updF (fun q => (ownL ts fin q).length) p ((ownL ts fin p).tail.length) := by
    funext q
    by_cases hq : q = p
    · subst hq; rw [updF_same, updF_same]
    · rw [updF_other _ _ hq, updF_other _ _ hq]
  rw [e]
  have h1 := sumN_upd (n := 16) (g := fun q => (ownL ts fin q).length) hp.1 hp.2 ((ownL ts fin p).tail.length)
  have h2 : (ownL ts fin p).length = (ownL ts fin p).tail.length + 1 := by
    have := congrArg List.length (now_cons h)
    rw [this, List.length_cons]
  omega

set_option maxRecDepth 100000 in
theorem lines_long (n : Int) (a1 a2 : Option Addr) (l1 c1 l2 c2 : Nat) (w : World) (h : 1100 < l1 ∨ 1000 < l2) :
    Calls Try.prog 3 #[.int .i64 n, .slice a1 l1 c1, .slice a2 l2 c2] w fun e w' => e = .returned (.bool true) ∧ Below w.heap.size w w' := by
  go_enter Try.func3, Try.ntmps3
  by_cases h1 : 1100 < l1
  · go_wp2_with fail
    refine (pair_any _).mono ?_
    rintro e w1 ⟨rfl, hb⟩
    go_wp2_with fail
    go_ret
    exact ⟨rfl, hb⟩
  · have h2 : 1000 < l2 := by omega
    go_wp2_with fail
    refine (pair_any _).mono ?_
    rintro e w1 ⟨rfl, hb⟩
    go_wp2_with fail
    go_ret
    exact ⟨rfl, hb⟩

/-- what holds between two finishings -/
structure LinesSt (cs : List CallV) (w : World) (lb mb gf : Nat) (j : Nat) (fin : List Bool) (left : Nat) (wr : World) : Prop where
  line : ∃ f N, LineIs wr gf lb mb N f (ownL (thr cs) fin) ∧ N ≤ cs.length + j
  blk : RowBlk 4 wr gf (boolVs fin)
  lfin : fin.length = cs.length
  lft : left = leftOf' (ownL (thr cs) fin)
  lle : left ≤ 1100
  below : Below w.heap.size w wr
  size : gf < wr.heap.size

theorem row_but {w w' : World} {mb g : Nat} {t : TypeId} {vs : List Value} (h : RowBlk t w g vs) (hb : But mb mb w w') (hne : g ≠ mb) : RowBlk t w' g vs := h.same (hb.block g h.lt hne hne)

set_option maxRecDepth 100000 in
set_option maxHeartbeats 4000000 in
theorem lines_walk (n : Int) (ao : Option Addr) (b o cap : Nat) (cs : List CallV) (ao3 : Option Addr) (b3 o3 cap3 : Nat) (ps : List Int) (w : World) (hcl : cs.length ≤ 1100) (hpl : ps.length ≤ 1000)
    (ha : 0 < cs.length → ao = some ⟨b, o, none⟩) (hb : 0 < cs.length → b < w.heap.size) (hc : CallsAt w b o cs)
    (ha3 : 0 < ps.length → ao3 = some ⟨b3, o3, none⟩) (hb3 : 0 < ps.length → b3 < w.heap.size) (hc3 : ICells w b3 o3 ps) :
    Calls Try.prog 3 #[.int .i64 n, .slice ao cs.length cap, .slice ao3 ps.length cap3] w fun e w' => e = .returned (.bool true) ∧ Below w.heap.size w w' := by
  have HNEW := Lib.hid (new_any n ao b o cap cs w ha hb hc)
  have HA := Lib.hid ha
  have HB := Lib.hid hb
  have HC := Lib.hid hc
  have HA3 := Lib.hid ha3
  have HB3 := Lib.hid hb3
  have HC3 := Lib.hid hc3
  clear hc ha hb ha3 hb3 hc3
  go_enter Try.func3, Try.ntmps3
  go_wp2_with fail
  refine HNEW.out.mono ?_
  rintro e w1 ⟨hw, hok, hbl⟩
  have HBl := Lib.hid hbl
  have hs1 := hbl.size
  have HC1 : Hid (CallsAt w1 b o cs) := Lib.hid (HC.out.stays hbl HB.out)
  by_cases h0 : wrongL n (thr cs) = 0
  · obtain ⟨lb, mb, f, rfl, hlb, hmb, hline⟩ := hok h0
    have H0 := Lib.hid h0
    have HLn := Lib.hid hline
    clear hw hok hline hbl h0
    go_wp2_with fail
    refine (refWrong_any n ao b o cap cs w1 (by omega) HA.out HC1.out).mono ?_
    rintro e w2 ⟨rfl, rfl⟩
    rw [H0.out]
    have hmk := run_mkB cs.length (by omega)
    have HT0 : Hid (LinesSt cs w lb mb w1.heap.size 0 (List.replicate cs.length false) cs.length (w1.alloc (.cells (boolVs (List.replicate cs.length false)).toArray 4))) := Lib.hid
      ⟨⟨f, cs.length, HLn.out.stays ((Below.refl _ _).alloc (Nat.le_refl _) _) (Nat.le_refl _), Nat.le_refl _⟩, RowBlk.new _ _ _, by simp, (left_start H0.out).symm, hcl, HBl.out.alloc hs1 _, by simp⟩
    go_wp2_with fail
    generalize w1.alloc (.cells (boolVs (List.replicate cs.length false)).toArray 4) = w2 at HT0 ⊢
    generalize w1.heap.size = gf at HT0 hs1 HLn ⊢
    go_loopw [11, 63] (fun x k wr => ∃ (j : Nat) (fin : List Bool) (left : Nat), j ≤ ps.length ∧ k = .int .i64 j ∧ x = .int .i64 left ∧ Hid (LinesSt cs w lb mb gf j fin left wr)) (fun _ k _ => ps.length - (intOf k).toNat)
    case atStart => exact ⟨0, _, _, Nat.zero_le _, rfl, rfl, HT0⟩
    case round =>
      obtain ⟨j, fin, left, hj, rfl, rfl, hT⟩ := hrel
      have hlf := hT.out.lfin
      have hll := hT.out.lle
      by_cases hlt : j < ps.length
      · obtain rfl := HA3.out (by omega)
        obtain ⟨p, hp⟩ : ∃ x, ps[j]? = some x := ⟨ps[j], List.getElem?_eq_getElem (by omega)⟩
        obtain ⟨c3, hpb⟩ := (HC3.out.stays hT.out.below HB3.out) j _ hp
        obtain ⟨f1, N, hl1, hN1⟩ := hT.out.line
        have HL1 := Lib.hid hl1
        have hwsz := hT.out.size
        have HCN := Lib.hid (refNow_any p ao b o cap cs (some ⟨gf, 0, none⟩) gf 0 cs.length fin wr (by omega) hlf HA.out (HC.out.stays hT.out.below HB.out) (fun _ => rfl) hT.out.blk.bools)
        rw [hlf] at HCN
        clear hp hl1
        cases hnow : nowOf (thr cs) fin p with
        | none =>
          have HNI := Lib.hid (nowI_none hnow)
          have HOW := Lib.hid (now_nil.1 hnow)
          clear hnow
          rw [HNI.out] at HCN
          go_wp2_with fail
          refine HCN.out.mono ?_
          rintro e w3 ⟨rfl, rfl⟩
          go_wp2_with fail
          refine (now_done p _ HL1.out hpb HOW.out).mono ?_
          rintro e w3 ⟨rfl, rfl⟩
          go_wp2_with fail
          refine (finish_done p _ HL1.out hpb HOW.out).mono ?_
          rintro e w3 ⟨rfl, rfl⟩
          go_wp2_with fail
          go_roundw
          case rel => exact ⟨j + 1, fin, left, by omega, by go_num, rfl, Lib.hid ⟨⟨f1, N, HL1.out, by omega⟩, hT.out.blk, hlf, hT.out.lft, hll, hT.out.below, hwsz⟩⟩
          case measure => simp [intOf]; omega
        | some i =>
          have HNI := Lib.hid (nowI_some hnow)
          have HOW := Lib.hid (now_cons hnow)
          have HNW := Lib.hid hnow
          have hi := (now_open hnow).1
          rw [thr_len] at hi
          have hi0 : (0 : Int) ≤ (i : Int) := Int.natCast_nonneg _
          have hi1 : (i : Int) < (cs.length : Int) := by omega
          have hpd := HL1.out.dom p (by rw [HOW.out]; simp)
          have HLV : Hid (((left : Nat) : Int) - 1 = ((leftOf' (ownL (thr cs) (fin.set i true)) : Nat) : Int) ∧ leftOf' (ownL (thr cs) (fin.set i true)) ≤ 1100) := Lib.hid (by
            have hls := left_step hnow hpd
            have hlft := hT.out.lft
            omega)
          clear hnow
          rw [HNI.out] at HCN
          go_wp2_with fail
          refine HCN.out.mono ?_
          rintro e w3 ⟨rfl, rfl⟩
          go_wp2_with fail
          refine (now_at p _ HL1.out hpb HOW.out).mono ?_
          rintro e w3 ⟨rfl, rfl⟩
          go_wp2_with fail
          refine (finish_at p _ HL1.out (by omega) (by unfold maxLen; omega) HOW.out).mono ?_
          rintro e w4 ⟨rfl, ⟨f4, hl4⟩, hb4⟩
          have hmg : mb < gf := HL1.out.lt2
          have HF4 : Hid (RowBlk 4 w4 gf (boolVs fin)) := Lib.hid (row_but hT.out.blk hb4 (by omega))
          have HL4 := Lib.hid hl4
          have hs4 := hb4.size
          have HB4 : Hid (Below w.heap.size w w4) := Lib.hid (hT.out.below.trans (hb4.below hmb hmb (by omega)))
          have cf : w4.cell? ⟨gf, i, none⟩ = some (.bool false) := HF4.out.cell (boolVs_get (now_open HNW.out).2.2)
          have ff : w4.frozen? ⟨gf, i, none⟩ = false := HF4.out.free
          have HF5 : Hid (RowBlk 4 (w4.setCell ⟨gf, i, none⟩ (.bool true)) gf (boolVs (fin.set i true))) := Lib.hid (by rw [← boolVs_set]; exact HF4.out.put i _)
          have HL5 : Hid (LineIs (w4.setCell ⟨gf, i, none⟩ (.bool true)) gf lb mb (N + 1) f4 (ownL (thr cs) (fin.set i true))) := Lib.hid (by
            rw [own_set_fun HNW.out]
            exact HL4.out.stays (B := gf) ((Below.refl gf w4).setCell (show gf ≤ (⟨gf, i, none⟩ : Addr).block from Nat.le_refl _) _) (Nat.le_refl _))
          have HB5 : Hid (Below w.heap.size w (w4.setCell ⟨gf, i, none⟩ (.bool true))) := Lib.hid (HB4.out.setCell (show w.heap.size ≤ (⟨gf, i, none⟩ : Addr).block from hs1) _)
          have hs5 : (w4.setCell ⟨gf, i, none⟩ (.bool true)).heap.size = w4.heap.size := by simp [World.setCell]
          clear hl4 hb4 c3
          go_wp2_with fail
          generalize w4.setCell ⟨gf, i, none⟩ (.bool true) = w5 at HF5 HL5 HB5 hs5 ⊢
          refine (left_any w5 HL5.out (by omega) (by have := HLV.out.2; omega)).mono ?_
          rintro e w6 ⟨rfl, hb6⟩
          have hs6 := hb6.size
          have HT6 : Hid (LinesSt cs w lb mb gf (j + 1) (fin.set i true) (leftOf' (ownL (thr cs) (fin.set i true))) w6) := Lib.hid
            ⟨⟨f4, N + 1, HL5.out.stays hb6 (by omega), by omega⟩, HF5.out.same (hb6.block gf (by omega)), by rw [List.length_set]; exact hlf, rfl, HLV.out.2, HB5.out.trans (hb6.mono (by omega)), by omega⟩
          clear hb6
          rw [HLV.out.1]
          go_wp2_with fail
          go_roundw
          case rel => exact ⟨j + 1, _, _, by omega, by go_num, rfl, HT6⟩
          case measure => simp [intOf]; omega
      · have hBw := hT.out.below
        have HBw := Lib.hid hBw
        clear hBw
        go_wp2_with fail
        refine (now_nilptr 0 wr).mono ?_
        rintro e w3 ⟨rfl, rfl⟩
        go_wp2_with fail
        refine (left_nil wr).mono ?_
        rintro e w3 ⟨rfl, rfl⟩
        go_wp2_with fail
        refine (finish_nil 0 wr).mono ?_
        rintro e w3 ⟨rfl, rfl⟩
        go_wp2_with fail
        refine (pair_any _).mono ?_
        rintro e w3 ⟨rfl, hb3⟩
        go_wp2_with fail
        go_ret
        exact ⟨rfl, HBw.out.trans (hb3.mono HBw.out.size)⟩
  · have hk := hw h0
    subst hk
    have HW := Lib.hid (refWrong_any n ao b o cap cs w1 (by omega) HA.out HC1.out)
    have hcase := wrongL_cases n (thr cs)
    clear hw hok hbl
    rcases hcase with h1 | h1 | h1
    · exact absurd h1 h0
    all_goals
      rw [h1] at HW ⊢
      clear h1 h0
      go_wp2_with fail
      refine HW.out.mono ?_
      rintro e w3 ⟨rfl, rfl⟩
      go_wp2_with fail
      refine (pair_any _).mono ?_
      rintro e w3 ⟨rfl, hb3⟩
      go_wp2_with fail
      go_ret
      exact ⟨rfl, HBl.out.trans (hb3.mono hs1)⟩
end Go.Proofs.Ytjlopeijdmnacaa
