/- Walk of the reference's Turns. -/
import Derived.Test.YtjlopeijdmnacaaU7
namespace Go.Proofs.Ytjlopeijdmnacaa
open Go.RowKit

theorem set_same {α : Type} {l : List α} {i : Nat} {x : α} (h : l[i]? = some x) : l.set i x = l := by
  apply List.ext_getElem?
  intro k
  rw [List.getElem?_set]
  by_cases hk : i = k
  · subst hk; rw [if_pos rfl, if_pos (List.getElem?_eq_some_iff.1 h).1, h]
  · rw [if_neg hk]

/-- what holds between two picks of the reference -/
structure RefTurnSt (cs : List CallV) (need picks : List Int) (w : World) (gf gm B : Nat) (j : Nat) (fin : List Bool) (made : List Int) (idle : Nat) (acc : List Nat) (v : Value) (wr : World) : Prop where
  blkf : RowBlk 4 wr gf (boolVs fin)
  blk : RowBlk 3 wr gm (intVs made)
  lfin : fin.length = cs.length
  lmade : made.length = cs.length
  row : wr.ownsRow B 3 1 v acc.length (nums acc)
  tot1 : acc ++ (turnsGo (thr cs) need (picks.drop j) fin made).1 = (turnsOf cs need picks).1
  tot2 : idle + (turnsGo (thr cs) need (picks.drop j) fin made).2 = (turnsOf cs need picks).2
  li : idle ≤ j
  la : acc.length ≤ j
  lm : ∀ (i : Nat) (m : Int), made[i]? = some m → 0 ≤ m ∧ m ≤ j
  inv : ∀ (i : Nat) (m : Int), made[i]? = some m → fin[i]? = some false → m < mostOf need i
  below : Below w.heap.size w wr
  size : B ≤ wr.heap.size

theorem RefTurnSt.idle {cs : List CallV} {need picks : List Int} {w : World} {gf gm B j : Nat} {fin : List Bool} {made : List Int} {idle : Nat} {acc : List Nat} {v : Value} {wr : World} (h : RefTurnSt cs need picks w gf gm B j fin made idle acc v wr)
    {p : Int} (hp : picks[j]? = some p) (hn : nowOf (thr cs) fin p = none) : RefTurnSt cs need picks w gf gm B (j + 1) fin made (idle + 1) acc v wr := by
  have e := turnsGo_idle (need := need) (ps := picks.drop (j + 1)) (made := made) hn
  rw [← drop_cons hp] at e
  have t1 := h.tot1
  have t2 := h.tot2
  rw [e] at t1 t2
  have := h.li
  have := h.la
  exact ⟨h.blkf, h.blk, h.lfin, h.lmade, h.row, t1, by simp only at t2; omega, by omega, by omega, fun i m hm => by have := h.lm i m hm; omega, h.inv, h.below, h.size⟩

theorem RefTurnSt.step {cs : List CallV} {need picks : List Int} {w : World} {gf gm B j : Nat} {fin : List Bool} {made : List Int} {idle : Nat} {acc : List Nat} {v : Value} {wr : World} (h : RefTurnSt cs need picks w gf gm B j fin made idle acc v wr)
    {p m : Int} {i : Nat} {v1 : Value} {w3 : World} (hp : picks[j]? = some p) (hn : nowOf (thr cs) fin p = some i) (hm : made[i]? = some m) {last : Bool} (hq : last = decide (m + 1 = mostOf need i))
    (hbf : RowBlk 4 w3 gf (boolVs (fin.set i last))) (hb : RowBlk 3 w3 gm (intVs (made.set i (m + 1)))) (hr : w3.ownsRow B 3 1 v1 (acc.length + 1) (nums acc ++ [.int .i64 (i : Int)])) (hbl : Below w.heap.size w w3) (hs : B ≤ w3.heap.size) :
    RefTurnSt cs need picks w gf gm B (j + 1) (fin.set i last) (made.set i (m + 1)) idle (acc ++ [i]) v1 w3 := by
  have hopen := (now_open hn).2.2
  have hinv := h.inv i m hm hopen
  have e : turnsGo (thr cs) need (picks.drop j) fin made = (i :: (turnsGo (thr cs) need (picks.drop (j + 1)) (fin.set i last) (made.set i (m + 1))).1, (turnsGo (thr cs) need (picks.drop (j + 1)) (fin.set i last) (made.set i (m + 1))).2) := by
    rw [drop_cons hp]
    by_cases hl : m + 1 = mostOf need i
    · have : last = true := by rw [hq]; simpa using hl
      rw [this, turnsGo_last hn hm (by omega)]
    · have : last = false := by rw [hq]; simpa using hl
      have e2 : fin.set i false = fin := set_same hopen
      rw [this, turnsGo_more hn hm (by omega), e2]
  have t1 := h.tot1
  have t2 := h.tot2
  rw [e] at t1 t2
  have h1 := h.li
  have h2 := h.la
  have hlm : ∀ (k : Nat) (x : Int), (made.set i (m + 1))[k]? = some x → (k = i ∧ x = m + 1) ∨ (k ≠ i ∧ made[k]? = some x) := by
    intro k x hx
    rw [List.getElem?_set] at hx
    by_cases hk : i = k
    · subst hk
      rw [if_pos rfl] at hx
      split at hx
      · cases hx; exact .inl ⟨rfl, rfl⟩
      · cases hx
    · rw [if_neg hk] at hx
      exact .inr ⟨fun e => hk e.symm, hx⟩
  refine ⟨hbf, hb, by rw [List.length_set]; exact h.lfin, by rw [List.length_set]; exact h.lmade, ?_, ?_, t2, by omega, by simp; omega, ?_, ?_, hbl, hs⟩
  · have e2 : nums (acc ++ [i]) = nums acc ++ [.int .i64 (i : Int)] := by unfold nums; simp
    rw [e2, List.length_append]; exact hr
  · rw [List.append_assoc]; exact t1
  · intro k x hx
    rcases hlm k x hx with ⟨rfl, rfl⟩ | ⟨_, hx⟩
    · have := h.lm _ m hm; omega
    · have := h.lm k x hx; omega
  · intro k x hx hk
    rcases hlm k x hx with ⟨rfl, rfl⟩ | ⟨hne, hx⟩
    · rw [List.getElem?_set] at hk
      rw [if_pos rfl] at hk
      split at hk
      · simp only [Option.some.injEq] at hk
        rw [hq] at hk
        have := of_decide_eq_false hk
        omega
      · cases hk
    · rw [List.getElem?_set, if_neg (fun e => hne e.symm)] at hk
      exact h.inv k x hx hk

def RefTurnsPost (cs : List CallV) (need picks : List Int) (w : World) (e : Ending) (w' : World) : Prop :=
  ∃ v, e = .returned (.tuple #[v, .int .i64 ((turnsOf cs need picks).2 : Int)]) ∧ w'.ownsRow w.heap.size 3 1 v (turnsOf cs need picks).1.length (nums (turnsOf cs need picks).1) ∧ Below w.heap.size w w'

set_option maxRecDepth 100000 in
set_option maxHeartbeats 4000000 in
theorem refTurns_any (ao : Option Addr) (b o cap : Nat) (cs : List CallV) (ao2 : Option Addr) (b2 o2 cap2 : Nat) (need : List Int) (ao3 : Option Addr) (b3 o3 cap3 : Nat) (picks : List Int) (w : World)
    (hcl : cs.length ≤ 4294967296) (hpl : picks.length ≤ 4294967296)
    (ha : 0 < cs.length → ao = some ⟨b, o, none⟩) (hb : 0 < cs.length → b < w.heap.size) (hc : CallsAt w b o cs)
    (ha2 : 0 < need.length → ao2 = some ⟨b2, o2, none⟩) (hb2 : 0 < need.length → b2 < w.heap.size) (hc2 : ICells w b2 o2 need) (hl2 : need.length ≤ 9223372036854775807)
    (ha3 : 0 < picks.length → ao3 = some ⟨b3, o3, none⟩) (hb3 : 0 < picks.length → b3 < w.heap.size) (hc3 : ICells w b3 o3 picks) :
    Calls Try.prog 17 #[.slice ao cs.length cap, .slice ao2 need.length cap2, .slice ao3 picks.length cap3] w (RefTurnsPost cs need picks w) := by
  have HA := Lib.hid ha
  have HB := Lib.hid hb
  have HC := Lib.hid hc
  have HA2 := Lib.hid ha2
  have HB2 := Lib.hid hb2
  have HC2 := Lib.hid hc2
  have HA3 := Lib.hid ha3
  have HB3 := Lib.hid hb3
  have HC3 := Lib.hid hc3
  clear hc ha hb hc2 ha2 hb2 ha3 hb3 hc3
  have hmk := run_mkI cs.length hcl
  have hmk2 := run_mkB cs.length hcl
  obtain ⟨iI, ia, ib, ic, id⟩ := info_parts infoIu
  have HT0 : Hid (RefTurnSt cs need picks w w.heap.size (w.heap.size + 1) (w.heap.size + 2) 0 (fin0 cs.length) (made0 cs.length) 0 [] (.slice none 0 0) ((w.alloc (.cells (boolVs (List.replicate cs.length false)).toArray 4)).alloc (.cells (intVs (List.replicate cs.length 0)).toArray 3))) := Lib.hid
    ⟨(RowBlk.new _ _ _).alloc _, by
        have := RowBlk.new (w.alloc (.cells (boolVs (List.replicate cs.length false)).toArray 4)) (intVs (List.replicate cs.length 0)) 3
        have e : (w.alloc (.cells (boolVs (List.replicate cs.length false)).toArray 4)).heap.size = w.heap.size + 1 := by simp
        rw [e] at this
        exact this, by simp [fin0], by simp [made0], World.ownsRow_nil _ _ _ _, rfl, by rw [List.drop_zero]; exact Nat.zero_add _, Nat.le_refl _, Nat.le_refl _,
      fun i m hm => by unfold made0 at hm; rw [List.getElem?_replicate] at hm; split at hm <;> cases hm <;> omega,
      fun i m hm _ => by unfold made0 at hm; rw [List.getElem?_replicate] at hm; have := most_pos need i; split at hm <;> cases hm <;> omega, ((Below.refl _ _).alloc (Nat.le_refl _) _).alloc (by simp) _, by simp⟩
  have hgs0 : w.heap.size ≤ w.heap.size := Nat.le_refl _
  have hgs1 : w.heap.size ≤ w.heap.size + 1 := by omega
  go_enter Try.func17, Try.ntmps17
  go_wp2_with fail
  generalize (w.alloc (.cells (boolVs (List.replicate cs.length false)).toArray 4)).alloc (.cells (intVs (List.replicate cs.length 0)).toArray 3) = w2 at HT0 ⊢
  have hgs0 : w.heap.size ≤ w.heap.size := Nat.le_refl _
  obtain ⟨gm, hgm⟩ : ∃ gm, w.heap.size + 1 = gm := ⟨_, rfl⟩
  have e2 : w.heap.size + 2 = gm + 1 := by omega
  rw [e2, hgm] at HT0
  rw [hgm]
  have hgs1 : w.heap.size ≤ gm := by omega
  have hne : w.heap.size ≠ gm := by omega
  have hle : w.heap.size ≤ gm + 1 := by omega
  clear e2 hgm
  obtain ⟨gf, hgf⟩ : ∃ gf, w.heap.size = gf := ⟨_, rfl⟩
  rw [hgf] at HT0 hne
  rw [hgf]
  have hgs0 : w.heap.size ≤ gf := by omega
  have hfm : gf < gm := by omega
  clear hgf
  go_loopw [10, 11, 23] (fun v x k wr => ∃ (j : Nat) (fin : List Bool) (made : List Int) (idle : Nat) (acc : List Nat), j ≤ picks.length ∧ k = .int .i64 j ∧ x = .int .i64 idle ∧ Hid (RefTurnSt cs need picks w gf gm (gm + 1) j fin made idle acc v wr)) (fun _ _ k _ => picks.length - (intOf k).toNat)
  case atStart => exact ⟨0, _, _, 0, [], Nat.zero_le _, rfl, rfl, HT0⟩
  case round =>
    obtain ⟨j, fin, made, idle, acc, hj, rfl, rfl, hT⟩ := hrel
    have hidle := hT.out.li
    have hlf := hT.out.lfin
    by_cases hlt : j < picks.length
    · obtain rfl := HA3.out (by omega)
      obtain ⟨p, hp⟩ : ∃ x, picks[j]? = some x := ⟨picks[j], List.getElem?_eq_getElem (by omega)⟩
      obtain ⟨c3, hpb⟩ := (HC3.out.stays hT.out.below HB3.out) j _ hp
      have HP := Lib.hid hp
      have hwsz := hT.out.size
      have HCN := Lib.hid (refNow_any p ao b o cap cs (some ⟨gf, 0, none⟩) gf 0 cs.length fin wr (by omega) hlf HA.out (HC.out.stays hT.out.below HB.out) (fun _ => rfl) hT.out.blkf.bools)
      rw [hlf] at HCN
      clear hp
      cases hnow : nowOf (thr cs) fin p with
      | none =>
        have HNW := Lib.hid hnow
        have HNI := Lib.hid (nowI_none hnow)
        clear hnow
        rw [HNI.out] at HCN
        go_wp2_with fail
        refine HCN.out.mono ?_
        rintro e w3 ⟨rfl, rfl⟩
        go_wp2_with fail
        go_roundw
        case rel => exact ⟨j + 1, fin, made, idle + 1, acc, by omega, by go_num, by go_num, Lib.hid (hT.out.idle HP.out HNW.out)⟩
        case measure => simp [intOf]; omega
      | some i =>
        have HNW := Lib.hid hnow
        have HNI := Lib.hid (nowI_some hnow)
        have hi := (now_open hnow).1
        rw [thr_len] at hi
        obtain ⟨m, hm⟩ : ∃ x, made[i]? = some x := ⟨made[i]'(by rw [hT.out.lmade]; exact hi), List.getElem?_eq_getElem _⟩
        have HM := Lib.hid hm
        have hmbd := hT.out.lm i m hm
        have hinv := hT.out.inv i m hm (now_open hnow).2.2
        have hla := hT.out.la
        have hrow := hT.out.row
        have hi0 : (0 : Int) ≤ (i : Int) := Int.natCast_nonneg _
        have hi1 : (i : Int) < (cs.length : Int) := by omega
        clear hnow hm
        rw [HNI.out] at HCN
        go_wp2_with fail
        refine HCN.out.mono ?_
        rintro e w3 ⟨rfl, rfl⟩
        go_wp2_with (at_builtin; refine append_new rfl _ _ 23 rfl (gm + 1) 3 iI (.int .i64 0) 1 8 Try.underlying23 ia ib ic id rfl (by decide) (by decide) _ acc.length _ rfl hrow [.int .i64 (i : Int)] rfl rfl rfl (by omega) hwsz ?_)
        intro v1 w4 ho4 hb4 _ _
        have hs4 := hb4.size
        have HO4 := Lib.hid ho4
        have HK4 : Hid (RowBlk 3 w4 gm (intVs made)) := Lib.hid (hT.out.blk.same (hb4.block gm (by omega)))
        have HF4 : Hid (RowBlk 4 w4 gf (boolVs fin)) := Lib.hid (hT.out.blkf.same (hb4.block gf (by omega)))
        have HW4 : Hid (Below w.heap.size w w4) := Lib.hid (hT.out.below.trans (hb4.mono (by omega)))
        have cm := HK4.out.cell (intVs_get HM.out)
        have fm : w4.frozen? ⟨gm, i, none⟩ = false := HK4.out.free
        clear ho4 hb4 hrow c3
        have HKx : Hid (RowBlk 3 (w4.setCell ⟨gm, i, none⟩ (.int .i64 (m + 1))) gm (intVs (made.set i (m + 1)))) := Lib.hid (by rw [← intVs_set]; exact HK4.out.put i _)
        have HFx : Hid (RowBlk 4 (w4.setCell ⟨gm, i, none⟩ (.int .i64 (m + 1))) gf (boolVs fin)) := Lib.hid (HF4.out.other (by simpa using hne) _)
        have HOx : Hid ((w4.setCell ⟨gm, i, none⟩ (.int .i64 (m + 1))).ownsRow (gm + 1) 3 1 v1 (acc.length + 1) (nums acc ++ [.int .i64 (i : Int)])) := Lib.hid (owns_set HO4.out (Nat.lt_succ_self _) _)
        have HWx : Hid (Below w.heap.size w (w4.setCell ⟨gm, i, none⟩ (.int .i64 (m + 1)))) := Lib.hid (HW4.out.setCell (show w.heap.size ≤ (⟨gm, i, none⟩ : Addr).block from hgs1) _)
        have hsx : (w4.setCell ⟨gm, i, none⟩ (.int .i64 (m + 1))).heap.size = w4.heap.size := by simp [World.setCell]
        have cx : (w4.setCell ⟨gm, i, none⟩ (.int .i64 (m + 1))).cell? ⟨gm, i, none⟩ = some (.int .i64 (m + 1)) := HKx.out.cell (intVs_get (by rw [List.getElem?_set, if_pos rfl, if_pos (by rw [hT.out.lmade]; exact hi)]))
        have cf : (w4.setCell ⟨gm, i, none⟩ (.int .i64 (m + 1))).cell? ⟨gf, i, none⟩ = some (.bool false) := HFx.out.cell (boolVs_get (now_open HNW.out).2.2)
        have ff : (w4.setCell ⟨gm, i, none⟩ (.int .i64 (m + 1))).frozen? ⟨gf, i, none⟩ = false := HFx.out.free
        by_cases hin : i < need.length
        · obtain rfl := HA2.out (by omega)
          obtain ⟨x, hx⟩ : ∃ x, need[i]? = some x := ⟨need[i], List.getElem?_eq_getElem hin⟩
          obtain ⟨cn, hxb⟩ := (HC2.out.stays HWx.out HB2.out) i _ hx
          by_cases hx1 : 1 < x
          · have HQ : Hid (mostOf need i = x) := Lib.hid (by unfold mostOf; rw [hx]; simp only; omega)
            rw [HQ.out] at hinv
            clear hx
            have HDQ : Hid ((m + 1 == x) = decide (m + 1 = x)) := Lib.hid (by rw [Bool.eq_iff_iff]; simp)
            have HT6 : Hid (RefTurnSt cs need picks w gf gm (gm + 1) (j + 1) (fin.set i (m + 1 == x)) (made.set i (m + 1)) idle (acc ++ [i]) v1 ((w4.setCell ⟨gm, i, none⟩ (.int .i64 (m + 1))).setCell ⟨gf, i, none⟩ (.bool (m + 1 == x)))) :=
              Lib.hid (hT.out.step HP.out HNW.out HM.out (last := (m + 1 == x)) (by rw [HQ.out]; exact HDQ.out) (by rw [← boolVs_set]; exact HFx.out.put i _) (HKx.out.other (fun e => hne e.symm) _) (owns_set HOx.out (show gf < gm + 1 by omega) _) (HWx.out.setCell (show w.heap.size ≤ (⟨gf, i, none⟩ : Addr).block from hgs0) _) (by simp [World.setCell]; omega))
            go_wp2
            go_roundw
            case rel => exact ⟨j + 1, _, _, idle, acc ++ [i], by omega, by go_num, rfl, HT6⟩
            case measure => simp [intOf]; omega
          · have HQ : Hid (mostOf need i = 1) := Lib.hid (by unfold mostOf; rw [hx]; simp only; omega)
            rw [HQ.out] at hinv
            have hm0 : m + 1 = 1 := by omega
            have HDQ : Hid (true = decide (m + 1 = 1)) := Lib.hid (by simpa using hm0)
            clear hx
            have hdq : (m + 1 == 1) = true := by rw [beq_iff_eq]; omega
            have hx2 : x ≤ 1 := by omega
            clear hm0
            have HT6 : Hid (RefTurnSt cs need picks w gf gm (gm + 1) (j + 1) (fin.set i true) (made.set i (m + 1)) idle (acc ++ [i]) v1 ((w4.setCell ⟨gm, i, none⟩ (.int .i64 (m + 1))).setCell ⟨gf, i, none⟩ (.bool true))) :=
              Lib.hid (hT.out.step HP.out HNW.out HM.out (last := true) (by rw [HQ.out]; exact HDQ.out) (by rw [← boolVs_set]; exact HFx.out.put i _) (HKx.out.other (fun e => hne e.symm) _) (owns_set HOx.out (show gf < gm + 1 by omega) _) (HWx.out.setCell (show w.heap.size ≤ (⟨gf, i, none⟩ : Addr).block from hgs0) _) (by simp [World.setCell]; omega))
            go_wp2
            go_roundw
            case rel => exact ⟨j + 1, _, _, idle, acc ++ [i], by omega, by go_num, rfl, HT6⟩
            case measure => simp [intOf]; omega
        · have HQ : Hid (mostOf need i = 1) := Lib.hid (by unfold mostOf; rw [List.getElem?_eq_none (by omega)])
          rw [HQ.out] at hinv
          have hm0 : m + 1 = 1 := by omega
          have HDQ : Hid (true = decide (m + 1 = 1)) := Lib.hid (by simpa using hm0)
          have hdq : (m + 1 == 1) = true := by rw [beq_iff_eq]; omega
          have hin2 : need.length ≤ i := by omega
          clear hm0
          have HT6 : Hid (RefTurnSt cs need picks w gf gm (gm + 1) (j + 1) (fin.set i true) (made.set i (m + 1)) idle (acc ++ [i]) v1 ((w4.setCell ⟨gm, i, none⟩ (.int .i64 (m + 1))).setCell ⟨gf, i, none⟩ (.bool true))) :=
            Lib.hid (hT.out.step HP.out HNW.out HM.out (last := true) (by rw [HQ.out]; exact HDQ.out) (by rw [← boolVs_set]; exact HFx.out.put i _) (HKx.out.other (fun e => hne e.symm) _) (owns_set HOx.out (show gf < gm + 1 by omega) _) (HWx.out.setCell (show w.heap.size ≤ (⟨gf, i, none⟩ : Addr).block from hgs0) _) (by simp [World.setCell]; omega))
          go_wp2
          go_roundw
          case rel => exact ⟨j + 1, _, _, idle, acc ++ [i], by omega, by go_num, rfl, HT6⟩
          case measure => simp [intOf]; omega
    · have : j = picks.length := by omega
      subst this
      have HE : Hid ((turnsOf cs need picks).2 = idle) := Lib.hid (by rw [← hT.out.tot2, List.drop_length]; rfl)
      have HE1 : Hid ((turnsOf cs need picks).1 = acc) := Lib.hid (by rw [← hT.out.tot1, List.drop_length]; simp [turnsGo])
      go_wp2_with fail
      go_ret2
      exact ⟨_, by rw [HE.out]; rfl, by rw [HE1.out]; exact owns_mono hT.out.row (by omega), hT.out.below⟩
end Go.Proofs.Ytjlopeijdmnacaa
