/- Walk of pick: Turns. -/
import Derived.Test.YtjlopeijdmnacaaU6
import Derived.Deep.QuietTactic
import Derived.BigQuiet
namespace Go.Proofs.Ytjlopeijdmnacaa
open Go.RowKit

def fin0 (n : Nat) : List Bool := List.replicate n false
def made0 (n : Nat) : List Int := List.replicate n 0
def turnsOf (cs : List CallV) (need picks : List Int) : List Nat × Nat := turnsGo (thr cs) need picks (fin0 cs.length) (made0 cs.length)

/-- what Turns gives -/
def TurnsPost (n : Int) (cs : List CallV) (need picks : List Int) (w : World) (e : Ending) (w' : World) : Prop :=
  (wrongL n (thr cs) ≠ 0 → e = .returned (.tuple #[.slice none 0 0, .int .i64 0, .int .i64 (wrongL n (thr cs) : Nat)])) ∧
  (wrongL n (thr cs) = 0 → 65536 < picks.length → e = .returned (.tuple #[.slice none 0 0, .int .i64 0, .int .i64 3])) ∧
  (wrongL n (thr cs) = 0 → picks.length ≤ 65536 → ∃ v, e = .returned (.tuple #[v, .int .i64 ((turnsOf cs need picks).2 : Int), .int .i64 0]) ∧ w'.ownsRow w.heap.size 3 1 v (turnsOf cs need picks).1.length (nums (turnsOf cs need picks).1)) ∧ Below w.heap.size w w'

theorem turns_wrong {n : Int} {cs : List CallV} {need picks : List Int} {w w' : World} {k : Nat} (h : wrongL n (thr cs) = k) (hk : k ≠ 0) (hb : Below w.heap.size w w') : TurnsPost n cs need picks w (.returned (.tuple #[.slice none 0 0, .int .i64 0, .int .i64 (k : Nat)])) w' :=
  ⟨fun _ => by rw [h], fun h0 => absurd (h.symm.trans h0) hk, fun h0 => absurd (h.symm.trans h0) hk, hb⟩
theorem turns_long {n : Int} {cs : List CallV} {need picks : List Int} {w w' : World} (h : wrongL n (thr cs) = 0) (hk : 65536 < picks.length) (hb : Below w.heap.size w w') : TurnsPost n cs need picks w (.returned (.tuple #[.slice none 0 0, .int .i64 0, .int .i64 3])) w' :=
  ⟨fun h0 => absurd h h0, fun _ _ => rfl, fun _ h1 => absurd h1 (by omega), hb⟩

theorem most_pos (need : List Int) (i : Nat) : 1 ≤ mostOf need i := by unfold mostOf; split <;> omega

/-- what holds between two picks -/
structure TurnSt (cs : List CallV) (need picks : List Int) (w : World) (lb mb gm top B : Nat) (j : Nat) (fin : List Bool) (made : List Int) (idle : Nat) (acc : List Nat) (v : Value) (wr : World) : Prop where
  line : ∃ f N, LineIs wr top lb mb N f (ownL (thr cs) fin) ∧ N ≤ cs.length + j
  blk : RowBlk 3 wr gm (intVs made)
  lfin : fin.length = cs.length
  lmade : made.length = cs.length
  row : wr.ownsRow B 3 1 v acc.length (nums acc)
  tot1 : acc ++ (turnsGo (thr cs) need (picks.drop j) fin made).1 = (turnsOf cs need picks).1
  tot2 : idle + (turnsGo (thr cs) need (picks.drop j) fin made).2 = (turnsOf cs need picks).2
  li : idle ≤ j
  la : acc.length ≤ j
  lm : ∀ (i : Nat) (m : Int), made[i]? = some m → 0 ≤ m ∧ m ≤ j
  below : Below w.heap.size w wr
  size : B ≤ wr.heap.size

theorem TurnSt.idle {cs : List CallV} {need picks : List Int} {w : World} {lb mb gm top B j : Nat} {fin : List Bool} {made : List Int} {idle : Nat} {acc : List Nat} {v : Value} {wr : World} (h : TurnSt cs need picks w lb mb gm top B j fin made idle acc v wr)
    {p : Int} (hp : picks[j]? = some p) (hn : nowOf (thr cs) fin p = none) : TurnSt cs need picks w lb mb gm top B (j + 1) fin made (idle + 1) acc v wr := by
  obtain ⟨f, N, hl, hN⟩ := h.line
  have e := turnsGo_idle (need := need) (ps := picks.drop (j + 1)) (made := made) hn
  rw [← drop_cons hp] at e
  have t1 := h.tot1
  have t2 := h.tot2
  rw [e] at t1 t2
  have := h.li
  have := h.la
  exact ⟨⟨f, N, hl, by omega⟩, h.blk, h.lfin, h.lmade, h.row, t1, by simp only at t2; omega, by omega, by omega, fun i m hm => by have := h.lm i m hm; omega, h.below, h.size⟩

theorem TurnSt.step {cs : List CallV} {need picks : List Int} {w : World} {lb mb gm top B j : Nat} {fin fin' : List Bool} {made : List Int} {idle : Nat} {acc : List Nat} {v : Value} {wr : World} (h : TurnSt cs need picks w lb mb gm top B j fin made idle acc v wr)
    {p m : Int} {i : Nat} {v1 : Value} {w3 : World} (hp : picks[j]? = some p) (hn : nowOf (thr cs) fin p = some i) (hm : made[i]? = some m) (hf : fin' = if mostOf need i ≤ m + 1 then fin.set i true else fin)
    (hl : ∃ f N, LineIs w3 top lb mb N f (ownL (thr cs) fin') ∧ N ≤ cs.length + (j + 1)) (hb : RowBlk 3 w3 gm (intVs (made.set i (m + 1)))) (hr : w3.ownsRow B 3 1 v1 (acc.length + 1) (nums acc ++ [.int .i64 (i : Int)])) (hbl : Below w.heap.size w w3) (hs : B ≤ w3.heap.size) :
    TurnSt cs need picks w lb mb gm top B (j + 1) fin' (made.set i (m + 1)) idle (acc ++ [i]) v1 w3 := by
  have e : turnsGo (thr cs) need (picks.drop j) fin made = (i :: (turnsGo (thr cs) need (picks.drop (j + 1)) fin' (made.set i (m + 1))).1, (turnsGo (thr cs) need (picks.drop (j + 1)) fin' (made.set i (m + 1))).2) := by
    rw [drop_cons hp, hf]
    by_cases hq : mostOf need i ≤ m + 1
    · rw [if_pos hq, turnsGo_last hn hm hq]
    · rw [if_neg hq, turnsGo_more hn hm hq]
  have t1 := h.tot1
  have t2 := h.tot2
  rw [e] at t1 t2
  have h1 := h.li
  have h2 := h.la
  refine ⟨hl, hb, ?_, by rw [List.length_set]; exact h.lmade, ?_, ?_, t2, by omega, by simp; omega, ?_, hbl, hs⟩
  · rw [hf]; split
    · rw [List.length_set]; exact h.lfin
    · exact h.lfin
  · have e2 : nums (acc ++ [i]) = nums acc ++ [.int .i64 (i : Int)] := by unfold nums; simp
    rw [e2, List.length_append]; exact hr
  · rw [List.append_assoc]; exact t1
  · intro k x hx
    rw [List.getElem?_set] at hx
    by_cases hk : i = k
    · subst hk
      rw [if_pos rfl] at hx
      split at hx
      · cases hx
        have := h.lm i m hm
        omega
      · cases hx
    · rw [if_neg hk] at hx
      have := h.lm k x hx
      omega

set_option maxRecDepth 100000 in
set_option maxHeartbeats 4000000 in
theorem turns_any (n : Int) (ao : Option Addr) (b o cap : Nat) (cs : List CallV) (ao2 : Option Addr) (b2 o2 cap2 : Nat) (need : List Int) (ao3 : Option Addr) (b3 o3 cap3 : Nat) (picks : List Int) (w : World)
    (ha : 0 < cs.length → ao = some ⟨b, o, none⟩) (hb : 0 < cs.length → b < w.heap.size) (hc : CallsAt w b o cs)
    (ha2 : 0 < need.length → ao2 = some ⟨b2, o2, none⟩) (hb2 : 0 < need.length → b2 < w.heap.size) (hc2 : ICells w b2 o2 need) (hl2 : need.length ≤ 9223372036854775807)
    (ha3 : 0 < picks.length → ao3 = some ⟨b3, o3, none⟩) (hb3 : 0 < picks.length → b3 < w.heap.size) (hc3 : ICells w b3 o3 picks) :
    Calls Try.prog 16 #[.int .i64 n, .slice ao cs.length cap, .slice ao2 need.length cap2, .slice ao3 picks.length cap3] w (TurnsPost n cs need picks w) := by
  have HNEW := Lib.hid (new_any n ao b o cap cs w ha hb hc)
  have HB := Lib.hid hb
  have HA2 := Lib.hid ha2
  have HB2 := Lib.hid hb2
  have HC2 := Lib.hid hc2
  have HA3 := Lib.hid ha3
  have HB3 := Lib.hid hb3
  have HC3 := Lib.hid hc3
  clear hc ha hb hc2 ha2 hb2 ha3 hb3 hc3
  go_enter Try.func16, Try.ntmps16
  go_wp2_with fail
  refine HNEW.out.mono ?_
  rintro e w1 ⟨hw, hok, hbl⟩
  by_cases h0 : wrongL n (thr cs) = 0
  · obtain ⟨lb, mb, f, rfl, hlb, hmb, hline⟩ := hok h0
    by_cases hlong : 65536 < picks.length
    · have HE := Lib.hid (turns_long (need := need) h0 hlong hbl)
      clear hw hok hline
      go_wp2_with fail
      go_ret3
      exact HE.out
    · obtain ⟨⟨hn1, hn16⟩, hcl, hts⟩ := wrongL_inv h0
      rw [thr_len] at hcl
      have H0 := Lib.hid h0
      have HBl := Lib.hid hbl
      have HLn := Lib.hid hline
      have hmk := run_mkI cs.length (by omega)
      have hs1 := hbl.size
      clear hw hok hline hts h0 hbl
      obtain ⟨iI, ia, ib, ic, id⟩ := info_parts infoIu
      have HT0 : Hid (TurnSt cs need picks w lb mb w1.heap.size w1.heap.size (w1.heap.size + 1) 0 (fin0 cs.length) (made0 cs.length) 0 [] (.slice none 0 0) (w1.alloc (.cells (intVs (List.replicate cs.length 0)).toArray 3))) := Lib.hid
        ⟨⟨f, cs.length, HLn.out.stays ((Below.refl _ _).alloc (Nat.le_refl _) _) (Nat.le_refl _), Nat.le_refl _⟩, RowBlk.new _ _ _, by simp [fin0], by simp [made0], World.ownsRow_nil _ _ _ _, rfl, by rw [List.drop_zero]; exact Nat.zero_add _, Nat.le_refl _, Nat.le_refl _,
          fun i m hm => by unfold made0 at hm; rw [List.getElem?_replicate] at hm; split at hm <;> cases hm <;> omega, HBl.out.alloc hs1 _, by simp⟩
      go_wp2_with fail
      generalize w1.alloc (.cells (intVs (List.replicate cs.length 0)).toArray 3) = w2 at HT0 ⊢
      generalize w1.heap.size = gm at HT0 hs1 HLn ⊢
      go_loopw [13, 14, 37] (fun v x k wr => ∃ (j : Nat) (fin : List Bool) (made : List Int) (idle : Nat) (acc : List Nat), j ≤ picks.length ∧ k = .int .i64 j ∧ x = .int .i64 idle ∧ Hid (TurnSt cs need picks w lb mb gm gm (gm + 1) j fin made idle acc v wr)) (fun _ _ k _ => picks.length - (intOf k).toNat)
      case atStart => exact ⟨0, _, _, 0, [], Nat.zero_le _, rfl, rfl, HT0⟩
      case round =>
        obtain ⟨j, fin, made, idle, acc, hj, rfl, rfl, hT⟩ := hrel
        have hidle := hT.out.li
        by_cases hlt : j < picks.length
        · obtain rfl := HA3.out (by omega)
          obtain ⟨p, hp⟩ : ∃ x, picks[j]? = some x := ⟨picks[j], List.getElem?_eq_getElem (by omega)⟩
          obtain ⟨c3, hpb⟩ := (HC3.out.stays hT.out.below HB3.out) j _ hp
          obtain ⟨f1, N, hl1, hN1⟩ := hT.out.line
          have HL1 := Lib.hid hl1
          have HP := Lib.hid hp
          have hwsz := hT.out.size
          clear hp hl1
          cases hnow : nowOf (thr cs) fin p with
          | none =>
            have HNW := Lib.hid hnow
            clear hnow
            go_wp2_with fail
            refine (now_done p _ HL1.out hpb (now_nil.1 HNW.out)).mono ?_
            rintro e w3 ⟨rfl, rfl⟩
            go_wp2_with fail
            go_roundw
            case rel => exact ⟨j + 1, fin, made, idle + 1, acc, by omega, by go_num, by go_num, Lib.hid (hT.out.idle HP.out HNW.out)⟩
            case measure => simp [intOf]; omega
          | some i =>
            have HNW := Lib.hid hnow
            have HOW := Lib.hid (now_cons hnow)
            have hi := (now_open hnow).1
            rw [thr_len] at hi
            obtain ⟨m, hm⟩ : ∃ x, made[i]? = some x := ⟨made[i]'(by rw [hT.out.lmade]; exact hi), List.getElem?_eq_getElem _⟩
            have HM := Lib.hid hm
            have hmbd := hT.out.lm i m hm
            have hla := hT.out.la
            have hrow := hT.out.row
            have hi0 : (0 : Int) ≤ (i : Int) := Int.natCast_nonneg _
            have hi1 : (i : Int) < (cs.length : Int) := by omega
            clear hnow hm
            go_wp2_with fail
            refine (now_at p _ HL1.out hpb HOW.out).mono ?_
            rintro e w3 ⟨rfl, rfl⟩
            go_wp2_with (at_builtin; refine append_new rfl _ _ 23 rfl (gm + 1) 3 iI (.int .i64 0) 1 8 Try.underlying23 ia ib ic id rfl (by decide) (by decide) _ acc.length _ rfl hrow [.int .i64 (i : Int)] rfl rfl rfl (by omega) hwsz ?_)
            intro v1 w4 ho4 hb4 _ _
            have HO4 := Lib.hid ho4
            have HB4 := Lib.hid hb4
            have hs4 := hb4.size
            have HK4 : Hid (RowBlk 3 w4 gm (intVs made)) := Lib.hid (hT.out.blk.same (hb4.block gm (by omega)))
            have HL4 : Hid (LineIs w4 gm lb mb N f1 (ownL (thr cs) fin)) := Lib.hid (HL1.out.stays hb4 (by omega))
            have HW4 : Hid (Below w.heap.size w w4) := Lib.hid (hT.out.below.trans (hb4.mono (by omega)))
            have cm := HK4.out.cell (intVs_get HM.out)
            have fm : w4.frozen? ⟨gm, i, none⟩ = false := HK4.out.free
            clear ho4 hb4 hrow c3
            have HLx : Hid (LineIs (w4.setCell ⟨gm, i, none⟩ (.int .i64 (m + 1))) gm lb mb N f1 (ownL (thr cs) fin)) := Lib.hid (HL4.out.stays (B := gm) ((Below.refl gm w4).setCell (show gm ≤ (⟨gm, i, none⟩ : Addr).block from Nat.le_refl _) _) (Nat.le_refl _))
            have HKx : Hid (RowBlk 3 (w4.setCell ⟨gm, i, none⟩ (.int .i64 (m + 1))) gm (intVs (made.set i (m + 1)))) := Lib.hid (by rw [← intVs_set]; exact HK4.out.put i _)
            have HOx : Hid ((w4.setCell ⟨gm, i, none⟩ (.int .i64 (m + 1))).ownsRow (gm + 1) 3 1 v1 (acc.length + 1) (nums acc ++ [.int .i64 (i : Int)])) := Lib.hid (owns_set HO4.out (Nat.lt_succ_self _) _)
            have HWx : Hid (Below w.heap.size w (w4.setCell ⟨gm, i, none⟩ (.int .i64 (m + 1)))) := Lib.hid (HW4.out.setCell hs1 _)
            have hsx : (w4.setCell ⟨gm, i, none⟩ (.int .i64 (m + 1))).heap.size = w4.heap.size := by simp [World.setCell]
            have cx : (w4.setCell ⟨gm, i, none⟩ (.int .i64 (m + 1))).cell? ⟨gm, i, none⟩ = some (.int .i64 (m + 1)) := HKx.out.cell (intVs_get (by rw [List.getElem?_set, if_pos rfl, if_pos (by rw [hT.out.lmade]; exact hi)]))
            have HST : Hid (∀ q, Calls Try.prog 29 #[.slice ao2 need.length cap2, .int .i64 (i : Int)] ((w4.setCell ⟨gm, i, none⟩ (.int .i64 (m + 1))).drewN q) fun e w' => e = .returned (.int .i64 (mostOf need i)) ∧ (w4.setCell ⟨gm, i, none⟩ (.int .i64 (m + 1))).drewN q = w') :=
              Lib.hid (fun q => steps_any ao2 b2 o2 cap2 need i _ hl2 (by omega) HA2.out (HC2.out.stays (below_drewN HWx.out q) HB2.out))
            by_cases hlast : mostOf need i ≤ m + 1
            · have hdec : decide (mostOf need i ≤ m + 1) = true := by simpa using hlast
              have HLST := Lib.hid hlast
              clear hlast
              go_wp2_with fail
              generalize w4.setCell ⟨gm, i, none⟩ (.int .i64 (m + 1)) = w5 at HLx HKx HOx HWx hsx cx HST ⊢
              go_quiet ((go_at_call 29; (with_reducible refine call_keeps ⟨_, rfl⟩ (HST.out _))))
              go_wp2_with fail
              refine (finish_at p _ (HLx.out.drewN _) (by show gm ≤ w5.heap.size; omega) (by unfold maxLen; omega) HOW.out).mono ?_
              rintro e w6 ⟨rfl, ⟨f6, hl6⟩, hb6⟩
              have HT6 : Hid (TurnSt cs need picks w lb mb gm gm (gm + 1) (j + 1) (fin.set i true) (made.set i (m + 1)) idle (acc ++ [i]) v1 w6) := by
                have hmb6 := HLx.out.lt2
                refine Lib.hid (hT.out.step HP.out HNW.out HM.out (by rw [if_pos HLST.out]) ⟨f6, N + 1, by rw [own_set_fun HNW.out]; exact hl6, by omega⟩ (HKx.out.same (hb6.block gm (by have := HKx.out.lt; exact this) (by omega) (by omega))) ?_ ?_ ?_)
                · refine HOx.out.kept (row := some mb) ⟨hb6.os, hb6.tape, hb6.output, hb6.size, fun k hk hne => hb6.block k hk (fun e => hne (by rw [e])) (fun e => hne (by rw [e]))⟩ ?_
                  cases hob : v1.ownBlock with
                  | none => exact .inl rfl
                  | some g => right; intro e; cases e; have := (HOx.out.lt _ hob).1; omega
                · have hmb7 : w.heap.size ≤ mb := hmb
                  exact ((⟨HWx.out.os, HWx.out.tape, HWx.out.output, HWx.out.size, HWx.out.block⟩ : Below w.heap.size w (w5.drewN _))).trans (hb6.below hmb7 hmb7 (by show w.heap.size ≤ w5.heap.size; omega))
                · have := hb6.size
                  have e : (w5.drewN nq).heap.size = w5.heap.size := rfl
                  omega
              clear hl6 hb6
              go_wp2_with fail
              go_roundw
              case rel => exact ⟨j + 1, _, _, idle, acc ++ [i], by omega, by go_num, rfl, HT6⟩
              case measure => simp [intOf]; omega
            · have hdec : decide (mostOf need i ≤ m + 1) = false := by simpa using hlast
              have HLST := Lib.hid hlast
              clear hlast
              go_wp2_with fail
              generalize w4.setCell ⟨gm, i, none⟩ (.int .i64 (m + 1)) = w5 at HLx HKx HOx HWx hsx cx HST ⊢
              go_quiet ((go_at_call 29; (with_reducible refine call_keeps ⟨_, rfl⟩ (HST.out _))))
              go_wp2_with fail
              go_roundw
              case rel => exact ⟨j + 1, fin, _, idle, acc ++ [i], by omega, by go_num, rfl, Lib.hid (hT.out.step HP.out HNW.out HM.out (by rw [if_neg (by have := HLST.out; omega)]) ⟨f1, N, HLx.out.drewN _, by omega⟩ (HKx.out.drewN _) HOx.out ⟨HWx.out.os, HWx.out.tape, HWx.out.output, HWx.out.size, HWx.out.block⟩ (by show gm + 1 ≤ w5.heap.size; omega))⟩
              case measure => simp [intOf]; omega
        · have : j = picks.length := by omega
          subst this
          have HE : Hid ((turnsOf cs need picks).2 = idle) := Lib.hid (by rw [← hT.out.tot2, List.drop_length]; rfl)
          have HE1 : Hid ((turnsOf cs need picks).1 = acc) := Lib.hid (by rw [← hT.out.tot1, List.drop_length]; simp [turnsGo])
          go_wp2_with fail
          go_ret3
          exact ⟨fun h => absurd H0.out h, fun _ h => absurd h hlong, fun _ _ => ⟨_, by rw [HE.out]; rfl, by rw [HE1.out]; exact owns_mono hT.out.row (by omega)⟩, hT.out.below⟩
  · have hk := hw h0
    subst hk
    rcases wrongL_cases n (thr cs) with h1 | h1 | h1
    · exact absurd h1 h0
    · have HE := Lib.hid (turns_wrong (need := need) (picks := picks) h1 (by decide) hbl)
      rw [h1]
      clear hw hok
      go_wp2_with fail
      go_ret3
      exact HE.out
    · have HE := Lib.hid (turns_wrong (need := need) (picks := picks) h1 (by decide) hbl)
      rw [h1]
      clear hw hok
      go_wp2_with fail
      go_ret3
      exact HE.out
end Go.Proofs.Ytjlopeijdmnacaa
