/- The reference's tally and univ at kinds that there are not. | The reference's Apply, for any object that may be. | The reference of solo: Wrong; how many of a queue's values a thread put. | The reference of solo: the state in memory. -/
import Derived.Test.YtjjleghalajidaaGreatJVg
import Derived.Test.YtjjleghalajidaaGreatGJ6
import Derived.Test.YtjjleghalajidaaGreatJCl
import Derived.Test.YtjjleghalajidaaGreatGE5
namespace Go.Proofs.YtjjleghalajidaaGreat
section
open Go.ChangeShapes Go.WideShapes Go.ChangeAt Go.RowKit
set_option linter.unusedVariables false
set_option linter.unusedSimpArgs false
set_option maxRecDepth 100000

set_option maxHeartbeats 4000000 in
theorem rtally_kind (n p q ob kd a b c : Int) (t : Nat) (x : Nat) (m : List Nat) (hm : m = [x]) (v : Value) (w : World) (hA : ArgW w v m) (hl : m.length ≤ 4294967296) (ht : t < 16) (hk0 : kd ≠ 0) (hk1 : kd ≠ 1) :
    Calls Tryz.prog 36 #[.int .i64 n, Tb.specV 2 p q, v, callV (t : Int) ob kd a b c] w (ChP w.heap.size w ⟨m, 9, 0, []⟩) := by
  obtain ⟨iI, ia, ib, ic, id⟩ := info_parts info22
  obtain ⟨ao, bA, oA, cap, rfl, hA1, hA2, hA3⟩ := hA
  have HM := Lib.hid hm
  have dk0 : (kd == 0) = false := by rw [beq_eq_false_iff_ne]; exact hk0
  have dk1 : (kd == 1) = false := by rw [beq_eq_false_iff_ne]; exact hk1
  have dk2 : decide (kd = 0) = false := decide_eq_false hk0
  have dk3 : decide (kd = 1) = false := decide_eq_false hk1
  clear hm
  have HX := Lib.hid (apBox w 2 p q (t : Int) ob kd a b c (ansC 0 0 (.slice none 0 0)))
  have HS : Hid (∀ (j : Nat) (u : Value), (m.map wU)[j]? = some u → (apW w 2 p q (t : Int) ob kd a b c (ansC 0 0 (.slice none 0 0))).cell? ⟨bA, oA + j, none⟩ = some u) := Lib.hid (fun j u hu => by
    rw [List.getElem?_map] at hu
    obtain ⟨x, hx, rfl⟩ := Option.map_eq_some_iff.1 hu
    have := hA3 j x hx
    exact (HX.out.bel.cell (World.block_lt_of_cell? w _ this)).trans this)
  have HA := Lib.hid hA1
  have HN := Lib.hid hA2
  have HONE := Lib.hid (wU_one m)
  have HLEN : Hid ((m.map wU).length = m.length) := Lib.hid (by simp)
  unfold apW at HX HS
  unfold ansC at *
  generalize hw0 : ((w.alloc (Tb.specO 2 p q)).alloc (callO (t : Int) ob kd a b c)).alloc (.cells #[.int .i64 0, .int .u64 0, .slice none 0 0] 57) = W at *
  unfold Tb.specO at hw0
  have HLT := Lib.hid HX.out.lt
  clear hA1 hA2 hA3
  unfold Tb.specV at *
  go_enter Tryz.func36, Tryz.ntmps36
  go_wp2_with (at_builtin; refine append_fresh_own (w := W) rfl _ _ 37 rfl 55 iI (.int .u64 0) 8 Tryz.underlying37 ia ib ic id rfl (by decide) W.heap.size rfl rfl ao bA oA cap m.length (m.map wU) rfl HLEN.out HA.out HS.out HN.out HONE.out hl ?_; intro v1 w1 how hnn hbl; (have HO1 : Hid (OwnW w1 W.heap.size v1 m) := Lib.hid how); (have HX1 := Lib.hid (HX.out.next hbl)); (have HZ1 := Lib.hid hbl.size); (obtain ⟨s0, s1, s2, c0, c1, c2, c3, c4, c5, _, _⟩ := HX1.out); (have hox : OwnW w1 W.heap.size v1 [x] := by rw [← HM.out]; exact HO1.out); (obtain ⟨g7, c7, e7, _, hg7, hc7, _⟩ := hox.opened (by simp)); (have e8 : v1 = .slice (some ⟨g7, 0, none⟩) 1 c7 := e7); (subst e8); clear hox e7; (have d7 := hc7 0 x rfl); (have hbk := HX1.out.ans); (have k0 := Tb.cell_of_blkT (k := 0) hbk rfl); (have k1 := Tb.cell_of_blkT (k := 1) hbk rfl); (have k2 := Tb.cell_of_blkT (k := 2) hbk rfl); (have z0 := Tb.free_of_blkT (k := 0) hbk); (have z1 := Tb.free_of_blkT (k := 1) hbk); (have z2 := Tb.free_of_blkT (k := 2) hbk); (have hlw := HX1.out.lt); (have HNE := Lib.hid (HO1.out.ne_ans hbk)); (have HRM := Lib.hid HO1.out.room); clear hc7 hbk; clear how hnn hbl)
  refine bodyPost_ret (v := .tuple #[.slice (some ⟨g7, 0, none⟩) 1 c7, .agg #[.int .i64 9, .int .u64 0, .slice none 0 0]]) (by simp [results, Tryz.results36, go_sem, k0, k1, k2, hlw]) rfl ⟨_, _, rfl, ⟨((HO1.out.put3 HNE.out _ _ _).argB.mono (by have := HLT.out; omega)), HRM.out⟩, ⟨ArgB.nil _ _, room_nil⟩, put3_below HX1.out.bel (by omega) _ _ _⟩

set_option maxHeartbeats 8000000 in
theorem runiv_low (x qn a : Nat) (p : Int) (t ob kd b c : Int) (r : List Nat) (v : Value) (B : Nat) (w : World) (h : OwnW w B v (x :: r)) (hB : B ≤ w.heap.size) (hk : kd < 0) (hq : qn ≤ 256) :
    Calls Tryz.prog 67 #[Tb.specV 7 p (qn : Int), v, callV t ob kd (a : Int) b c] w (ChP B w ⟨x :: r, 9, 0, []⟩) := by
  have HX0 := Lib.hid (apBox w 7 p (qn : Int) t ob kd (a : Int) b c (ansC 0 0 (.slice none 0 0)))
  have HKN : Hid (∀ W, Calls Tryz.prog 57 #[.int .i64 p] W fun e w' => e = .returned (.int .i64 (sqKinds p : Int)) ∧ Below W.heap.size W w') := Lib.hid (fun W => refKinds_any p W)
  have dk1 : decide (kd < 0) = true := decide_eq_true hk
  obtain ⟨g1, cap, rfl, hg1, hlt1, hc, hf⟩ := h.opened (by simp)
  have HO := Lib.hid h
  have HR := Lib.hid h.room
  have hcap : r.length + 1 ≤ cap := h.room _ _ _ rfl
  have d1 := hc 0 x rfl
  unfold apW at HX0
  generalize hw0 : ((w.alloc (Tb.specO 7 p (qn : Int))).alloc (callO t ob kd (a : Int) b c)).alloc (ansC 0 0 (.slice none 0 0)) = w0 at *
  unfold Tb.specO at hw0
  have hlt0 := HX0.out.lt
  have l1 : ∀ p' : BW w0.heap.size w0, p'.v.cell? ⟨w.heap.size, 1, none⟩ = some (.int .i64 p) := fun p' => p'.cell (by show w.heap.size < _; omega) HX0.out.s1
  have l2 : ∀ p' : BW w0.heap.size w0, p'.v.cell? ⟨w.heap.size + 1, 2, none⟩ = some (.int .i64 kd) := fun p' => p'.cell (by show w.heap.size + 1 < _; omega) HX0.out.c2
  have hlen : (x :: r).length = r.length + 1 := rfl
  generalize sqKinds p = kn at *
  rw [hlen] at HO ⊢
  clear h hf hk
  unfold Tb.specV
  go_enter Tryz.func67, Tryz.ntmps67
  go_wp2
  refine wp_region_low (B := w0.heap.size) (w := w0) (by kernel_rfl) (by kernel_rfl) ?_
  repeat (go_big_quiet_step ((go_at_call 57; exact low_call (HKN.out _) (Nat.le_refl _))))
  refine wpQuiet_nil ?_
  intro w2 hw'
  obtain ⟨pq, eq1⟩ := hw'
  have hb2 := pq.h
  rw [← eq1] at hb2
  clear eq1 pq
  have HX2 := Lib.hid (HX0.out.next hb2)
  have HO2 := Lib.hid (HO.out.below HX2.out.bel)
  have e1 := (HX2.out.bel.cell (p := ⟨g1, 0, none⟩) hlt1).trans d1
  have hlt2 := HX2.out.lt
  obtain ⟨s0, s1, s2, c0, c1, c2, c3, c4, c5, hba, hbel⟩ := HX2.out
  have k0 := Tb.cell_of_blkT (k := 0) hba rfl
  have k1 := Tb.cell_of_blkT (k := 1) hba rfl
  have k2 := Tb.cell_of_blkT (k := 2) hba rfl
  have z0 := Tb.free_of_blkT (k := 0) hba
  have z1 := Tb.free_of_blkT (k := 1) hba
  have z2 := Tb.free_of_blkT (k := 2) hba
  have HNE := Lib.hid (HO2.out.ne_ans hba)
  have HBL := Lib.hid hbel
  have HBA := Lib.hid hba
  clear hba hbel hb2
  go_wp2_with fail
  refine bodyPost_ret (v := .tuple #[.slice (some ⟨g1, 0, none⟩) (r.length + 1) cap, .agg #[.int .i64 9, .int .u64 0, .slice none 0 0]]) (by simp [results, Tryz.results67, go_sem, k0, k1, k2]) rfl ⟨_, _, rfl, ⟨(HO2.out.put3 HNE.out _ _ _).argB, HR.out⟩, ⟨ArgB.nil _ _, room_nil⟩, put3_below (HBL.out.mono hB) (by omega) _ _ _⟩

set_option maxHeartbeats 8000000 in
theorem runiv_high (x qn a : Nat) (p : Int) (t ob kd b c : Int) (r : List Nat) (v : Value) (B : Nat) (w : World) (h : OwnW w B v (x :: r)) (hB : B ≤ w.heap.size) (hk : 0 ≤ kd ∧ (sqKinds p : Int) ≤ kd) (hq : qn ≤ 256) :
    Calls Tryz.prog 67 #[Tb.specV 7 p (qn : Int), v, callV t ob kd (a : Int) b c] w (ChP B w ⟨x :: r, 9, 0, []⟩) := by
  have HX0 := Lib.hid (apBox w 7 p (qn : Int) t ob kd (a : Int) b c (ansC 0 0 (.slice none 0 0)))
  have HKN : Hid (∀ W, Calls Tryz.prog 57 #[.int .i64 p] W fun e w' => e = .returned (.int .i64 (sqKinds p : Int)) ∧ Below W.heap.size W w') := Lib.hid (fun W => refKinds_any p W)
  have dk1 : decide (kd < 0) = false := decide_eq_false (by omega)
  have dk2 : decide ((sqKinds p : Int) ≤ kd) = true := decide_eq_true (by omega)
  obtain ⟨g1, cap, rfl, hg1, hlt1, hc, hf⟩ := h.opened (by simp)
  have HO := Lib.hid h
  have HR := Lib.hid h.room
  have hcap : r.length + 1 ≤ cap := h.room _ _ _ rfl
  have d1 := hc 0 x rfl
  unfold apW at HX0
  generalize hw0 : ((w.alloc (Tb.specO 7 p (qn : Int))).alloc (callO t ob kd (a : Int) b c)).alloc (ansC 0 0 (.slice none 0 0)) = w0 at *
  unfold Tb.specO at hw0
  have hlt0 := HX0.out.lt
  have l1 : ∀ p' : BW w0.heap.size w0, p'.v.cell? ⟨w.heap.size, 1, none⟩ = some (.int .i64 p) := fun p' => p'.cell (by show w.heap.size < _; omega) HX0.out.s1
  have l2 : ∀ p' : BW w0.heap.size w0, p'.v.cell? ⟨w.heap.size + 1, 2, none⟩ = some (.int .i64 kd) := fun p' => p'.cell (by show w.heap.size + 1 < _; omega) HX0.out.c2
  have hlen : (x :: r).length = r.length + 1 := rfl
  generalize sqKinds p = kn at *
  rw [hlen] at HO ⊢
  clear h hf hk
  unfold Tb.specV
  go_enter Tryz.func67, Tryz.ntmps67
  go_wp2
  refine wp_region_low (B := w0.heap.size) (w := w0) (by kernel_rfl) (by kernel_rfl) ?_
  repeat (go_big_quiet_step ((go_at_call 57; exact low_call (HKN.out _) (Nat.le_refl _))))
  refine wpQuiet_nil ?_
  intro w2 hw'
  obtain ⟨pq, eq1⟩ := hw'
  have hb2 := pq.h
  rw [← eq1] at hb2
  clear eq1 pq
  have HX2 := Lib.hid (HX0.out.next hb2)
  have HO2 := Lib.hid (HO.out.below HX2.out.bel)
  have e1 := (HX2.out.bel.cell (p := ⟨g1, 0, none⟩) hlt1).trans d1
  have hlt2 := HX2.out.lt
  obtain ⟨s0, s1, s2, c0, c1, c2, c3, c4, c5, hba, hbel⟩ := HX2.out
  have k0 := Tb.cell_of_blkT (k := 0) hba rfl
  have k1 := Tb.cell_of_blkT (k := 1) hba rfl
  have k2 := Tb.cell_of_blkT (k := 2) hba rfl
  have z0 := Tb.free_of_blkT (k := 0) hba
  have z1 := Tb.free_of_blkT (k := 1) hba
  have z2 := Tb.free_of_blkT (k := 2) hba
  have HNE := Lib.hid (HO2.out.ne_ans hba)
  have HBL := Lib.hid hbel
  have HBA := Lib.hid hba
  clear hba hbel hb2
  go_wp2_with fail
  refine bodyPost_ret (v := .tuple #[.slice (some ⟨g1, 0, none⟩) (r.length + 1) cap, .agg #[.int .i64 9, .int .u64 0, .slice none 0 0]]) (by simp [results, Tryz.results67, go_sem, k0, k1, k2]) rfl ⟨_, _, rfl, ⟨(HO2.out.put3 HNE.out _ _ _).argB, HR.out⟩, ⟨ArgB.nil _ _, room_nil⟩, put3_below (HBL.out.mono hB) (by omega) _ _ _⟩

end
section
open Go.ChangeShapes Go.WideShapes Go.ChangeAt Go.RowKit
set_option linter.unusedVariables false
set_option linter.unusedSimpArgs false
set_option maxRecDepth 100000

theorem typ_kinds {p : Int} (h : 0 ≤ p ∧ p ≤ 7) : Tb.tbTyp p = (sqKinds p : Int) := by
  unfold Tb.tbTyp sqKinds sqN
  rw [if_pos h, sqIs_yes h, if_pos rfl]
  by_cases h3 : p = 2 ∨ p = 3 ∨ p = 4
  · rw [if_pos h3, if_pos (by omega)]; rfl
  · rw [if_neg h3, if_neg (by omega)]; rfl

theorem runiv_any (x qn a : Nat) (p : Int) (t ob kd b c : Int) (r : List Nat) (v : Value) (B : Nat) (w : World) (h : OwnW w B v (x :: r)) (hB : B ≤ w.heap.size) (hp : 0 ≤ p ∧ p ≤ 7) (hk : 0 ≤ kd ∧ kd < (sqKinds p : Int)) (hq : qn ≤ 256) (hr : sqRight p r = true) (hx64 : ∀ y ∈ r, y < 18446744073709551616) (ha64 : a < 18446744073709551616) :
    Calls Tryz.prog 67 #[Tb.specV 7 p (qn : Int), v, callV t ob kd (a : Int) b c] w (ChP B w (mdUniv p (qn : Int) (x :: r) kd a)) := by
  unfold mdUniv
  by_cases hbig : 4294967296 ≤ a
  · rw [if_pos hbig]; exact runiv_big x qn a p t ob kd b c r v B w h hB hk hq hbig
  rw [if_neg hbig]
  by_cases hf : qn ≤ x
  · rw [if_pos (show (qn : Int) ≤ (((x :: r).getD 0 0 : Nat) : Int) by simp; omega)]
    exact runiv_full x qn a p t ob kd b c r v B w h hB hk hq (by omega) hf
  rw [if_neg (show ¬ (qn : Int) ≤ (((x :: r).getD 0 0 : Nat) : Int) by simp; omega)]
  have e0 : (x :: r).getD 0 0 = x := rfl
  have e1 : (x :: r).tail = r := rfl
  rw [e0, e1]
  have hr2 := hr
  unfold sqRight at hr2
  rw [sqIs_yes hp] at hr2
  simp only [Bool.true_and, Bool.and_eq_true, decide_eq_true_eq] at hr2
  have hkk : sqKinds p = sqN p.toNat := by unfold sqKinds; rw [sqIs_yes hp, if_pos rfl]
  rw [hkk] at hk
  have hd : sqAp p kd r a = sqDo p.toNat kd.toNat r a := by unfold sqAp; rw [if_pos hr, if_pos hk]
  have hlen := sqAp_len9 p kd r a (by have := sqHi_le p.toNat; omega)
  refine runiv_go x qn a p t ob kd b c r v B w h hB (by rw [hkk]; exact hk) hq (by omega) (by omega) (sqAp p kd r a) hlen (fun v1 W hA => ?_)
  rw [hd]
  have := refApply_any p.toNat kd.toNat (by omega) (by omega) r ⟨hr2.1, hr2.2⟩ v1 a W hA hx64 ha64
  have ep : ((p.toNat : Nat) : Int) = p := by omega
  have ek : ((kd.toNat : Nat) : Int) = kd := by omega
  rw [ep, ek] at this
  exact this

theorem rapply_any (n k p q : Int) (m : List Nat) (x : CallM) (v : Value) (w : World) (hA : ArgW w v m) (hok : Tb.tbErr n k p q = 0) (his : mdIs n k p m = true) (hth : 0 ≤ x.th ∧ x.th < n) (hx : x.Ok) (hx64 : ∀ y ∈ m, y < 18446744073709551616) (hl : m.length ≤ 2000000) :
    Calls Tryz.prog 36 #[.int .i64 n, Tb.specV k p q, v, x.v] w (ChP w.heap.size w (mdOp n k p q m x)) := by
  obtain ⟨th, ob, kd, a, b, c⟩ := x
  obtain ⟨ha, hb, hc⟩ := hx
  simp only at ha hb hc hth
  have h := okS hok
  have hn1 := h.n1
  have hn2 := h.n16
  unfold CallM.v mdOp
  simp only
  obtain ⟨tn, rfl⟩ : ∃ tn : Nat, th = tn := ⟨th.toNat, by omega⟩
  obtain ⟨nn, rfl⟩ : ∃ nn : Nat, n = nn := ⟨n.toNat, by omega⟩
  have ht16 : tn < 16 := by omega
  have hl2 : m.length ≤ 4294967296 := by omega
  have hk9 := Tb.tb_nine ⟨h.k0, h.k9⟩
  have e2 : ∀ k : Int, k = 1 ∨ k = 2 ∨ k = 4 ∨ k = 5 ∨ k = 6 ∨ k = 8 ∨ k = 9 → Tb.tbKn k p = 2 := by
    intro k hk
    rcases hk with rfl | rfl | rfl | rfl | rfl | rfl | rfl <;> rfl
  rcases hk9 with rfl | rfl | rfl | rfl | rfl | rfl | rfl | rfl | rfl | rfl
  · have hp := h.h0 rfl
    have hm : (m.length : Int) = p := by simpa [mdIs, mdLen] using his
    have e4 : Tb.tbKn 0 p = 4 := rfl
    rw [e4]
    refine rap_0 _ p q ob kd _ _ _ tn m _ v w hA hl2 ht16 (fun W B v1 ho hB => ?_)
    by_cases hk : 0 ≤ kd ∧ kd < 4
    · rw [if_neg (not_not_intro hk), if_pos rfl]
      exact rcell_any p q m _ ob kd a b c v1 B W ho hB hp hk hm
    · rw [if_pos hk]
      by_cases h0 : kd < 0
      · exact rcell_low p q _ ob kd _ _ _ m v1 B W ho hB h0
      · exact rcell_high p q _ ob kd _ _ _ m v1 B W ho hB (by omega)
  · have hm : m.length = 1 := by have : (m.length : Int) = 1 := by simpa [mdIs, mdLen] using his
                                 omega
    rw [e2 1 (by simp)]
    refine rap_1 _ p q ob kd _ _ _ tn m _ v w hA hl2 ht16 (fun W B v1 ho hB => ?_)
    by_cases hk : 0 ≤ kd ∧ kd < 2
    · rw [if_neg (not_not_intro hk), if_neg (by decide), if_pos rfl]
      exact rcons_any m _ ob kd _ _ a v1 B W ho hB (by omega) hm hx64
    · rw [if_pos hk]
      exact rcons_kind _ ob kd _ _ _ m v1 B W ho hB (by omega)
  · have hm : m.length = 1 := by have : (m.length : Int) = 1 := by simpa [mdIs, mdLen] using his
                                 omega
    rw [e2 2 (by simp)]
    by_cases hk : 0 ≤ kd ∧ kd < 2
    · rw [if_neg (not_not_intro hk), if_neg (by decide), if_neg (by decide), if_pos rfl]
      exact rap_2 _ p q ob kd _ _ _ tn m v w hA ht16 hm (by omega)
    · rw [if_pos hk]
      obtain ⟨y, hy⟩ := one_len hm
      exact rtally_kind _ p q ob kd _ _ _ tn y m hy v w hA hl2 ht16 (by omega) (by omega)
  · have hm : m.length = 1 := by have : (m.length : Int) = 1 := by simpa [mdIs, mdLen] using his
                                 omega
    have e3 : Tb.tbKn 3 p = 3 := rfl
    rw [e3]
    refine rap_3 _ p q ob kd _ _ _ tn m _ v w hA hl2 ht16 (fun W B v1 ho hB => ?_)
    by_cases hk : 0 ≤ kd ∧ kd < 3
    · rw [if_neg (not_not_intro hk), if_neg (by decide), if_neg (by decide), if_neg (by decide), if_pos rfl]
      exact radder_any m _ ob kd _ _ a v1 B W ho hB (by omega) hm hx64 ha
    · rw [if_pos hk]
      obtain ⟨y, rfl⟩ := one_len hm
      exact radder_kind _ ob kd _ _ _ y v1 B W ho hB hk
  · have hp := h.h4 rfl
    have hm : m.length = 1 := by have : (m.length : Int) = 1 := by simpa [mdIs, mdLen] using his
                                 omega
    rw [e2 4 (by simp)]
    obtain ⟨pn, rfl⟩ : ∃ pn : Nat, p = pn := ⟨p.toNat, by omega⟩
    refine rap_4 _ _ q ob kd _ _ _ tn m _ v w hA hl2 ht16 (fun W B v1 ho hB => ?_)
    by_cases hk : 0 ≤ kd ∧ kd < 2
    · rw [if_neg (not_not_intro hk), if_neg (by decide), if_neg (by decide), if_neg (by decide), if_neg (by decide), if_pos rfl]
      exact rmax_any m pn a q _ ob kd _ _ v1 B W ho hB (by omega) (by omega) hm ha
    · rw [if_pos hk]
      exact rmax_kind _ q _ ob kd _ _ _ m v1 B W ho hB (by omega)
  · have hp := h.h5 rfl
    have hm : m.length = 2 * nn := by have : (m.length : Int) = 2 * nn := by simpa [mdIs, mdLen] using his
                                      omega
    rw [e2 5 (by simp)]
    obtain ⟨pn, rfl⟩ : ∃ pn : Nat, p = pn := ⟨p.toNat, by omega⟩
    refine rap_5 _ _ q ob kd _ _ _ tn m _ v w hA hl2 ht16 (fun W B v1 ho hB => ?_)
    by_cases hk : 0 ≤ kd ∧ kd < 2
    · rw [if_neg (not_not_intro hk), if_neg (by decide), if_neg (by decide), if_neg (by decide), if_neg (by decide), if_neg (by decide), if_pos rfl]
      unfold mdSnap
      simp only [Int.toNat_natCast]
      by_cases hk1 : kd = 1
      · subst hk1
        rw [if_pos rfl]
        exact rsnap_list nn _ _ _ _ ob _ _ _ _ _ _ _ _ _ m v1 B W ho hB (by omega) hl2
      · obtain rfl : kd = 0 := by omega
        rw [if_neg (by decide)]
        exact rsnap_upd nn pn nn tn tn a (nn + tn) _ ob _ _ _ _ _ _ _ m v1 B W ho hB (by omega) (by omega) (by omega) (by omega) rfl (by omega) (by omega) hl2 hx64
    · rw [if_pos hk]
      exact rsnap_kind _ _ _ _ _ _ _ _ _ _ _ ob kd _ _ _ m v1 B W ho hB (by omega)
  · have hp := h.h6 rfl
    obtain ⟨pn, rfl⟩ : ∃ pn : Nat, p = pn := ⟨p.toNat, by omega⟩
    obtain ⟨qn, rfl⟩ : ∃ qn : Nat, q = qn := ⟨q.toNat, by omega⟩
    have hm : m.length = pn + nn := by have : (m.length : Int) = pn + nn := by simpa [mdIs, mdLen] using his
                                       omega
    rw [e2 6 (by simp)]
    refine rap_6 _ _ _ ob kd _ _ _ tn m _ v w hA hl2 ht16 (fun W B v1 ho hB => ?_)
    by_cases hk : 0 ≤ kd ∧ kd < 2
    · rw [if_neg (not_not_intro hk), if_neg (by decide), if_neg (by decide), if_neg (by decide), if_neg (by decide), if_neg (by decide), if_neg (by decide), if_pos rfl]
      unfold mdMulti
      simp only [Int.toNat_natCast]
      by_cases hk1 : kd = 1
      · subst hk1
        rw [if_pos rfl]
        exact rsnap_list pn _ _ _ _ ob _ _ _ _ _ _ _ _ _ m v1 B W ho hB (by omega) hl2
      · obtain rfl : kd = 0 := by omega
        rw [if_neg (by decide)]
        by_cases hbig : pn ≤ a
        · rw [if_pos hbig]
          exact rsnap_big pn a _ _ _ _ ob _ _ _ _ _ _ _ _ m v1 B W ho hB (by omega) hbig
        · rw [if_neg hbig]
          exact rsnap_upd pn qn nn tn a b (pn + tn) _ ob _ _ _ _ _ _ _ m v1 B W ho hB (by omega) (by omega) (by omega) (by omega) rfl (by omega) (by omega) hl2 hx64
    · rw [if_pos hk]
      exact rsnap_kind _ _ _ _ _ _ _ _ _ _ _ ob kd _ _ _ m v1 B W ho hB (by omega)
  · have hp := h.h7 rfl
    obtain ⟨qn, rfl⟩ : ∃ qn : Nat, q = qn := ⟨q.toNat, by omega⟩
    have hm := his
    unfold mdIs at hm
    rw [if_pos rfl, Bool.and_eq_true, decide_eq_true_eq] at hm
    obtain ⟨y, r, rfl⟩ : ∃ y r, m = y :: r := by
      cases m with
      | nil => simp at hm
      | cons y r => exact ⟨y, r, rfl⟩
    have e7 : Tb.tbKn 7 p = (sqKinds p : Int) := typ_kinds hp.1
    rw [e7]
    refine rap_7 _ p _ ob kd _ _ _ tn (y :: r) _ v w hA hl2 ht16 (fun W B v1 ho hB => ?_)
    by_cases hk : 0 ≤ kd ∧ kd < (sqKinds p : Int)
    · rw [if_neg (not_not_intro hk), if_neg (by decide), if_neg (by decide), if_neg (by decide), if_neg (by decide), if_neg (by decide), if_neg (by decide), if_neg (by decide), if_pos rfl]
      exact runiv_any y qn a p _ ob kd _ _ r v1 B W ho hB hp.1 hk (by omega) hm.2 (fun z hz => hx64 z (List.mem_cons_of_mem _ hz)) ha
    · rw [if_pos hk]
      by_cases h0 : kd < 0
      · exact runiv_low y qn a p _ ob kd _ _ r v1 B W ho hB h0 (by omega)
      · exact runiv_high y qn a p _ ob kd _ _ r v1 B W ho hB (by omega) (by omega)
  · have hm : m.length % 2 = 0 := by simpa [mdIs] using his
    rw [e2 8 (by simp)]
    refine rap_8 _ p q ob kd _ _ _ tn m _ v w hA hl2 ht16 (fun W B v1 ho hB => ?_)
    by_cases hk : 0 ≤ kd ∧ kd < 2
    · rw [if_neg (not_not_intro hk), if_neg (by decide), if_neg (by decide), if_neg (by decide), if_neg (by decide), if_neg (by decide), if_neg (by decide), if_neg (by decide), if_neg (by decide), if_pos rfl]
      exact rqueue_any tn a ob kd _ _ m v1 B W ho hB (by omega) ht16 hl hm
    · rw [if_pos hk]
      exact rqueue_kind _ ob kd _ _ _ m v1 B W ho hB (by omega)
  · have hp := h.h9 rfl
    obtain ⟨pn, rfl⟩ : ∃ pn : Nat, p = pn := ⟨p.toNat, by omega⟩
    have hm : m.length = pn := by have : (m.length : Int) = pn := by simpa [mdIs, mdLen] using his
                                  omega
    rw [e2 9 (by simp)]
    refine rap_9 _ _ q ob kd _ _ _ tn m _ v w hA hl2 ht16 (fun W B v1 ho hB => ?_)
    by_cases hk : 0 ≤ kd ∧ kd < 2
    · rw [if_neg (not_not_intro hk), if_neg (by decide), if_neg (by decide), if_neg (by decide), if_neg (by decide), if_neg (by decide), if_neg (by decide), if_neg (by decide), if_neg (by decide), if_neg (by decide)]
      exact rpin_any pn q m _ ob kd _ _ a v1 B W ho hB (by omega) (by omega) hm ha
    · rw [if_pos hk]
      exact rpin_kind _ q _ ob kd _ _ _ m v1 B W ho hB (by omega)
end
section
open Go.ChangeShapes Go.WideShapes Go.ChangeAt Go.RowKit Go.Maps
set_option linter.unusedVariables false
set_option linter.unusedSimpArgs false
set_option maxRecDepth 100000

set_option maxHeartbeats 2000000 in
theorem rwrong_any (n : Int) (sao cao : Option Addr) (sb so sc cb co cc : Nat) (l : List Tb.SpecL) (cs : List CallM) (w : World) (h : SoArgs w sao cao sb so cb co l cs) :
    Calls Tryz.prog 17 #[.int .i64 n, .slice sao l.length sc, .slice cao cs.length cc] w fun e w' => e = .returned (.int .i64 (soErr n l cs)) ∧ Below w.heap.size w w' := by
  obtain ⟨R, hR⟩ : ∃ R : Int, soErr n l cs = R := ⟨_, rfl⟩
  rw [hR]
  have HR := Lib.hid hR
  clear hR
  by_cases hn : 1 ≤ n ∧ n ≤ 16
  case neg =>
    have hr : Hid (R = 1) := Lib.hid (by rw [← HR.out]; unfold soErr; rw [if_pos hn])
    clear h HR
    by_cases h1 : n < 1
    · clear hn
      have d : decide (n < 1) = true := decide_eq_true h1
      go_enter Tryz.func17, Tryz.ntmps17
      go_wp2
      go_ret
      exact ⟨by rw [hr.out]; rfl, Below.refl _ _⟩
    · have h16 : 16 < n := by omega
      have d : decide (n < 1) = false := decide_eq_false h1
      have d2 : decide (16 < n) = true := decide_eq_true h16
      clear hn
      go_enter Tryz.func17, Tryz.ntmps17
      go_wp2
      go_ret
      exact ⟨by rw [hr.out]; rfl, Below.refl _ _⟩
  have d : decide (n < 1) = false := decide_eq_false (by omega)
  have d2 : decide (16 < n) = false := decide_eq_false (by omega)
  by_cases h8 : 1000 < cs.length
  · have d3 : decide ((1000 : Int) < (cs.length : Int)) = true := decide_eq_true (by omega)
    have hr : Hid (R = 3) := Lib.hid (by rw [← HR.out]; unfold soErr; rw [if_neg (not_not_intro hn), if_pos h8])
    clear hn h HR
    go_enter Tryz.func17, Tryz.ntmps17
    go_wp2
    go_ret
    exact ⟨by rw [hr.out]; rfl, Below.refl _ _⟩
  have d3 : decide ((1000 : Int) < (cs.length : Int)) = false := decide_eq_false (by omega)
  have hlen : cs.length ≤ 1000 := by omega
  have HR2 : Hid (R = if thrOk n cs = false then 1 else laErr n l) := Lib.hid (by rw [← HR.out]; unfold soErr; rw [if_neg (not_not_intro hn), if_neg h8])
  have HLY : Hid (∀ W, Below w.heap.size w W → Calls Tryz.prog 9 #[.int .i64 n, .slice sao l.length sc] W fun e w' => e = .returned (.int .i64 (laErr n l)) ∧ Below W.heap.size W w') := Lib.hid (fun W hb =>
    rlay_any n sao sb so sc l W h.sa (fun hl => Nat.lt_of_lt_of_le (specs_lt h.sp hl) hb.size) (h.sp.stays hb (fun hl => specs_lt h.sp hl)))
  have HC := Lib.hid h.cp
  have HA := Lib.hid h.ca
  have HB : Hid (0 < cs.length → cb < w.heap.size) := Lib.hid (fun hl => h.cp.lt hl)
  clear h hn HR h8
  go_enter Tryz.func17, Tryz.ntmps17
  go_wp2
  go_loopw [19] (fun k wr => ∃ (j : Nat), j ≤ cs.length ∧ k = .int .i64 j ∧ Hid (thrOk n (cs.drop j) = thrOk n cs) ∧ Below w.heap.size w wr) (fun k _ => cs.length - (intOf k).toNat)
  case atStart => exact ⟨0, Nat.zero_le _, rfl, Lib.hid rfl, Below.refl _ _⟩
  case round =>
    obtain ⟨j, hj, rfl, hp, hbl⟩ := hrel
    have hsz := hbl.size
    by_cases hlt : j < cs.length
    · obtain rfl := HA.out (by omega)
      obtain ⟨x, hx⟩ : ∃ x, cs[j]? = some x := ⟨cs[j], List.getElem?_eq_getElem (by omega)⟩
      obtain ⟨c0, c1, c2, c3, c4, c5⟩ := HC.out.stays hbl HB.out j _ hx
      have hd := Lib.hid (drop_callsM hx)
      clear hx
      by_cases h0 : x.th < 0
      · have hN : Hid (R = 1) := Lib.hid (by rw [HR2.out, ← hp.out, hd.out, thrOk_no (by omega), if_pos rfl])
        have d4 : decide (x.th < 0) = true := decide_eq_true h0
        clear hp hd
        go_wp2
        go_ret
        exact ⟨by rw [hN.out]; rfl, hbl⟩
      · have d4 : decide (x.th < 0) = false := decide_eq_false h0
        by_cases h1 : n ≤ x.th
        · have hN : Hid (R = 1) := Lib.hid (by rw [HR2.out, ← hp.out, hd.out, thrOk_no (by omega), if_pos rfl])
          have d5 : decide (n ≤ x.th) = true := decide_eq_true h1
          clear hp hd
          go_wp2
          go_ret
          exact ⟨by rw [hN.out]; rfl, hbl⟩
        · have d5 : decide (n ≤ x.th) = false := decide_eq_false h1
          have hN : Hid (thrOk n (cs.drop (j + 1)) = thrOk n cs) := Lib.hid (by rw [← hp.out, hd.out, thrOk_cons (by omega)])
          clear hp hd
          go_wp2
          go_roundw
          case rel => exact ⟨j + 1, by omega, by go_num, hN, hbl⟩
          case measure => simp [intOf]; omega
    · have hjl : j = cs.length := by omega
      subst hjl
      have hN : Hid (R = laErr n l) := Lib.hid (by
        have : thrOk n cs = true := by rw [← hp.out, List.drop_length]; rfl
        rw [HR2.out, this, if_neg (by decide)])
      have HL2 := Lib.hid (HLY.out wr hbl)
      obtain ⟨er, her⟩ : ∃ er, laErr n l = er := ⟨_, rfl⟩
      rw [her] at hN HL2
      clear her
      go_wp2_with (go_at_call 9; refine HL2.out.mono ?_; rintro e w5 ⟨rfl, hb5⟩; (have HB5 := Lib.hid (hbl.trans (hb5.mono hsz))); clear hb5)
      go_ret
      exact ⟨by rw [hN.out]; rfl, HB5.out⟩

set_option maxHeartbeats 2000000 in
theorem rown_any (t : Nat) (v : Value) (m : List Nat) (w : World) (h1 : ArgW w v m) (ht : t < 16) (hl : m.length ≤ 4000000) (he : m.length % 2 = 0) :
    Calls Tryz.prog 47 #[v, .int .i64 (t : Int)] w fun e w' => e = .returned (.int .i64 (mdOwn t m : Nat)) ∧ ∃ k, w' = w.drewN k := by
  obtain ⟨ao, b1, o1, cap, rfl, ha1, hn1, hc1⟩ := h1
  unfold wU at hc1
  have HA := Lib.hid ha1
  have HC := Lib.hid hc1
  obtain ⟨R, hR⟩ : ∃ R : Nat, mdOwn t m = R := ⟨_, rfl⟩
  rw [hR]
  have HR := Lib.hid hR
  clear ha1 hc1 hn1 hR
  go_enter Tryz.func47, Tryz.ntmps47
  go_wp2
  go_loopw [5, 6] (fun o i wr => ∃ j oc k : Nat, j ≤ m.length ∧ i = .int .i64 j ∧ o = .int .i64 oc ∧ j % 2 = 0 ∧ oc ≤ j ∧ Hid (oc + mdOwn t (m.drop j) = R) ∧ wr = w.drewN k) (fun _ i _ => m.length - (intOf i).toNat)
  case atStart => exact ⟨0, 0, 0, Nat.zero_le _, rfl, rfl, rfl, Nat.le_refl _, Lib.hid (by rw [← HR.out]; simp), rfl⟩
  case round =>
    obtain ⟨j, oc, k, hj, rfl, rfl, hj2, hoj, hp, rfl⟩ := hrel
    by_cases hlt : j < m.length
    · obtain rfl := HA.out (by omega)
      obtain ⟨x, hx⟩ : ∃ x, m[j]? = some x := ⟨m[j], List.getElem?_eq_getElem hlt⟩
      have d1 := HC.out j x hx
      have HS := Lib.hid (mdOwn_step (t := t) hx (by omega))
      have d9 : decide ((j : Int) + 1 < (m.length : Int)) = true := decide_eq_true (by omega)
      have d8 : j + 1 < m.length := by omega
      clear hx
      by_cases hxt : x = t
      · subst hxt
        have HN : Hid (oc + 1 + mdOwn x (m.drop (j + 2)) = R) := Lib.hid (by rw [← hp.out, HS.out, if_pos rfl]; omega)
        clear HS
        go_wp2_with fail
        go_roundw
        case rel => exact ⟨j + 2, oc + 1, _, by omega, by go_num, by go_num, by omega, by omega, HN, rfl⟩
        case measure => simp [intOf]; omega
      · have HN : Hid (oc + mdOwn t (m.drop (j + 2)) = R) := Lib.hid (by rw [← hp.out, HS.out, if_neg hxt]; omega)
        have hd2 : ((x : Int) == (t : Int)) = false := by rw [beq_eq_false_iff_ne]; omega
        have hd3 : decide ((x : Int) = (t : Int)) = false := decide_eq_false (by omega)
        clear HS
        go_wp2_with fail
        go_roundw
        case rel => exact ⟨j + 2, oc, _, by omega, by go_num, rfl, by omega, by omega, HN, rfl⟩
        case measure => simp [intOf]; omega
    · have : j = m.length := by omega
      subst this
      have HE : Hid (oc = R) := Lib.hid (by rw [← hp.out, List.drop_length]; rfl)
      have d9 : decide ((m.length : Int) + 1 < (m.length : Int)) = false := decide_eq_false (by omega)
      have d8 : ¬ m.length + 1 < m.length := by omega
      go_wp2
      go_ret
      exact ⟨by rw [HE.out]; rfl, _, rfl⟩
end
section
open Go.ChangeShapes Go.WideShapes Go.ChangeAt Go.RowKit Go.Maps
set_option linter.unusedVariables false
set_option linter.unusedSimpArgs false
set_option maxRecDepth 100000

theorem types_as : 57 ≠ 37 := by decide
def intVs (l : List Int) : List Value := l.map (Value.int .i64)
/-- the reference's state: the block of what is done (d7), of the threads whose values were taken last (lb) -/
structure RfAt (w : World) (l : List Tb.SpecL) (d7 lb : Nat) (av sv : Value) (r : Nat) (us : List Value) (s : SoS) (az : List MdR) (lst : List (MdR × Value)) : Prop where
  st : w.heap[d7]? = some (.cells #[av, sv] 52)
  an : AnsW w (lb + 1) av az lst
  row : w.ownsRow (lb + 1) 37 1 sv r us
  ws : WsAt w (lb + 1) us s.ms
  la : w.ownsRow (d7 + 1) 3 1 (.slice (some ⟨lb, 0, none⟩) l.length l.length) l.length (intVs s.la)
  o1 : Off av us
  o2 : Off sv us
  o4 : Off sv (lst.map (·.2))
  dl : d7 < lb
section
variable {w w6 : World} {l : List Tb.SpecL} {d7 lb : Nat} {av sv : Value} {r : Nat} {us : List Value} {s : SoS} {az : List MdR} {lst : List (MdR × Value)}
theorem RfAt.lt (h : RfAt w l d7 lb av sv r us s az lst) : d7 < w.heap.size ∧ lb < w.heap.size := ⟨blk_lt h.st, (h.la.lt lb rfl).2⟩
theorem RfAt.blks (h : RfAt w l d7 lb av sv r us s az lst) : (∀ b, av.ownBlock = some b → lb < b ∧ b < w.heap.size) ∧ (∀ b, sv.ownBlock = some b → lb < b ∧ b < w.heap.size) ∧ (∀ b, av.ownBlock = some b → sv.ownBlock ≠ some b) := by
  refine ⟨fun b hb => by have := h.an.row.lt b hb; omega, fun b hb => by have := h.row.lt b hb; omega, fun b hb e => ?_⟩
  rcases owns_apart h.an.row h.row types_as with h1 | h1
  · rw [h1] at hb; cases hb
  · exact h1 (hb.trans e.symm)
/-- all that there is stays -/
theorem RfAt.keep (h : RfAt w l d7 lb av sv r us s az lst) (hk : ∀ b, b < w.heap.size → w6.heap[b]? = w.heap[b]?) (hg : w.grownBy w6 none) : RfAt w6 l d7 lb av sv r us s az lst := by
  have hn : ∀ v : Value, v.ownBlock = none ∨ v.ownBlock ≠ none := fun v => by cases v.ownBlock with | none => exact .inl rfl | some g => exact .inr (fun e => by cases e)
  exact ⟨(hk _ h.lt.1).trans h.st, h.an.keep hg (hn _) (fun _ _ _ _ e => by cases e), h.row.kept hg (hn _), h.ws.keepE (fun u hu b hb => hk b (h.ws.lt hu hb).2), h.la.kept hg (hn _), h.o1, h.o2, h.o4, h.dl⟩
theorem RfAt.below (h : RfAt w l d7 lb av sv r us s az lst) (hb : Below w.heap.size w w6) : RfAt w6 l d7 lb av sv r us s az lst := h.keep hb.block (grown_below hb)
theorem RfAt.alloc (h : RfAt w l d7 lb av sv r us s az lst) (o : Obj) : RfAt (w.alloc o) l d7 lb av sv r us s az lst := h.below ((Below.refl _ _).alloc (Nat.le_refl _) _)
theorem RfAt.cells (h : RfAt w l d7 lb av sv r us s az lst) : w.cell? ⟨d7, 0, none⟩ = some av ∧ w.cell? ⟨d7, 1, none⟩ = some sv ∧ w.frozen? ⟨d7, 0, none⟩ = false ∧ w.frozen? ⟨d7, 1, none⟩ = false :=
  ⟨Tb.cell_of_blkT h.st rfl, Tb.cell_of_blkT h.st rfl, Tb.free_of_blkT h.st, Tb.free_of_blkT h.st⟩
theorem RfAt.last (h : RfAt w l d7 lb av sv r us s az lst) {i : Nat} {z : Int} (hz : s.la[i]? = some z) : w.cell? ⟨lb, i, none⟩ = some (.int .i64 z) ∧ w.frozen? ⟨lb, i, none⟩ = false := by
  refine ⟨?_, World.ownsRow.frozenAt h.la i⟩
  have h1 := h.la.1
  have hi := (List.getElem?_eq_some_iff.1 hz).1
  unfold intVs at h1
  rw [List.length_map, Nat.mul_one] at h1
  rw [World.ownsRow.cellAt h.la i (by omega)]
  unfold intVs
  rw [List.getElem?_map, hz]; rfl
theorem RfAt.model (h : RfAt w l d7 lb av sv l.length us s az lst) (hm : s.ms.length = l.length) {i : Nat} (hi : i < l.length) :
    ∃ mg mcap u, sv = .slice (some ⟨mg, 0, none⟩) l.length mcap ∧ lb < mg ∧ mg < w.heap.size ∧ us[i]? = some u ∧ w.cell? ⟨mg, i, none⟩ = some u ∧ w.frozen? ⟨mg, i, none⟩ = false ∧ ArgB w (lb + 1) u (s.ms.getD i []) ∧ Room u := by
  have hr := h.row
  obtain ⟨ao, mg, mcap, rfl, o1, o2, o3, o4⟩ := owns_open hr
  obtain rfl := o1 (by omega)
  obtain ⟨u, hu⟩ : ∃ u, us[i]? = some u := ⟨_, List.getElem?_eq_getElem (by rw [h.ws.1, hm]; exact hi)⟩
  obtain ⟨m, hmm⟩ : ∃ m, s.ms[i]? = some m := ⟨_, List.getElem?_eq_getElem (by rw [hm]; exact hi)⟩
  obtain ⟨ha, hroom⟩ := h.ws.2 i u m hu hmm
  have o2' := o2 (by omega)
  exact ⟨mg, mcap, u, rfl, by omega, o3 (by omega), hu, o4 i u hu, World.ownsRow.frozenAt hr i, by rw [getD_some' hmm]; exact ha, hroom⟩
/-- one state more -/
theorem RfAt.push {ms : List (List Nat)} {la : List Int} (h : RfAt w l d7 lb av sv r us ⟨ms, la⟩ az lst) {v : Value} {m : List Nat} (hv : ArgB w (lb + 1) v m) (hR : Room v) {g6 cap6 : Nat}
    (hrow : w6.ownsRow (lb + 1) 37 1 (.slice (some ⟨g6, 0, none⟩) (r + 1) cap6) (r + 1) (us ++ [v])) (hg : (w.alloc (.cells #[v] 37)).grownBy w6 sv.ownBlock) (hl : sv.ownBlock = some g6 ∨ g6 = w.heap.size + 1)
    (hs : ∀ b, blkOf v = some b → sv.ownBlock ≠ some b) (ha : ∀ b, blkOf v = some b → av.ownBlock ≠ some b) :
    RfAt (w6.setCell ⟨d7, 1, none⟩ (.slice (some ⟨g6, 0, none⟩) (r + 1) cap6)) l d7 lb av (.slice (some ⟨g6, 0, none⟩) (r + 1) cap6) (r + 1) (us ++ [v]) ⟨ms ++ [m], la⟩ az lst := by
  obtain ⟨hd, hlb⟩ := h.lt
  obtain ⟨hab, hsb, hap⟩ := h.blks
  have hdl := h.dl
  have hk6 : ∀ b, b < w.heap.size → sv.ownBlock ≠ some b → w6.heap[b]? = w.heap[b]? := fun b hb hne => (hg.block b (by simp; omega) (fun e => hne e.symm)).trans (Below.heap_alloc _ _ _ hb)
  have hk : ∀ b, b < w.heap.size → b ≠ d7 → sv.ownBlock ≠ some b → (w6.setCell ⟨d7, 1, none⟩ (.slice (some ⟨g6, 0, none⟩) (r + 1) cap6)).heap[b]? = w.heap[b]? := fun b hb h1 h2 => (Below.heap_setCell _ _ _ _ h1).trans (hk6 b hb h2)
  have hlow : ∀ b, b ≤ lb → sv.ownBlock ≠ some b := fun b hb e => by have := (hsb b e).1; omega
  have hg6 : lb + 1 ≤ g6 := (hrow.lt g6 rfl).1
  have hst6 := (hk6 _ hd (hlow _ (by omega))).trans h.st
  have hWs := h.ws.snoc hv hR
  have hOf : Off sv (us ++ [v]) := h.o2.app (Off.one hs)
  have hgs : (w.alloc (.cells #[v] 37)).grownBy (w6.setCell ⟨d7, 1, none⟩ (.slice (some ⟨g6, 0, none⟩) (r + 1) cap6)) none → False ∨ True := fun _ => .inr trivial
  have hrk : ∀ (e : TypeId) (C sz n : Nat) (v0 : Value) (xs : List Value), w.ownsRow C e sz v0 n xs → (∀ b, v0.ownBlock = some b → b < w.heap.size ∧ b ≠ d7 ∧ sv.ownBlock ≠ some b) → (w6.setCell ⟨d7, 1, none⟩ (.slice (some ⟨g6, 0, none⟩) (r + 1) cap6)).ownsRow C e sz v0 n xs := by
    intro e C sz n v0 xs ho hb
    obtain ⟨h0, h1 | ⟨g, cap, cur, hv0, hg0, hb0, r0⟩⟩ := ho
    · exact ⟨h0, .inl h1⟩
    · obtain ⟨p1, p2, p3⟩ := hb g (by rw [hv0]; rfl)
      exact ⟨h0, .inr ⟨g, cap, cur, hv0, hg0, (hk g p1 p2 p3).trans hb0, r0⟩⟩
  refine ⟨heap_setCell_same w6 d7 1 _ _ _ hst6, ⟨h.an.eq, hrk _ _ _ _ _ _ h.an.row (fun b hb => ⟨(hab b hb).2, by have := (hab b hb).1; omega, hap b hb⟩), h.an.ls.keepE (fun p hp b hb => ?_), h.an.off⟩, ?_, hWs.keepE (fun u hu b hb => ?_), hrk _ _ _ _ _ _ h.la (fun b hb => ?_), ?_, ?_, ?_, hdl⟩
  · have := (h.an.ls p hp).blk hb
    exact hk b this.2 (by omega) (h.o4 _ (List.mem_map_of_mem hp) b hb)
  · exact ownsRow_setCell_other hrow (fun e => by simp only [Value.ownBlock, Option.some.injEq] at e; omega) _
  · have := hWs.lt hu hb
    exact hk b this.2 (by omega) (hOf u hu b hb)
  · cases hb; exact ⟨hlb, by show lb ≠ d7; omega, hlow _ (Nat.le_refl _)⟩
  · exact h.o1.app (Off.one ha)
  · exact off_lies hOf (fun u hu b hb => by have := (hWs.lt hu hb).2; omega) hl
  · exact off_lies h.o4 (fun u hu b hb => by
      obtain ⟨p, hp, rfl⟩ := List.mem_map.1 hu
      have := ((h.an.ls p hp).blk hb).2; omega) hl
/-- one answer more -/
theorem RfAt.ans (h : RfAt w l d7 lb av sv r us s az lst) {x : Value} {a : MdR} (hx : ArgB w (lb + 1) x a.ls) {g6 cap6 : Nat}
    (hrow : w6.ownsRow (lb + 1) 57 3 (.slice (some ⟨g6, 0, none⟩) (az.length + 1) cap6) (az.length + 1) (ansVs lst ++ [.int .i64 (a.err : Int), .int .u64 (a.val : Int), x])) (hg : (w.alloc (.cells #[.int .i64 (a.err : Int), .int .u64 (a.val : Int), x] 57)).grownBy w6 av.ownBlock) (hl : av.ownBlock = some g6 ∨ g6 = w.heap.size + 1)
    (ha : ∀ b, blkOf x = some b → av.ownBlock ≠ some b) (hs : ∀ b, blkOf x = some b → sv.ownBlock ≠ some b) :
    RfAt (w6.setCell ⟨d7, 0, none⟩ (.slice (some ⟨g6, 0, none⟩) (az.length + 1) cap6)) l d7 lb (.slice (some ⟨g6, 0, none⟩) (az.length + 1) cap6) sv r us s (az ++ [a]) (lst ++ [(a, x)]) := by
  obtain ⟨hd, hlb⟩ := h.lt
  obtain ⟨hab, hsb, hap⟩ := h.blks
  have hdl := h.dl
  have hk6 : ∀ b, b < w.heap.size → av.ownBlock ≠ some b → w6.heap[b]? = w.heap[b]? := fun b hb hne => (hg.block b (by simp; omega) (fun e => hne e.symm)).trans (Below.heap_alloc _ _ _ hb)
  have hk : ∀ b, b < w.heap.size → b ≠ d7 → av.ownBlock ≠ some b → (w6.setCell ⟨d7, 0, none⟩ (.slice (some ⟨g6, 0, none⟩) (az.length + 1) cap6)).heap[b]? = w.heap[b]? := fun b hb h1 h2 => (Below.heap_setCell _ _ _ _ h1).trans (hk6 b hb h2)
  have hlow : ∀ b, b ≤ lb → av.ownBlock ≠ some b := fun b hb e => by have := (hab b e).1; omega
  have hg6 : lb + 1 ≤ g6 := (hrow.lt g6 rfl).1
  have hst6 := (hk6 _ hd (hlow _ (by omega))).trans h.st
  have hLS : LsAt w (lb + 1) (lst ++ [(a, x)]) := h.an.ls.snoc hx
  have hmap : (lst ++ [(a, x)]).map (·.2) = lst.map (·.2) ++ [x] := by simp
  have hOL : Off av (lst.map (·.2) ++ [x]) := h.an.off.app (Off.one ha)
  have hin : ∀ p ∈ lst ++ [(a, x)], p.2 ∈ lst.map (·.2) ++ [x] := fun p hp => by rw [← hmap]; exact List.mem_map_of_mem hp
  have hrk : ∀ (e : TypeId) (C sz n : Nat) (v0 : Value) (xs : List Value), w.ownsRow C e sz v0 n xs → (∀ b, v0.ownBlock = some b → b < w.heap.size ∧ b ≠ d7 ∧ av.ownBlock ≠ some b) → (w6.setCell ⟨d7, 0, none⟩ (.slice (some ⟨g6, 0, none⟩) (az.length + 1) cap6)).ownsRow C e sz v0 n xs := by
    intro e C sz n v0 xs ho hb
    obtain ⟨h0, h1 | ⟨g, cap, cur, hv0, hg0, hb0, r0⟩⟩ := ho
    · exact ⟨h0, .inl h1⟩
    · obtain ⟨p1, p2, p3⟩ := hb g (by rw [hv0]; rfl)
      exact ⟨h0, .inr ⟨g, cap, cur, hv0, hg0, (hk g p1 p2 p3).trans hb0, r0⟩⟩
  refine ⟨heap_setCell_same w6 d7 0 _ _ _ hst6, ⟨by rw [List.map_append, h.an.eq]; rfl, ?_, hLS.keepE (fun p hp b hb => ?_), ?_⟩, hrk _ _ _ _ _ _ h.row (fun b hb => ⟨(hsb b hb).2, by have := (hsb b hb).1; omega, fun e => hap b e hb⟩), h.ws.keepE (fun u hu b hb => ?_), hrk _ _ _ _ _ _ h.la (fun b hb => ?_), ?_, h.o2, ?_, hdl⟩
  · rw [List.length_append, ansVs_snoc]
    exact ownsRow_setCell_other hrow (fun e => by simp only [Value.ownBlock, Option.some.injEq] at e; omega) _
  · have := (hLS p hp).blk hb
    exact hk b this.2 (by omega) (hOL _ (hin p hp) b hb)
  · rw [hmap]
    exact off_lies hOL (fun u hu b hb => by
      obtain ⟨p, hp, rfl⟩ := List.mem_map.1 (by rw [hmap]; exact hu)
      have := ((hLS p hp).blk hb).2; omega) hl
  · have := h.ws.lt hu hb
    exact hk b this.2 (by omega) (h.o1 u hu b hb)
  · cases hb; exact ⟨hlb, by show lb ≠ d7; omega, hlow _ (Nat.le_refl _)⟩
  · exact off_lies h.o1 (fun u hu b hb => by have := (h.ws.lt hu hb).2; omega) hl
  · rw [hmap]; exact h.o4.app (Off.one hs)
/-- another thread whose value was taken last -/
theorem RfAt.setLast {ms : List (List Nat)} {la : List Int} (h : RfAt w l d7 lb av sv r us ⟨ms, la⟩ az lst) (i : Nat) (z : Int) : RfAt (w.setCell ⟨lb, i, none⟩ (.int .i64 z)) l d7 lb av sv r us ⟨ms, la.set i z⟩ az lst := by
  obtain ⟨hab, hsb, hap⟩ := h.blks
  have hdl := h.dl
  have hk : ∀ b, b ≠ lb → (w.setCell ⟨lb, i, none⟩ (.int .i64 z)).heap[b]? = w.heap[b]? := fun b hb => Below.heap_setCell _ _ _ _ hb
  refine ⟨(hk _ (by omega)).trans h.st, ⟨h.an.eq, ownsRow_setCell_other h.an.row (fun e => by have := (hab _ e).1; simp at this) _, h.an.ls.keepE (fun p hp b hb => hk b (by have := (h.an.ls p hp).blk hb; omega)), h.an.off⟩, ownsRow_setCell_other h.row (fun e => by have := (hsb _ e).1; simp at this) _, h.ws.keepE (fun u hu b hb => hk b (by have := h.ws.lt hu hb; omega)), ?_, h.o1, h.o2, h.o4, hdl⟩
  have := (World.ownsRow.stored h.la i (.int .i64 z)).1
  unfold intVs at *
  rw [List.map_set]
  exact this
/-- another model -/
theorem RfAt.setModel {mg mcap : Nat} {ms : List (List Nat)} {la : List Int} (h : RfAt w l d7 lb av (.slice (some ⟨mg, 0, none⟩) l.length mcap) l.length us ⟨ms, la⟩ az lst) (i : Nat) {u : Value} {m : List Nat} (hu : ArgB w (lb + 1) u m) (hr : Room u) (ho : ∀ b, blkOf u = some b → b ≠ mg) (ha : ∀ b, blkOf u = some b → av.ownBlock ≠ some b) :
    RfAt (w.setCell ⟨mg, i, none⟩ u) l d7 lb av (.slice (some ⟨mg, 0, none⟩) l.length mcap) l.length (us.set i u) ⟨ms.set i m, la⟩ az lst := by
  obtain ⟨hab, hsb, hap⟩ := h.blks
  have hdl := h.dl
  have hmg := (hsb mg rfl).1
  have hrow := World.ownsRow.stored h.row i u
  have hW := h.ws.set i hu hr
  have hO : Off (.slice (some ⟨mg, 0, none⟩) l.length mcap) (us.set i u) := h.o2.set i (fun b hb e => ho b hb (by simp only [Value.ownBlock, Option.some.injEq] at e; exact e.symm))
  have hk : ∀ b, b ≠ mg → (w.setCell ⟨mg, i, none⟩ u).heap[b]? = w.heap[b]? := fun b hb => Below.heap_setCell _ _ _ _ hb
  refine ⟨(hk _ (by omega)).trans h.st, ⟨h.an.eq, ownsRow_setCell_other h.an.row (fun e => hap mg e rfl) _, h.an.ls.keepE (fun p hp b hb => hk b (fun e => h.o4 _ (List.mem_map_of_mem hp) b hb (by rw [e]; rfl))), h.an.off⟩, hrow.1, hW.keepE (fun u' hu' b hb => hk b (fun e => hO u' hu' b hb (by rw [e]; rfl))), ownsRow_setCell_other h.la (fun e => by simp only [Value.ownBlock, Option.some.injEq] at e; omega) _, h.o1.set i ha, hO, h.o4, hdl⟩
end
theorem infoIE : (Tryz.prog.info? 3).map (fun i => (i.zero, i.size, i.bytes)) = some (some (.int .i64 0), 1, 8) := by kernel_rfl
theorem run_mkE (n : Nat) (hn : n ≤ 4294967296) (w : World) : (Instr.makeSlice 24 (.int .i64 (n : Int)) (.int .i64 (n : Int))).run Tryz.prog w = .ok (.slice (some ⟨w.heap.size, 0, none⟩) n n) (w.alloc (.cells (Array.replicate n (.int .i64 0)) 3)) := by
  obtain ⟨i0, hi, hz0, hz1, hz2⟩ := info_parts infoIE
  have h := run_make (P := Tryz.prog) w 24 3 i0 (.int .i64 0) Tryz.underlying24 hi hz0 .i64 .i64 n n (by omega) (by omega) (by rw [hz2]; omega) (by omega)
  simp only [Int.toNat_natCast] at h
  have e : madeCells (Value.int .i64 0).cells n = Array.replicate n (.int .i64 0) := by
    apply Array.ext'
    rw [Array.toList_replicate]
    exact toList_madeCells_one (.int .i64 0) n
  rw [h, hz1, Nat.mul_one, e]
def laJ (n j : Nat) : List Int := List.replicate j (-1) ++ List.replicate (n - j) 0
theorem laJ_set {n j : Nat} (h : j < n) : (laJ n j).set j (-1) = laJ n (j + 1) := by
  unfold laJ
  rw [List.set_append_right _ _ (by simp), List.length_replicate, Nat.sub_self, show n - j = (n - (j + 1)) + 1 by omega, List.replicate_succ, List.set_cons_zero, List.replicate_succ', List.append_assoc]
  rfl
theorem laJ_zero (n : Nat) : laJ n 0 = List.replicate n 0 := by unfold laJ; simp
theorem laJ_all (n : Int) (l : List Tb.SpecL) : laJ l.length l.length = (soNew n l).la := by
  unfold laJ soNew
  simp only [Nat.sub_self, List.replicate_zero, List.append_nil]
  exact List.map_const'.symm
theorem laJ_get {n j i : Nat} (h : i < n) (hj : j ≤ n) : ∃ z, (laJ n j)[i]? = some z := ⟨_, List.getElem?_eq_getElem (by unfold laJ; simp; omega)⟩
end
end Go.Proofs.YtjjleghalajidaaGreat
