/- Plain: what an operation makes of a model that is right is right, and its words are words. | The reference's Apply: kind by kind, over its function's contract. | The reference's Apply: tally. | The reference's Apply: kinds that there are not. -/
import Derived.Test.YtjjleghalajidaaGreatGJ3
namespace Go.Proofs.YtjjleghalajidaaGreat
section
open Go.ChangeShapes Go.WideShapes Go.ChangeAt Go.RowKit
set_option linter.unusedVariables false
set_option linter.unusedSimpArgs false

/-- all words of a list are words -/
def AllW (l : List Nat) : Prop := ∀ y ∈ l, y < 18446744073709551616
theorem AllW.set {l : List Nat} (h : AllW l) (i : Nat) {x : Nat} (hx : x < 18446744073709551616) : AllW (l.set i x) := fun y hy => by
  rcases List.mem_or_eq_of_mem_set hy with h1 | rfl
  · exact h y h1
  · exact hx
theorem AllW.one {x : Nat} (hx : x < 18446744073709551616) : AllW [x] := fun y hy => by
  rw [List.mem_singleton.1 hy]; exact hx
theorem AllW.getD {l : List Nat} (h : AllW l) (i : Nat) : l.getD i 0 < 18446744073709551616 := by
  rw [List.getD_eq_getElem?_getD]
  cases hi : l[i]? with
  | none => show (0 : Nat) < _; omega
  | some x => exact h x (List.mem_of_getElem? hi)
theorem AllW.head {l : List Nat} (h : AllW l) : l.headD 0 < 18446744073709551616 := by
  cases l with
  | nil => show (0 : Nat) < _; omega
  | cons x l => exact h x (by simp)
theorem AllW.app {l k : List Nat} (h : AllW l) (hk : AllW k) : AllW (l ++ k) := fun y hy => by
  rcases List.mem_append.1 hy with h1 | h1
  · exact h y h1
  · exact hk y h1
theorem bit_in (x a : Nat) (h : x / 2 ^ a % 2 = 0) (hx : x < 18446744073709551616) (ha : a < 64) : x + 2 ^ a < 18446744073709551616 := by
  rw [← or_bit0 x a h]
  exact Nat.or_lt_two_pow (n := 64) hx (Nat.pow_lt_pow_right (by omega) ha)

theorem sqDo_words (t k : Nat) (l : List Nat) (a : Nat) (h : AllW l) (ha : a < 18446744073709551616) : AllW (sqDo t k l a).1 := by
  have hh := h.head
  unfold sqDo
  split
  · exact h
  · exact AllW.one ha
  · exact h
  · exact AllW.one (Nat.mod_lt _ (by omega))
  · split
    · exact h
    · exact h.app (AllW.one ha)
  · split
    · exact h
    · exact fun y hy => h y ((List.dropLast_sublist _).subset hy)
  · split <;> exact h
  · split
    · exact h
    · exact h.app (AllW.one ha)
  · split
    · exact h
    · exact fun y hy => h y (List.mem_of_mem_tail hy)
  · split <;> exact h
  · split <;> exact h
  · split
    · exact h
    · split
      · rename_i h1 h2; exact AllW.one (bit_in _ _ h2 hh (by omega))
      · exact h
  · split
    · exact h
    · split
      · exact AllW.one (Nat.lt_of_le_of_lt (Nat.sub_le _ _) hh)
      · exact h
  · exact h
  · split
    · exact AllW.one ha
    · exact h
  · exact h
  · split
    · exact AllW.one (by have := Nat.mod_lt a (show 0 < 65536 by omega); omega)
    · exact h
  · split <;> exact h
  · split
    · exact h
    · exact h.set _ (by have := Nat.mod_lt a (show 0 < 16777216 by omega); omega)
theorem sqAp_words (t k : Int) (l : List Nat) (a : Nat) (h : AllW l) (ha : a < 18446744073709551616) : AllW (sqAp t k l a).1 := by
  unfold sqAp
  split
  · split
    · exact sqDo_words _ _ _ _ h ha
    · exact h
  · exact h

theorem mdUpd_words {m : List Nat} (h : AllW m) (values most thread at1 : Nat) {v : Nat} (hv : v < 18446744073709551616) (hm : most ≤ 1000000) : AllW (mdUpd m values most thread at1 v).st := by
  unfold mdUpd
  split
  · exact h
  · exact (h.set _ (by omega)).set _ hv
theorem mdAdd_words {m : List Nat} (h : AllW m) (at1 d : Nat) : AllW (mdAdd m at1 d).st := h.set _ (Nat.mod_lt _ (by omega))
theorem pubL_words (a n : Nat) : AllW (pubL a n) := fun y hy => by
  unfold pubL at hy
  obtain ⟨i, _, rfl⟩ := List.mem_map.1 hy
  exact Nat.mod_lt _ (by omega)

/-- THE WORDS OF A MODEL ARE WORDS -/
theorem mdOp_words (n k p q : Int) (m : List Nat) (x : CallM) (hok : Tb.tbErr n k p q = 0) (hx : x.Ok) (hth : 0 ≤ x.th ∧ x.th < n) (h : AllW m) : AllW (mdOp n k p q m x).st := by
  have hs := okS hok
  have hn := hs.n16
  have ha := hx.a
  have hb := hx.b
  have hc := hx.c
  unfold mdOp
  by_cases hk : 0 ≤ x.kd ∧ x.kd < Tb.tbKn k p
  case neg => rw [if_pos hk]; exact h
  rw [if_neg (not_not_intro hk)]
  have hk9 := Tb.tb_nine ⟨hs.k0, hs.k9⟩
  have h0 := h.getD 0
  rcases hk9 with rfl | rfl | rfl | rfl | rfl | rfl | rfl | rfl | rfl | rfl
  · rw [if_pos rfl]
    unfold mdCell
    split
    · exact h
    split
    · exact h
    split
    · exact h.set _ hb
    split
    · split
      · exact h
      · exact h.set _ hc
    · exact mdAdd_words h _ _
  · rw [if_neg (by decide), if_pos rfl]
    have e2 : Tb.tbKn 1 p = 2 := rfl
    rw [e2] at hk
    unfold mdCons
    split
    · exact h
    · rename_i h1
      split
      · split
        · exact h
        · rename_i h3
          refine AllW.one ?_
          have hk0 : x.kd = 0 := by omega
          have : ¬ 4294967296 ≤ x.a := fun h4 => h1 ⟨hk0, h4⟩
          omega
      · exact h
  · rw [if_neg (by decide), if_neg (by decide), if_pos rfl]
    unfold mdTally
    split
    · exact AllW.one (Nat.mod_lt _ (by omega))
    · exact h
  · rw [if_neg (by decide), if_neg (by decide), if_neg (by decide), if_pos rfl]
    unfold mdAdder
    split
    · exact mdAdd_words h _ _
    split
    · exact h
    · exact mdAdd_words h _ _
  · rw [if_neg (by decide), if_neg (by decide), if_neg (by decide), if_neg (by decide), if_pos rfl]
    unfold mdMax
    split
    · exact h
    split
    · exact h
    · exact AllW.one (by show max _ _ < _; omega)
  · rw [if_neg (by decide), if_neg (by decide), if_neg (by decide), if_neg (by decide), if_neg (by decide), if_pos rfl]
    have := hs.h5 rfl
    unfold mdSnap
    split
    · exact h
    · exact mdUpd_words h _ _ _ _ ha (by omega)
  · rw [if_neg (by decide), if_neg (by decide), if_neg (by decide), if_neg (by decide), if_neg (by decide), if_neg (by decide), if_pos rfl]
    have := hs.h6 rfl
    unfold mdMulti
    split
    · exact h
    split
    · exact h
    · exact mdUpd_words h _ _ _ _ hb (by omega)
  · rw [if_neg (by decide), if_neg (by decide), if_neg (by decide), if_neg (by decide), if_neg (by decide), if_neg (by decide), if_neg (by decide), if_pos rfl]
    have := hs.h7 rfl
    unfold mdUniv
    split
    · exact h
    split
    · exact h
    · rename_i h1 h2
      intro y hy
      rcases List.mem_cons.1 hy with rfl | hy
      · omega
      · exact sqAp_words p x.kd m.tail x.a (fun y hy => h y (List.mem_of_mem_tail hy)) ha y hy
  · rw [if_neg (by decide), if_neg (by decide), if_neg (by decide), if_neg (by decide), if_neg (by decide), if_neg (by decide), if_neg (by decide), if_neg (by decide), if_pos rfl]
    unfold mdQ
    split
    · exact h
    split
    · split
      · exact h
      · refine h.app (fun y hy => ?_)
        rcases List.mem_cons.1 hy with rfl | hy
        · omega
        · rw [List.mem_singleton.1 hy]; exact ha
    · split
      · exact h
      · exact fun y hy => h y (List.mem_of_mem_drop hy)
  · rw [if_neg (by decide), if_neg (by decide), if_neg (by decide), if_neg (by decide), if_neg (by decide), if_neg (by decide), if_neg (by decide), if_neg (by decide), if_neg (by decide)]
    unfold mdPin
    split
    · exact h
    split
    · exact h
    · exact pubL_words _ _

theorem mdUpd_len (m : List Nat) (values most thread at1 v : Nat) : (mdUpd m values most thread at1 v).st.length = m.length := by
  unfold mdUpd
  split
  · rfl
  · show (List.set _ _ _).length = _; rw [List.length_set, List.length_set]
theorem mdAdd_len (m : List Nat) (at1 d : Nat) : (mdAdd m at1 d).st.length = m.length := List.length_set
theorem pubL_length (a n : Nat) : (pubL a n).length = n := by unfold pubL; simp
theorem sqDo_lens2 (t k : Nat) (l : List Nat) (a : Nat) : (sqDo t k l a).1.length = l.length ∨ (sqDo t k l a).1.length = 1 ∧ (t = 0 ∨ t = 1 ∨ t = 4 ∨ t = 5 ∨ t = 6) ∨ (t = 2 ∨ t = 3) ∧ ((sqDo t k l a).1.length = l.length + 1 ∧ l.length < 8 ∨ (sqDo t k l a).1.length = l.length - 1) := by
  unfold sqDo
  split <;> (try split) <;> (try split) <;> first
    | exact .inl rfl
    | exact .inr (.inl ⟨rfl, by decide⟩)
    | exact .inr (.inr ⟨by decide, .inl ⟨by simp, by omega⟩⟩)
    | exact .inr (.inr ⟨by decide, .inr (by simp)⟩)
    | exact .inl (by simp)
theorem sqDo_ok2 {t k : Nat} {l : List Nat} {a : Nat} (h : sqOk t l.length) (ht : t ≤ 7) : sqOk t (sqDo t k l a).1.length := by
  rcases sqDo_lens2 t k l a with h1 | ⟨h1, h2⟩ | ⟨h2, h1⟩
  · rw [h1]; exact h
  · rw [h1]
    rcases h2 with rfl | rfl | rfl | rfl | rfl <;> exact ⟨by decide, by decide⟩
  · have h3 := many_of h
    have h4 : (sqDo t k l a).1.length ≤ 8 := by omega
    rcases h2 with rfl | rfl
    · exact ⟨Nat.zero_le _, h4⟩
    · exact ⟨Nat.zero_le _, h4⟩
theorem sqAp_right {t k : Int} {l : List Nat} {a : Nat} (h : sqRight t l = true) : sqRight t (sqAp t k l a).1 = true := by
  unfold sqAp
  rw [if_pos h]
  split
  · have h0 : 0 ≤ t ∧ t ≤ 7 := by
      rcases Classical.em (0 ≤ t ∧ t ≤ 7) with h0 | h0
      · exact h0
      · unfold sqRight at h; rw [sqIs_no h0] at h; cases h
    obtain ⟨n, rfl⟩ : ∃ n : Nat, t = n := ⟨t.toNat, by omega⟩
    unfold sqRight at h ⊢
    rw [sqIs_yes h0, Bool.true_and, Bool.and_eq_true, decide_eq_true_eq, decide_eq_true_eq, Int.toNat_natCast] at h
    rw [sqIs_yes h0, Bool.true_and, Bool.and_eq_true, decide_eq_true_eq, decide_eq_true_eq, Int.toNat_natCast]
    exact sqDo_ok2 (t := n) h (by omega)
  · exact h

/-- WHAT AN OPERATION MAKES OF A MODEL THAT MAY BE MAY BE -/
theorem mdOp_is (n k p q : Int) (m : List Nat) (x : CallM) (hok : Tb.tbErr n k p q = 0) (his : mdIs n k p m = true) : mdIs n k p (mdOp n k p q m x).st = true := by
  have hs := okS hok
  unfold mdOp
  by_cases hk : 0 ≤ x.kd ∧ x.kd < Tb.tbKn k p
  case neg => rw [if_pos hk]; exact his
  rw [if_neg (not_not_intro hk)]
  have hlen : ∀ st : List Nat, k ≠ 7 → k ≠ 8 → st.length = m.length → mdIs n k p st = true := by
    intro st h7 h8 hl
    unfold mdIs at his ⊢
    rw [if_neg h7, if_neg h8] at his ⊢
    rw [hl]; exact his
  have h1 : (k = 1 ∨ k = 2 ∨ k = 3 ∨ k = 4) → m.length = 1 := by
    intro h
    have e : (m.length : Int) = 1 := by
      rcases h with rfl | rfl | rfl | rfl <;> simpa [mdIs, mdLen] using his
    omega
  have hk9 := Tb.tb_nine ⟨hs.k0, hs.k9⟩
  rcases hk9 with rfl | rfl | rfl | rfl | rfl | rfl | rfl | rfl | rfl | rfl
  · rw [if_pos rfl]
    refine hlen _ (by decide) (by decide) ?_
    unfold mdCell
    split
    · rfl
    split
    · rfl
    split
    · exact List.length_set
    split
    · split
      · rfl
      · exact List.length_set
    · exact mdAdd_len _ _ _
  · rw [if_neg (by decide), if_pos rfl]
    refine hlen _ (by decide) (by decide) ?_
    have := h1 (by simp)
    unfold mdCons
    split
    · rfl
    split
    · split
      · rfl
      · exact this.symm
    · rfl
  · rw [if_neg (by decide), if_neg (by decide), if_pos rfl]
    refine hlen _ (by decide) (by decide) ?_
    have := h1 (by simp)
    unfold mdTally
    split
    · exact this.symm
    · rfl
  · rw [if_neg (by decide), if_neg (by decide), if_neg (by decide), if_pos rfl]
    refine hlen _ (by decide) (by decide) ?_
    unfold mdAdder
    split
    · exact mdAdd_len _ _ _
    split
    · rfl
    · exact mdAdd_len _ _ _
  · rw [if_neg (by decide), if_neg (by decide), if_neg (by decide), if_neg (by decide), if_pos rfl]
    refine hlen _ (by decide) (by decide) ?_
    have := h1 (by simp)
    unfold mdMax
    split
    · rfl
    split
    · rfl
    · exact this.symm
  · rw [if_neg (by decide), if_neg (by decide), if_neg (by decide), if_neg (by decide), if_neg (by decide), if_pos rfl]
    refine hlen _ (by decide) (by decide) ?_
    unfold mdSnap
    split
    · rfl
    · exact mdUpd_len _ _ _ _ _ _
  · rw [if_neg (by decide), if_neg (by decide), if_neg (by decide), if_neg (by decide), if_neg (by decide), if_neg (by decide), if_pos rfl]
    refine hlen _ (by decide) (by decide) ?_
    unfold mdMulti
    split
    · rfl
    split
    · rfl
    · exact mdUpd_len _ _ _ _ _ _
  · rw [if_neg (by decide), if_neg (by decide), if_neg (by decide), if_neg (by decide), if_neg (by decide), if_neg (by decide), if_neg (by decide), if_pos rfl]
    unfold mdUniv
    split
    · exact his
    split
    · exact his
    · unfold mdIs at his ⊢
      rw [if_pos rfl, Bool.and_eq_true] at his ⊢
      exact ⟨by simp, by rw [List.tail_cons]; exact sqAp_right his.2⟩
  · rw [if_neg (by decide), if_neg (by decide), if_neg (by decide), if_neg (by decide), if_neg (by decide), if_neg (by decide), if_neg (by decide), if_neg (by decide), if_pos rfl]
    have hm : m.length % 2 = 0 := by simpa [mdIs] using his
    have he : ∀ st : List Nat, st.length % 2 = 0 → mdIs n 8 p st = true := by
      intro st h; unfold mdIs; rw [if_neg (by decide), if_pos rfl]; exact decide_eq_true h
    unfold mdQ
    split
    · exact his
    split
    · split
      · exact his
      · exact he _ (by show (m ++ _).length % 2 = 0; rw [List.length_append]; simp; omega)
    · split
      · exact his
      · exact he _ (by show (m.drop 2).length % 2 = 0; rw [List.length_drop]; omega)
  · rw [if_neg (by decide), if_neg (by decide), if_neg (by decide), if_neg (by decide), if_neg (by decide), if_neg (by decide), if_neg (by decide), if_neg (by decide), if_neg (by decide)]
    refine hlen _ (by decide) (by decide) ?_
    unfold mdPin
    split
    · rfl
    split
    · rfl
    · exact pubL_length _ _
/-- what is there at first -/
theorem mdNew_words (n k p : Int) : AllW (mdNew n k p) := fun y hy => by
  unfold mdNew at hy
  rw [List.eq_of_mem_replicate hy]; omega
end
section
open Go.ChangeShapes Go.WideShapes Go.ChangeAt Go.RowKit
set_option linter.unusedVariables false
set_option linter.unusedSimpArgs false
set_option maxRecDepth 100000

theorem put3R2 {w : World} {B b : Nat} {v : Value} {l : List Nat} (h : ArgB w B v l ∧ Room v) (hb : b < B) (x y z : Value) {C : Nat} (hC : C ≤ B) : ArgB (((w.setCell ⟨b, 0, none⟩ x).setCell ⟨b, 1, none⟩ y).setCell ⟨b, 2, none⟩ z) C v l ∧ Room v := ⟨(h.1.put3 hb x y z).mono hC, h.2⟩

set_option maxHeartbeats 4000000 in
theorem rap_0 (n p q ob kd a b c : Int) (t : Nat) (m : List Nat) (r : MdR) (v : Value) (w : World) (hA : ArgW w v m) (hl : m.length ≤ 4294967296) (ht : t < 16) (hF : ∀ (W : World) (B : Nat) (v1 : Value), OwnW W B v1 m → B ≤ W.heap.size → Calls Tryz.prog 62 #[Tb.specV 0 p q, v1, callV (t : Int) ob kd a b c] W (ChP B W r)) :
    Calls Tryz.prog 36 #[.int .i64 n, Tb.specV 0 p q, v, callV (t : Int) ob kd a b c] w (ChP w.heap.size w r) := by
  obtain ⟨iI, ia, ib, ic, id⟩ := info_parts info22
  obtain ⟨ao, bA, oA, cap, rfl, hA1, hA2, hA3⟩ := hA
  have HX := Lib.hid (apBox w 0 p q (t : Int) ob kd a b c (ansC 0 0 (.slice none 0 0)))
  have HS : Hid (∀ (j : Nat) (u : Value), (m.map wU)[j]? = some u → (apW w 0 p q (t : Int) ob kd a b c (ansC 0 0 (.slice none 0 0))).cell? ⟨bA, oA + j, none⟩ = some u) := Lib.hid (fun j u hu => by
    rw [List.getElem?_map] at hu
    obtain ⟨x, hx, rfl⟩ := Option.map_eq_some_iff.1 hu
    have := hA3 j x hx
    exact (HX.out.bel.cell (World.block_lt_of_cell? w _ this)).trans this)
  have HA := Lib.hid hA1
  have HN := Lib.hid hA2
  have HONE := Lib.hid (wU_one m)
  have HLEN : Hid ((m.map wU).length = m.length) := Lib.hid (by simp)
  unfold apW at HX HS
  unfold ansC at *
  generalize hw0 : ((w.alloc (Tb.specO 0 p q)).alloc (callO (t : Int) ob kd a b c)).alloc (.cells #[.int .i64 0, .int .u64 0, .slice none 0 0] 57) = W at *
  unfold Tb.specO at hw0
  have HLT := Lib.hid HX.out.lt
  have HF := Lib.hid hF
  clear hA1 hA2 hA3 hF
  unfold Tb.specV at *
  go_enter Tryz.func36, Tryz.ntmps36
  go_wp2_with (at_builtin; refine append_fresh_own (w := W) rfl _ _ 37 rfl 55 iI (.int .u64 0) 8 Tryz.underlying37 ia ib ic id rfl (by decide) W.heap.size rfl rfl ao bA oA cap m.length (m.map wU) rfl HLEN.out HA.out HS.out HN.out HONE.out hl ?_; intro v1 w1 how hnn hbl; (have HO1 : Hid (OwnW w1 W.heap.size v1 m) := Lib.hid how); (have HX1 := Lib.hid (HX.out.next hbl)); (have HZ1 := Lib.hid hbl.size); (obtain ⟨s0, s1, s2, c0, c1, c2, c3, c4, c5, _, _⟩ := HX1.out); (obtain ⟨ao1, cap1, rfl⟩ := HO1.out.arg.isSlice); clear how hnn hbl)
  go_wp2_with (go_at_call 62; refine (HF.out _ _ _ HO1.out HZ1.out).mono ?_; rintro e w4 ⟨v4, lv, rfl, ha4, hl4, hb4⟩; (have hbk : w4.heap[w.heap.size + 1 + 1]? = some (.cells #[.int .i64 0, .int .u64 0, .slice none 0 0] 57) := (hb4.block _ HLT.out).trans HX1.out.ans); (have k0 := Tb.cell_of_blkT (k := 0) hbk rfl); (have k1 := Tb.cell_of_blkT (k := 1) hbk rfl); (have k2 := Tb.cell_of_blkT (k := 2) hbk rfl); (have z0 := Tb.free_of_blkT (k := 0) hbk); (have z1 := Tb.free_of_blkT (k := 1) hbk); (have z2 := Tb.free_of_blkT (k := 2) hbk); (have HA4 := Lib.hid ha4); (have HL4 := Lib.hid hl4); (obtain ⟨aol, capl, rfl⟩ := hl4.1.arg.isSlice); (have HB4 : Hid (Below w.heap.size w w4) := Lib.hid (HX1.out.bel.trans (hb4.mono (by have := HLT.out; omega)))); clear ha4 hl4 hb4 hbk)
  refine bodyPost_ret (v := .tuple #[v4, .agg #[.int .i64 (r.err : Int), .int .u64 (r.val : Int), .slice aol r.ls.length capl]]) (by simp [results, Tryz.results36, go_sem, k0, k1, k2]) rfl ⟨_, _, rfl, put3R2 HA4.out HLT.out _ _ _ (by have := HLT.out; omega), put3R2 HL4.out HLT.out _ _ _ (by have := HLT.out; omega), put3_below HB4.out (by omega) _ _ _⟩

set_option maxHeartbeats 4000000 in
theorem rap_1 (n p q ob kd a b c : Int) (t : Nat) (m : List Nat) (r : MdR) (v : Value) (w : World) (hA : ArgW w v m) (hl : m.length ≤ 4294967296) (ht : t < 16) (hF : ∀ (W : World) (B : Nat) (v1 : Value), OwnW W B v1 m → B ≤ W.heap.size → Calls Tryz.prog 63 #[v1, callV (t : Int) ob kd a b c] W (ChP B W r)) :
    Calls Tryz.prog 36 #[.int .i64 n, Tb.specV 1 p q, v, callV (t : Int) ob kd a b c] w (ChP w.heap.size w r) := by
  obtain ⟨iI, ia, ib, ic, id⟩ := info_parts info22
  obtain ⟨ao, bA, oA, cap, rfl, hA1, hA2, hA3⟩ := hA
  have HX := Lib.hid (apBox w 1 p q (t : Int) ob kd a b c (ansC 0 0 (.slice none 0 0)))
  have HS : Hid (∀ (j : Nat) (u : Value), (m.map wU)[j]? = some u → (apW w 1 p q (t : Int) ob kd a b c (ansC 0 0 (.slice none 0 0))).cell? ⟨bA, oA + j, none⟩ = some u) := Lib.hid (fun j u hu => by
    rw [List.getElem?_map] at hu
    obtain ⟨x, hx, rfl⟩ := Option.map_eq_some_iff.1 hu
    have := hA3 j x hx
    exact (HX.out.bel.cell (World.block_lt_of_cell? w _ this)).trans this)
  have HA := Lib.hid hA1
  have HN := Lib.hid hA2
  have HONE := Lib.hid (wU_one m)
  have HLEN : Hid ((m.map wU).length = m.length) := Lib.hid (by simp)
  unfold apW at HX HS
  unfold ansC at *
  generalize hw0 : ((w.alloc (Tb.specO 1 p q)).alloc (callO (t : Int) ob kd a b c)).alloc (.cells #[.int .i64 0, .int .u64 0, .slice none 0 0] 57) = W at *
  unfold Tb.specO at hw0
  have HLT := Lib.hid HX.out.lt
  have HF := Lib.hid hF
  clear hA1 hA2 hA3 hF
  unfold Tb.specV at *
  go_enter Tryz.func36, Tryz.ntmps36
  go_wp2_with (at_builtin; refine append_fresh_own (w := W) rfl _ _ 37 rfl 55 iI (.int .u64 0) 8 Tryz.underlying37 ia ib ic id rfl (by decide) W.heap.size rfl rfl ao bA oA cap m.length (m.map wU) rfl HLEN.out HA.out HS.out HN.out HONE.out hl ?_; intro v1 w1 how hnn hbl; (have HO1 : Hid (OwnW w1 W.heap.size v1 m) := Lib.hid how); (have HX1 := Lib.hid (HX.out.next hbl)); (have HZ1 := Lib.hid hbl.size); (obtain ⟨s0, s1, s2, c0, c1, c2, c3, c4, c5, _, _⟩ := HX1.out); (obtain ⟨ao1, cap1, rfl⟩ := HO1.out.arg.isSlice); clear how hnn hbl)
  go_wp2_with (go_at_call 63; refine (HF.out _ _ _ HO1.out HZ1.out).mono ?_; rintro e w4 ⟨v4, lv, rfl, ha4, hl4, hb4⟩; (have hbk : w4.heap[w.heap.size + 1 + 1]? = some (.cells #[.int .i64 0, .int .u64 0, .slice none 0 0] 57) := (hb4.block _ HLT.out).trans HX1.out.ans); (have k0 := Tb.cell_of_blkT (k := 0) hbk rfl); (have k1 := Tb.cell_of_blkT (k := 1) hbk rfl); (have k2 := Tb.cell_of_blkT (k := 2) hbk rfl); (have z0 := Tb.free_of_blkT (k := 0) hbk); (have z1 := Tb.free_of_blkT (k := 1) hbk); (have z2 := Tb.free_of_blkT (k := 2) hbk); (have HA4 := Lib.hid ha4); (have HL4 := Lib.hid hl4); (obtain ⟨aol, capl, rfl⟩ := hl4.1.arg.isSlice); (have HB4 : Hid (Below w.heap.size w w4) := Lib.hid (HX1.out.bel.trans (hb4.mono (by have := HLT.out; omega)))); clear ha4 hl4 hb4 hbk)
  refine bodyPost_ret (v := .tuple #[v4, .agg #[.int .i64 (r.err : Int), .int .u64 (r.val : Int), .slice aol r.ls.length capl]]) (by simp [results, Tryz.results36, go_sem, k0, k1, k2]) rfl ⟨_, _, rfl, put3R2 HA4.out HLT.out _ _ _ (by have := HLT.out; omega), put3R2 HL4.out HLT.out _ _ _ (by have := HLT.out; omega), put3_below HB4.out (by omega) _ _ _⟩

set_option maxHeartbeats 4000000 in
theorem rap_3 (n p q ob kd a b c : Int) (t : Nat) (m : List Nat) (r : MdR) (v : Value) (w : World) (hA : ArgW w v m) (hl : m.length ≤ 4294967296) (ht : t < 16) (hF : ∀ (W : World) (B : Nat) (v1 : Value), OwnW W B v1 m → B ≤ W.heap.size → Calls Tryz.prog 64 #[v1, callV (t : Int) ob kd a b c] W (ChP B W r)) :
    Calls Tryz.prog 36 #[.int .i64 n, Tb.specV 3 p q, v, callV (t : Int) ob kd a b c] w (ChP w.heap.size w r) := by
  obtain ⟨iI, ia, ib, ic, id⟩ := info_parts info22
  obtain ⟨ao, bA, oA, cap, rfl, hA1, hA2, hA3⟩ := hA
  have HX := Lib.hid (apBox w 3 p q (t : Int) ob kd a b c (ansC 0 0 (.slice none 0 0)))
  have HS : Hid (∀ (j : Nat) (u : Value), (m.map wU)[j]? = some u → (apW w 3 p q (t : Int) ob kd a b c (ansC 0 0 (.slice none 0 0))).cell? ⟨bA, oA + j, none⟩ = some u) := Lib.hid (fun j u hu => by
    rw [List.getElem?_map] at hu
    obtain ⟨x, hx, rfl⟩ := Option.map_eq_some_iff.1 hu
    have := hA3 j x hx
    exact (HX.out.bel.cell (World.block_lt_of_cell? w _ this)).trans this)
  have HA := Lib.hid hA1
  have HN := Lib.hid hA2
  have HONE := Lib.hid (wU_one m)
  have HLEN : Hid ((m.map wU).length = m.length) := Lib.hid (by simp)
  unfold apW at HX HS
  unfold ansC at *
  generalize hw0 : ((w.alloc (Tb.specO 3 p q)).alloc (callO (t : Int) ob kd a b c)).alloc (.cells #[.int .i64 0, .int .u64 0, .slice none 0 0] 57) = W at *
  unfold Tb.specO at hw0
  have HLT := Lib.hid HX.out.lt
  have HF := Lib.hid hF
  clear hA1 hA2 hA3 hF
  unfold Tb.specV at *
  go_enter Tryz.func36, Tryz.ntmps36
  go_wp2_with (at_builtin; refine append_fresh_own (w := W) rfl _ _ 37 rfl 55 iI (.int .u64 0) 8 Tryz.underlying37 ia ib ic id rfl (by decide) W.heap.size rfl rfl ao bA oA cap m.length (m.map wU) rfl HLEN.out HA.out HS.out HN.out HONE.out hl ?_; intro v1 w1 how hnn hbl; (have HO1 : Hid (OwnW w1 W.heap.size v1 m) := Lib.hid how); (have HX1 := Lib.hid (HX.out.next hbl)); (have HZ1 := Lib.hid hbl.size); (obtain ⟨s0, s1, s2, c0, c1, c2, c3, c4, c5, _, _⟩ := HX1.out); (obtain ⟨ao1, cap1, rfl⟩ := HO1.out.arg.isSlice); clear how hnn hbl)
  go_wp2_with (go_at_call 64; refine (HF.out _ _ _ HO1.out HZ1.out).mono ?_; rintro e w4 ⟨v4, lv, rfl, ha4, hl4, hb4⟩; (have hbk : w4.heap[w.heap.size + 1 + 1]? = some (.cells #[.int .i64 0, .int .u64 0, .slice none 0 0] 57) := (hb4.block _ HLT.out).trans HX1.out.ans); (have k0 := Tb.cell_of_blkT (k := 0) hbk rfl); (have k1 := Tb.cell_of_blkT (k := 1) hbk rfl); (have k2 := Tb.cell_of_blkT (k := 2) hbk rfl); (have z0 := Tb.free_of_blkT (k := 0) hbk); (have z1 := Tb.free_of_blkT (k := 1) hbk); (have z2 := Tb.free_of_blkT (k := 2) hbk); (have HA4 := Lib.hid ha4); (have HL4 := Lib.hid hl4); (obtain ⟨aol, capl, rfl⟩ := hl4.1.arg.isSlice); (have HB4 : Hid (Below w.heap.size w w4) := Lib.hid (HX1.out.bel.trans (hb4.mono (by have := HLT.out; omega)))); clear ha4 hl4 hb4 hbk)
  refine bodyPost_ret (v := .tuple #[v4, .agg #[.int .i64 (r.err : Int), .int .u64 (r.val : Int), .slice aol r.ls.length capl]]) (by simp [results, Tryz.results36, go_sem, k0, k1, k2]) rfl ⟨_, _, rfl, put3R2 HA4.out HLT.out _ _ _ (by have := HLT.out; omega), put3R2 HL4.out HLT.out _ _ _ (by have := HLT.out; omega), put3_below HB4.out (by omega) _ _ _⟩

set_option maxHeartbeats 4000000 in
theorem rap_4 (n p q ob kd a b c : Int) (t : Nat) (m : List Nat) (r : MdR) (v : Value) (w : World) (hA : ArgW w v m) (hl : m.length ≤ 4294967296) (ht : t < 16) (hF : ∀ (W : World) (B : Nat) (v1 : Value), OwnW W B v1 m → B ≤ W.heap.size → Calls Tryz.prog 65 #[Tb.specV 4 p q, v1, callV (t : Int) ob kd a b c] W (ChP B W r)) :
    Calls Tryz.prog 36 #[.int .i64 n, Tb.specV 4 p q, v, callV (t : Int) ob kd a b c] w (ChP w.heap.size w r) := by
  obtain ⟨iI, ia, ib, ic, id⟩ := info_parts info22
  obtain ⟨ao, bA, oA, cap, rfl, hA1, hA2, hA3⟩ := hA
  have HX := Lib.hid (apBox w 4 p q (t : Int) ob kd a b c (ansC 0 0 (.slice none 0 0)))
  have HS : Hid (∀ (j : Nat) (u : Value), (m.map wU)[j]? = some u → (apW w 4 p q (t : Int) ob kd a b c (ansC 0 0 (.slice none 0 0))).cell? ⟨bA, oA + j, none⟩ = some u) := Lib.hid (fun j u hu => by
    rw [List.getElem?_map] at hu
    obtain ⟨x, hx, rfl⟩ := Option.map_eq_some_iff.1 hu
    have := hA3 j x hx
    exact (HX.out.bel.cell (World.block_lt_of_cell? w _ this)).trans this)
  have HA := Lib.hid hA1
  have HN := Lib.hid hA2
  have HONE := Lib.hid (wU_one m)
  have HLEN : Hid ((m.map wU).length = m.length) := Lib.hid (by simp)
  unfold apW at HX HS
  unfold ansC at *
  generalize hw0 : ((w.alloc (Tb.specO 4 p q)).alloc (callO (t : Int) ob kd a b c)).alloc (.cells #[.int .i64 0, .int .u64 0, .slice none 0 0] 57) = W at *
  unfold Tb.specO at hw0
  have HLT := Lib.hid HX.out.lt
  have HF := Lib.hid hF
  clear hA1 hA2 hA3 hF
  unfold Tb.specV at *
  go_enter Tryz.func36, Tryz.ntmps36
  go_wp2_with (at_builtin; refine append_fresh_own (w := W) rfl _ _ 37 rfl 55 iI (.int .u64 0) 8 Tryz.underlying37 ia ib ic id rfl (by decide) W.heap.size rfl rfl ao bA oA cap m.length (m.map wU) rfl HLEN.out HA.out HS.out HN.out HONE.out hl ?_; intro v1 w1 how hnn hbl; (have HO1 : Hid (OwnW w1 W.heap.size v1 m) := Lib.hid how); (have HX1 := Lib.hid (HX.out.next hbl)); (have HZ1 := Lib.hid hbl.size); (obtain ⟨s0, s1, s2, c0, c1, c2, c3, c4, c5, _, _⟩ := HX1.out); (obtain ⟨ao1, cap1, rfl⟩ := HO1.out.arg.isSlice); clear how hnn hbl)
  go_wp2_with (go_at_call 65; refine (HF.out _ _ _ HO1.out HZ1.out).mono ?_; rintro e w4 ⟨v4, lv, rfl, ha4, hl4, hb4⟩; (have hbk : w4.heap[w.heap.size + 1 + 1]? = some (.cells #[.int .i64 0, .int .u64 0, .slice none 0 0] 57) := (hb4.block _ HLT.out).trans HX1.out.ans); (have k0 := Tb.cell_of_blkT (k := 0) hbk rfl); (have k1 := Tb.cell_of_blkT (k := 1) hbk rfl); (have k2 := Tb.cell_of_blkT (k := 2) hbk rfl); (have z0 := Tb.free_of_blkT (k := 0) hbk); (have z1 := Tb.free_of_blkT (k := 1) hbk); (have z2 := Tb.free_of_blkT (k := 2) hbk); (have HA4 := Lib.hid ha4); (have HL4 := Lib.hid hl4); (obtain ⟨aol, capl, rfl⟩ := hl4.1.arg.isSlice); (have HB4 : Hid (Below w.heap.size w w4) := Lib.hid (HX1.out.bel.trans (hb4.mono (by have := HLT.out; omega)))); clear ha4 hl4 hb4 hbk)
  refine bodyPost_ret (v := .tuple #[v4, .agg #[.int .i64 (r.err : Int), .int .u64 (r.val : Int), .slice aol r.ls.length capl]]) (by simp [results, Tryz.results36, go_sem, k0, k1, k2]) rfl ⟨_, _, rfl, put3R2 HA4.out HLT.out _ _ _ (by have := HLT.out; omega), put3R2 HL4.out HLT.out _ _ _ (by have := HLT.out; omega), put3_below HB4.out (by omega) _ _ _⟩

set_option maxHeartbeats 4000000 in
theorem rap_5 (n p q ob kd a b c : Int) (t : Nat) (m : List Nat) (r : MdR) (v : Value) (w : World) (hA : ArgW w v m) (hl : m.length ≤ 4294967296) (ht : t < 16) (hF : ∀ (W : World) (B : Nat) (v1 : Value), OwnW W B v1 m → B ≤ W.heap.size → Calls Tryz.prog 66 #[.int .i64 n, .int .i64 p, .int .i64 n, v1, .int .i64 (t : Int), callV (t : Int) ob kd a b c, callV 0 0 0 (t : Int) a 0] W (ChP B W r)) :
    Calls Tryz.prog 36 #[.int .i64 n, Tb.specV 5 p q, v, callV (t : Int) ob kd a b c] w (ChP w.heap.size w r) := by
  obtain ⟨iI, ia, ib, ic, id⟩ := info_parts info22
  obtain ⟨ao, bA, oA, cap, rfl, hA1, hA2, hA3⟩ := hA
  have HX := Lib.hid (apBox w 5 p q (t : Int) ob kd a b c (ansC 0 0 (.slice none 0 0)))
  have HS : Hid (∀ (j : Nat) (u : Value), (m.map wU)[j]? = some u → (apW w 5 p q (t : Int) ob kd a b c (ansC 0 0 (.slice none 0 0))).cell? ⟨bA, oA + j, none⟩ = some u) := Lib.hid (fun j u hu => by
    rw [List.getElem?_map] at hu
    obtain ⟨x, hx, rfl⟩ := Option.map_eq_some_iff.1 hu
    have := hA3 j x hx
    exact (HX.out.bel.cell (World.block_lt_of_cell? w _ this)).trans this)
  have HA := Lib.hid hA1
  have HN := Lib.hid hA2
  have HONE := Lib.hid (wU_one m)
  have HLEN : Hid ((m.map wU).length = m.length) := Lib.hid (by simp)
  unfold apW at HX HS
  unfold ansC at *
  generalize hw0 : ((w.alloc (Tb.specO 5 p q)).alloc (callO (t : Int) ob kd a b c)).alloc (.cells #[.int .i64 0, .int .u64 0, .slice none 0 0] 57) = W at *
  unfold Tb.specO at hw0
  have HLT := Lib.hid HX.out.lt
  have HF := Lib.hid hF
  clear hA1 hA2 hA3 hF
  unfold Tb.specV at *
  go_enter Tryz.func36, Tryz.ntmps36
  go_wp2_with (at_builtin; refine append_fresh_own (w := W) rfl _ _ 37 rfl 55 iI (.int .u64 0) 8 Tryz.underlying37 ia ib ic id rfl (by decide) W.heap.size rfl rfl ao bA oA cap m.length (m.map wU) rfl HLEN.out HA.out HS.out HN.out HONE.out hl ?_; intro v1 w1 how hnn hbl; (have HO1 : Hid (OwnW w1 W.heap.size v1 m) := Lib.hid how); (have HX1 := Lib.hid (HX.out.next hbl)); (have HZ1 := Lib.hid hbl.size); (obtain ⟨s0, s1, s2, c0, c1, c2, c3, c4, c5, _, _⟩ := HX1.out); (obtain ⟨ao1, cap1, rfl⟩ := HO1.out.arg.isSlice); clear how hnn hbl)
  go_wp2_with (go_at_call 66; refine (HF.out _ _ _ HO1.out HZ1.out).mono ?_; rintro e w4 ⟨v4, lv, rfl, ha4, hl4, hb4⟩; (have hbk : w4.heap[w.heap.size + 1 + 1]? = some (.cells #[.int .i64 0, .int .u64 0, .slice none 0 0] 57) := (hb4.block _ HLT.out).trans HX1.out.ans); (have k0 := Tb.cell_of_blkT (k := 0) hbk rfl); (have k1 := Tb.cell_of_blkT (k := 1) hbk rfl); (have k2 := Tb.cell_of_blkT (k := 2) hbk rfl); (have z0 := Tb.free_of_blkT (k := 0) hbk); (have z1 := Tb.free_of_blkT (k := 1) hbk); (have z2 := Tb.free_of_blkT (k := 2) hbk); (have HA4 := Lib.hid ha4); (have HL4 := Lib.hid hl4); (obtain ⟨aol, capl, rfl⟩ := hl4.1.arg.isSlice); (have HB4 : Hid (Below w.heap.size w w4) := Lib.hid (HX1.out.bel.trans (hb4.mono (by have := HLT.out; omega)))); clear ha4 hl4 hb4 hbk)
  refine bodyPost_ret (v := .tuple #[v4, .agg #[.int .i64 (r.err : Int), .int .u64 (r.val : Int), .slice aol r.ls.length capl]]) (by simp [results, Tryz.results36, go_sem, k0, k1, k2]) rfl ⟨_, _, rfl, put3R2 HA4.out HLT.out _ _ _ (by have := HLT.out; omega), put3R2 HL4.out HLT.out _ _ _ (by have := HLT.out; omega), put3_below HB4.out (by omega) _ _ _⟩

set_option maxHeartbeats 4000000 in
theorem rap_6 (n p q ob kd a b c : Int) (t : Nat) (m : List Nat) (r : MdR) (v : Value) (w : World) (hA : ArgW w v m) (hl : m.length ≤ 4294967296) (ht : t < 16) (hF : ∀ (W : World) (B : Nat) (v1 : Value), OwnW W B v1 m → B ≤ W.heap.size → Calls Tryz.prog 66 #[.int .i64 p, .int .i64 q, .int .i64 n, v1, .int .i64 (t : Int), callV (t : Int) ob kd a b c, callV (t : Int) ob kd a b c] W (ChP B W r)) :
    Calls Tryz.prog 36 #[.int .i64 n, Tb.specV 6 p q, v, callV (t : Int) ob kd a b c] w (ChP w.heap.size w r) := by
  obtain ⟨iI, ia, ib, ic, id⟩ := info_parts info22
  obtain ⟨ao, bA, oA, cap, rfl, hA1, hA2, hA3⟩ := hA
  have HX := Lib.hid (apBox w 6 p q (t : Int) ob kd a b c (ansC 0 0 (.slice none 0 0)))
  have HS : Hid (∀ (j : Nat) (u : Value), (m.map wU)[j]? = some u → (apW w 6 p q (t : Int) ob kd a b c (ansC 0 0 (.slice none 0 0))).cell? ⟨bA, oA + j, none⟩ = some u) := Lib.hid (fun j u hu => by
    rw [List.getElem?_map] at hu
    obtain ⟨x, hx, rfl⟩ := Option.map_eq_some_iff.1 hu
    have := hA3 j x hx
    exact (HX.out.bel.cell (World.block_lt_of_cell? w _ this)).trans this)
  have HA := Lib.hid hA1
  have HN := Lib.hid hA2
  have HONE := Lib.hid (wU_one m)
  have HLEN : Hid ((m.map wU).length = m.length) := Lib.hid (by simp)
  unfold apW at HX HS
  unfold ansC at *
  generalize hw0 : ((w.alloc (Tb.specO 6 p q)).alloc (callO (t : Int) ob kd a b c)).alloc (.cells #[.int .i64 0, .int .u64 0, .slice none 0 0] 57) = W at *
  unfold Tb.specO at hw0
  have HLT := Lib.hid HX.out.lt
  have HF := Lib.hid hF
  clear hA1 hA2 hA3 hF
  unfold Tb.specV at *
  go_enter Tryz.func36, Tryz.ntmps36
  go_wp2_with (at_builtin; refine append_fresh_own (w := W) rfl _ _ 37 rfl 55 iI (.int .u64 0) 8 Tryz.underlying37 ia ib ic id rfl (by decide) W.heap.size rfl rfl ao bA oA cap m.length (m.map wU) rfl HLEN.out HA.out HS.out HN.out HONE.out hl ?_; intro v1 w1 how hnn hbl; (have HO1 : Hid (OwnW w1 W.heap.size v1 m) := Lib.hid how); (have HX1 := Lib.hid (HX.out.next hbl)); (have HZ1 := Lib.hid hbl.size); (obtain ⟨s0, s1, s2, c0, c1, c2, c3, c4, c5, _, _⟩ := HX1.out); (obtain ⟨ao1, cap1, rfl⟩ := HO1.out.arg.isSlice); clear how hnn hbl)
  go_wp2_with (go_at_call 66; refine (HF.out _ _ _ HO1.out HZ1.out).mono ?_; rintro e w4 ⟨v4, lv, rfl, ha4, hl4, hb4⟩; (have hbk : w4.heap[w.heap.size + 1 + 1]? = some (.cells #[.int .i64 0, .int .u64 0, .slice none 0 0] 57) := (hb4.block _ HLT.out).trans HX1.out.ans); (have k0 := Tb.cell_of_blkT (k := 0) hbk rfl); (have k1 := Tb.cell_of_blkT (k := 1) hbk rfl); (have k2 := Tb.cell_of_blkT (k := 2) hbk rfl); (have z0 := Tb.free_of_blkT (k := 0) hbk); (have z1 := Tb.free_of_blkT (k := 1) hbk); (have z2 := Tb.free_of_blkT (k := 2) hbk); (have HA4 := Lib.hid ha4); (have HL4 := Lib.hid hl4); (obtain ⟨aol, capl, rfl⟩ := hl4.1.arg.isSlice); (have HB4 : Hid (Below w.heap.size w w4) := Lib.hid (HX1.out.bel.trans (hb4.mono (by have := HLT.out; omega)))); clear ha4 hl4 hb4 hbk)
  refine bodyPost_ret (v := .tuple #[v4, .agg #[.int .i64 (r.err : Int), .int .u64 (r.val : Int), .slice aol r.ls.length capl]]) (by simp [results, Tryz.results36, go_sem, k0, k1, k2]) rfl ⟨_, _, rfl, put3R2 HA4.out HLT.out _ _ _ (by have := HLT.out; omega), put3R2 HL4.out HLT.out _ _ _ (by have := HLT.out; omega), put3_below HB4.out (by omega) _ _ _⟩

set_option maxHeartbeats 4000000 in
theorem rap_7 (n p q ob kd a b c : Int) (t : Nat) (m : List Nat) (r : MdR) (v : Value) (w : World) (hA : ArgW w v m) (hl : m.length ≤ 4294967296) (ht : t < 16) (hF : ∀ (W : World) (B : Nat) (v1 : Value), OwnW W B v1 m → B ≤ W.heap.size → Calls Tryz.prog 67 #[Tb.specV 7 p q, v1, callV (t : Int) ob kd a b c] W (ChP B W r)) :
    Calls Tryz.prog 36 #[.int .i64 n, Tb.specV 7 p q, v, callV (t : Int) ob kd a b c] w (ChP w.heap.size w r) := by
  obtain ⟨iI, ia, ib, ic, id⟩ := info_parts info22
  obtain ⟨ao, bA, oA, cap, rfl, hA1, hA2, hA3⟩ := hA
  have HX := Lib.hid (apBox w 7 p q (t : Int) ob kd a b c (ansC 0 0 (.slice none 0 0)))
  have HS : Hid (∀ (j : Nat) (u : Value), (m.map wU)[j]? = some u → (apW w 7 p q (t : Int) ob kd a b c (ansC 0 0 (.slice none 0 0))).cell? ⟨bA, oA + j, none⟩ = some u) := Lib.hid (fun j u hu => by
    rw [List.getElem?_map] at hu
    obtain ⟨x, hx, rfl⟩ := Option.map_eq_some_iff.1 hu
    have := hA3 j x hx
    exact (HX.out.bel.cell (World.block_lt_of_cell? w _ this)).trans this)
  have HA := Lib.hid hA1
  have HN := Lib.hid hA2
  have HONE := Lib.hid (wU_one m)
  have HLEN : Hid ((m.map wU).length = m.length) := Lib.hid (by simp)
  unfold apW at HX HS
  unfold ansC at *
  generalize hw0 : ((w.alloc (Tb.specO 7 p q)).alloc (callO (t : Int) ob kd a b c)).alloc (.cells #[.int .i64 0, .int .u64 0, .slice none 0 0] 57) = W at *
  unfold Tb.specO at hw0
  have HLT := Lib.hid HX.out.lt
  have HF := Lib.hid hF
  clear hA1 hA2 hA3 hF
  unfold Tb.specV at *
  go_enter Tryz.func36, Tryz.ntmps36
  go_wp2_with (at_builtin; refine append_fresh_own (w := W) rfl _ _ 37 rfl 55 iI (.int .u64 0) 8 Tryz.underlying37 ia ib ic id rfl (by decide) W.heap.size rfl rfl ao bA oA cap m.length (m.map wU) rfl HLEN.out HA.out HS.out HN.out HONE.out hl ?_; intro v1 w1 how hnn hbl; (have HO1 : Hid (OwnW w1 W.heap.size v1 m) := Lib.hid how); (have HX1 := Lib.hid (HX.out.next hbl)); (have HZ1 := Lib.hid hbl.size); (obtain ⟨s0, s1, s2, c0, c1, c2, c3, c4, c5, _, _⟩ := HX1.out); (obtain ⟨ao1, cap1, rfl⟩ := HO1.out.arg.isSlice); clear how hnn hbl)
  go_wp2_with (go_at_call 67; refine (HF.out _ _ _ HO1.out HZ1.out).mono ?_; rintro e w4 ⟨v4, lv, rfl, ha4, hl4, hb4⟩; (have hbk : w4.heap[w.heap.size + 1 + 1]? = some (.cells #[.int .i64 0, .int .u64 0, .slice none 0 0] 57) := (hb4.block _ HLT.out).trans HX1.out.ans); (have k0 := Tb.cell_of_blkT (k := 0) hbk rfl); (have k1 := Tb.cell_of_blkT (k := 1) hbk rfl); (have k2 := Tb.cell_of_blkT (k := 2) hbk rfl); (have z0 := Tb.free_of_blkT (k := 0) hbk); (have z1 := Tb.free_of_blkT (k := 1) hbk); (have z2 := Tb.free_of_blkT (k := 2) hbk); (have HA4 := Lib.hid ha4); (have HL4 := Lib.hid hl4); (obtain ⟨aol, capl, rfl⟩ := hl4.1.arg.isSlice); (have HB4 : Hid (Below w.heap.size w w4) := Lib.hid (HX1.out.bel.trans (hb4.mono (by have := HLT.out; omega)))); clear ha4 hl4 hb4 hbk)
  refine bodyPost_ret (v := .tuple #[v4, .agg #[.int .i64 (r.err : Int), .int .u64 (r.val : Int), .slice aol r.ls.length capl]]) (by simp [results, Tryz.results36, go_sem, k0, k1, k2]) rfl ⟨_, _, rfl, put3R2 HA4.out HLT.out _ _ _ (by have := HLT.out; omega), put3R2 HL4.out HLT.out _ _ _ (by have := HLT.out; omega), put3_below HB4.out (by omega) _ _ _⟩

set_option maxHeartbeats 4000000 in
theorem rap_8 (n p q ob kd a b c : Int) (t : Nat) (m : List Nat) (r : MdR) (v : Value) (w : World) (hA : ArgW w v m) (hl : m.length ≤ 4294967296) (ht : t < 16) (hF : ∀ (W : World) (B : Nat) (v1 : Value), OwnW W B v1 m → B ≤ W.heap.size → Calls Tryz.prog 68 #[v1, callV (t : Int) ob kd a b c] W (ChP B W r)) :
    Calls Tryz.prog 36 #[.int .i64 n, Tb.specV 8 p q, v, callV (t : Int) ob kd a b c] w (ChP w.heap.size w r) := by
  obtain ⟨iI, ia, ib, ic, id⟩ := info_parts info22
  obtain ⟨ao, bA, oA, cap, rfl, hA1, hA2, hA3⟩ := hA
  have HX := Lib.hid (apBox w 8 p q (t : Int) ob kd a b c (ansC 0 0 (.slice none 0 0)))
  have HS : Hid (∀ (j : Nat) (u : Value), (m.map wU)[j]? = some u → (apW w 8 p q (t : Int) ob kd a b c (ansC 0 0 (.slice none 0 0))).cell? ⟨bA, oA + j, none⟩ = some u) := Lib.hid (fun j u hu => by
    rw [List.getElem?_map] at hu
    obtain ⟨x, hx, rfl⟩ := Option.map_eq_some_iff.1 hu
    have := hA3 j x hx
    exact (HX.out.bel.cell (World.block_lt_of_cell? w _ this)).trans this)
  have HA := Lib.hid hA1
  have HN := Lib.hid hA2
  have HONE := Lib.hid (wU_one m)
  have HLEN : Hid ((m.map wU).length = m.length) := Lib.hid (by simp)
  unfold apW at HX HS
  unfold ansC at *
  generalize hw0 : ((w.alloc (Tb.specO 8 p q)).alloc (callO (t : Int) ob kd a b c)).alloc (.cells #[.int .i64 0, .int .u64 0, .slice none 0 0] 57) = W at *
  unfold Tb.specO at hw0
  have HLT := Lib.hid HX.out.lt
  have HF := Lib.hid hF
  clear hA1 hA2 hA3 hF
  unfold Tb.specV at *
  go_enter Tryz.func36, Tryz.ntmps36
  go_wp2_with (at_builtin; refine append_fresh_own (w := W) rfl _ _ 37 rfl 55 iI (.int .u64 0) 8 Tryz.underlying37 ia ib ic id rfl (by decide) W.heap.size rfl rfl ao bA oA cap m.length (m.map wU) rfl HLEN.out HA.out HS.out HN.out HONE.out hl ?_; intro v1 w1 how hnn hbl; (have HO1 : Hid (OwnW w1 W.heap.size v1 m) := Lib.hid how); (have HX1 := Lib.hid (HX.out.next hbl)); (have HZ1 := Lib.hid hbl.size); (obtain ⟨s0, s1, s2, c0, c1, c2, c3, c4, c5, _, _⟩ := HX1.out); (obtain ⟨ao1, cap1, rfl⟩ := HO1.out.arg.isSlice); clear how hnn hbl)
  go_wp2_with (go_at_call 68; refine (HF.out _ _ _ HO1.out HZ1.out).mono ?_; rintro e w4 ⟨v4, lv, rfl, ha4, hl4, hb4⟩; (have hbk : w4.heap[w.heap.size + 1 + 1]? = some (.cells #[.int .i64 0, .int .u64 0, .slice none 0 0] 57) := (hb4.block _ HLT.out).trans HX1.out.ans); (have k0 := Tb.cell_of_blkT (k := 0) hbk rfl); (have k1 := Tb.cell_of_blkT (k := 1) hbk rfl); (have k2 := Tb.cell_of_blkT (k := 2) hbk rfl); (have z0 := Tb.free_of_blkT (k := 0) hbk); (have z1 := Tb.free_of_blkT (k := 1) hbk); (have z2 := Tb.free_of_blkT (k := 2) hbk); (have HA4 := Lib.hid ha4); (have HL4 := Lib.hid hl4); (obtain ⟨aol, capl, rfl⟩ := hl4.1.arg.isSlice); (have HB4 : Hid (Below w.heap.size w w4) := Lib.hid (HX1.out.bel.trans (hb4.mono (by have := HLT.out; omega)))); clear ha4 hl4 hb4 hbk)
  refine bodyPost_ret (v := .tuple #[v4, .agg #[.int .i64 (r.err : Int), .int .u64 (r.val : Int), .slice aol r.ls.length capl]]) (by simp [results, Tryz.results36, go_sem, k0, k1, k2]) rfl ⟨_, _, rfl, put3R2 HA4.out HLT.out _ _ _ (by have := HLT.out; omega), put3R2 HL4.out HLT.out _ _ _ (by have := HLT.out; omega), put3_below HB4.out (by omega) _ _ _⟩

set_option maxHeartbeats 4000000 in
theorem rap_9 (n p q ob kd a b c : Int) (t : Nat) (m : List Nat) (r : MdR) (v : Value) (w : World) (hA : ArgW w v m) (hl : m.length ≤ 4294967296) (ht : t < 16) (hF : ∀ (W : World) (B : Nat) (v1 : Value), OwnW W B v1 m → B ≤ W.heap.size → Calls Tryz.prog 69 #[Tb.specV 9 p q, v1, callV (t : Int) ob kd a b c] W (ChP B W r)) :
    Calls Tryz.prog 36 #[.int .i64 n, Tb.specV 9 p q, v, callV (t : Int) ob kd a b c] w (ChP w.heap.size w r) := by
  obtain ⟨iI, ia, ib, ic, id⟩ := info_parts info22
  obtain ⟨ao, bA, oA, cap, rfl, hA1, hA2, hA3⟩ := hA
  have HX := Lib.hid (apBox w 9 p q (t : Int) ob kd a b c (ansC 0 0 (.slice none 0 0)))
  have HS : Hid (∀ (j : Nat) (u : Value), (m.map wU)[j]? = some u → (apW w 9 p q (t : Int) ob kd a b c (ansC 0 0 (.slice none 0 0))).cell? ⟨bA, oA + j, none⟩ = some u) := Lib.hid (fun j u hu => by
    rw [List.getElem?_map] at hu
    obtain ⟨x, hx, rfl⟩ := Option.map_eq_some_iff.1 hu
    have := hA3 j x hx
    exact (HX.out.bel.cell (World.block_lt_of_cell? w _ this)).trans this)
  have HA := Lib.hid hA1
  have HN := Lib.hid hA2
  have HONE := Lib.hid (wU_one m)
  have HLEN : Hid ((m.map wU).length = m.length) := Lib.hid (by simp)
  unfold apW at HX HS
  unfold ansC at *
  generalize hw0 : ((w.alloc (Tb.specO 9 p q)).alloc (callO (t : Int) ob kd a b c)).alloc (.cells #[.int .i64 0, .int .u64 0, .slice none 0 0] 57) = W at *
  unfold Tb.specO at hw0
  have HLT := Lib.hid HX.out.lt
  have HF := Lib.hid hF
  clear hA1 hA2 hA3 hF
  unfold Tb.specV at *
  go_enter Tryz.func36, Tryz.ntmps36
  go_wp2_with (at_builtin; refine append_fresh_own (w := W) rfl _ _ 37 rfl 55 iI (.int .u64 0) 8 Tryz.underlying37 ia ib ic id rfl (by decide) W.heap.size rfl rfl ao bA oA cap m.length (m.map wU) rfl HLEN.out HA.out HS.out HN.out HONE.out hl ?_; intro v1 w1 how hnn hbl; (have HO1 : Hid (OwnW w1 W.heap.size v1 m) := Lib.hid how); (have HX1 := Lib.hid (HX.out.next hbl)); (have HZ1 := Lib.hid hbl.size); (obtain ⟨s0, s1, s2, c0, c1, c2, c3, c4, c5, _, _⟩ := HX1.out); (obtain ⟨ao1, cap1, rfl⟩ := HO1.out.arg.isSlice); clear how hnn hbl)
  go_wp2_with (go_at_call 69; refine (HF.out _ _ _ HO1.out HZ1.out).mono ?_; rintro e w4 ⟨v4, lv, rfl, ha4, hl4, hb4⟩; (have hbk : w4.heap[w.heap.size + 1 + 1]? = some (.cells #[.int .i64 0, .int .u64 0, .slice none 0 0] 57) := (hb4.block _ HLT.out).trans HX1.out.ans); (have k0 := Tb.cell_of_blkT (k := 0) hbk rfl); (have k1 := Tb.cell_of_blkT (k := 1) hbk rfl); (have k2 := Tb.cell_of_blkT (k := 2) hbk rfl); (have z0 := Tb.free_of_blkT (k := 0) hbk); (have z1 := Tb.free_of_blkT (k := 1) hbk); (have z2 := Tb.free_of_blkT (k := 2) hbk); (have HA4 := Lib.hid ha4); (have HL4 := Lib.hid hl4); (obtain ⟨aol, capl, rfl⟩ := hl4.1.arg.isSlice); (have HB4 : Hid (Below w.heap.size w w4) := Lib.hid (HX1.out.bel.trans (hb4.mono (by have := HLT.out; omega)))); clear ha4 hl4 hb4 hbk)
  refine bodyPost_ret (v := .tuple #[v4, .agg #[.int .i64 (r.err : Int), .int .u64 (r.val : Int), .slice aol r.ls.length capl]]) (by simp [results, Tryz.results36, go_sem, k0, k1, k2]) rfl ⟨_, _, rfl, put3R2 HA4.out HLT.out _ _ _ (by have := HLT.out; omega), put3R2 HL4.out HLT.out _ _ _ (by have := HLT.out; omega), put3_below HB4.out (by omega) _ _ _⟩
end
section
open Go.ChangeShapes Go.WideShapes Go.ChangeAt Go.RowKit
set_option linter.unusedVariables false
set_option linter.unusedSimpArgs false
set_option maxRecDepth 100000


set_option maxHeartbeats 4000000 in
theorem rtally_put (n p q ob a b c : Int) (t : Nat) (x : Nat) (m : List Nat) (hm : m = [x]) (v : Value) (w : World) (hA : ArgW w v m) (hl : m.length ≤ 4294967296) (ht : t < 16) :
    Calls Tryz.prog 36 #[.int .i64 n, Tb.specV 2 p q, v, callV (t : Int) ob 0 a b c] w (ChP w.heap.size w ⟨[(x + 1) % 18446744073709551616], 0, 0, []⟩) := by
  obtain ⟨iI, ia, ib, ic, id⟩ := info_parts info22
  obtain ⟨ao, bA, oA, cap, rfl, hA1, hA2, hA3⟩ := hA
  obtain ⟨z, hz⟩ : ∃ z : Nat, (x + 1) % 18446744073709551616 = z := ⟨_, rfl⟩
  have hwz : IntKind.u64.wrap ((x : Int) + 1) = (z : Int) := by
    rw [← hz]
    simp [IntKind.wrap, IntKind.signed, IntKind.bits]
  rw [hz]
  have HM := Lib.hid hm
  clear hz hm
  have HX := Lib.hid (apBox w 2 p q (t : Int) ob 0 a b c (ansC 0 0 (.slice none 0 0)))
  have HS : Hid (∀ (j : Nat) (u : Value), (m.map wU)[j]? = some u → (apW w 2 p q (t : Int) ob 0 a b c (ansC 0 0 (.slice none 0 0))).cell? ⟨bA, oA + j, none⟩ = some u) := Lib.hid (fun j u hu => by
    rw [List.getElem?_map] at hu
    obtain ⟨x, hx, rfl⟩ := Option.map_eq_some_iff.1 hu
    have := hA3 j x hx
    exact (HX.out.bel.cell (World.block_lt_of_cell? w _ this)).trans this)
  have HA := Lib.hid hA1
  have HN := Lib.hid hA2
  have HONE := Lib.hid (wU_one m)
  have HLEN : Hid ((m.map wU).length = m.length) := Lib.hid (by simp)
  unfold apW at HX HS
  unfold ansC at *
  generalize hw0 : ((w.alloc (Tb.specO 2 p q)).alloc (callO (t : Int) ob 0 a b c)).alloc (.cells #[.int .i64 0, .int .u64 0, .slice none 0 0] 57) = W at *
  unfold Tb.specO at hw0
  have HLT := Lib.hid HX.out.lt
  clear hA1 hA2 hA3
  unfold Tb.specV at *
  go_enter Tryz.func36, Tryz.ntmps36
  go_wp2_with (at_builtin; refine append_fresh_own (w := W) rfl _ _ 37 rfl 55 iI (.int .u64 0) 8 Tryz.underlying37 ia ib ic id rfl (by decide) W.heap.size rfl rfl ao bA oA cap m.length (m.map wU) rfl HLEN.out HA.out HS.out HN.out HONE.out hl ?_; intro v1 w1 how hnn hbl; (have HO1 : Hid (OwnW w1 W.heap.size v1 m) := Lib.hid how); (have HX1 := Lib.hid (HX.out.next hbl)); (have HZ1 := Lib.hid hbl.size); (obtain ⟨s0, s1, s2, c0, c1, c2, c3, c4, c5, _, _⟩ := HX1.out); (have hox : OwnW w1 W.heap.size v1 [x] := by rw [← HM.out]; exact HO1.out); (obtain ⟨g7, c7, e7, _, hg7, hc7, _⟩ := hox.opened (by simp)); (have e8 : v1 = .slice (some ⟨g7, 0, none⟩) 1 c7 := e7); (subst e8); clear hox e7; (have d7 := hc7 0 x rfl); (have hbk := HX1.out.ans); (have k0 := Tb.cell_of_blkT (k := 0) hbk rfl); (have k1 := Tb.cell_of_blkT (k := 1) hbk rfl); (have k2 := Tb.cell_of_blkT (k := 2) hbk rfl); (have z0 := Tb.free_of_blkT (k := 0) hbk); (have z1 := Tb.free_of_blkT (k := 1) hbk); (have z2 := Tb.free_of_blkT (k := 2) hbk); (have hlw := HX1.out.lt); clear hc7 hbk; clear how hnn hbl)
  have HOF : Hid (∀ e0 v0 z0 : Value, OwnW ((((w1.setCell ⟨w.heap.size + 1 + 1, 0, none⟩ e0).setCell ⟨w.heap.size + 1 + 1, 1, none⟩ v0).setCell ⟨w.heap.size + 1 + 1, 2, none⟩ z0).alloc (.cells #[.int .u64 (z : Int)] 55)) W.heap.size (.slice (some ⟨w1.heap.size, 0, none⟩) 1 1) [z]) := Lib.hid (fun e0 v0 z0 => by
    have h := row_one (((w1.setCell ⟨w.heap.size + 1 + 1, 0, none⟩ e0).setCell ⟨w.heap.size + 1 + 1, 1, none⟩ v0).setCell ⟨w.heap.size + 1 + 1, 2, none⟩ z0) z W.heap.size (by have := HZ1.out; simpa using this)
    have es : (((w1.setCell ⟨w.heap.size + 1 + 1, 0, none⟩ e0).setCell ⟨w.heap.size + 1 + 1, 1, none⟩ v0).setCell ⟨w.heap.size + 1 + 1, 2, none⟩ z0).heap.size = w1.heap.size := by simp
    rw [es] at h
    exact h)
  refine bodyPost_ret (v := .tuple #[.slice (some ⟨w1.heap.size, 0, none⟩) 1 1, .agg #[.int .i64 0, .int .u64 0, .slice none 0 0]]) (by simp [results, Tryz.results36, go_sem, k0, k1, k2, hlw]) rfl ⟨_, _, rfl, ⟨(HOF.out _ _ _).argB.mono (by have := HLT.out; omega), (HOF.out (.int .i64 0) (.int .i64 0) (.int .i64 0)).room⟩, ⟨ArgB.nil _ _, room_nil⟩, (put3_below HX1.out.bel (by omega) _ _ _).alloc (by simp; omega) _⟩

set_option maxHeartbeats 4000000 in
theorem rtally_show (n p q ob a b c : Int) (t : Nat) (x : Nat) (m : List Nat) (hm : m = [x]) (v : Value) (w : World) (hA : ArgW w v m) (hl : m.length ≤ 4294967296) (ht : t < 16) :
    Calls Tryz.prog 36 #[.int .i64 n, Tb.specV 2 p q, v, callV (t : Int) ob 1 a b c] w (ChP w.heap.size w ⟨m, 0, x, []⟩) := by
  obtain ⟨iI, ia, ib, ic, id⟩ := info_parts info22
  obtain ⟨ao, bA, oA, cap, rfl, hA1, hA2, hA3⟩ := hA
  have HM := Lib.hid hm
  clear hm
  have HX := Lib.hid (apBox w 2 p q (t : Int) ob 1 a b c (ansC 0 0 (.slice none 0 0)))
  have HS : Hid (∀ (j : Nat) (u : Value), (m.map wU)[j]? = some u → (apW w 2 p q (t : Int) ob 1 a b c (ansC 0 0 (.slice none 0 0))).cell? ⟨bA, oA + j, none⟩ = some u) := Lib.hid (fun j u hu => by
    rw [List.getElem?_map] at hu
    obtain ⟨x, hx, rfl⟩ := Option.map_eq_some_iff.1 hu
    have := hA3 j x hx
    exact (HX.out.bel.cell (World.block_lt_of_cell? w _ this)).trans this)
  have HA := Lib.hid hA1
  have HN := Lib.hid hA2
  have HONE := Lib.hid (wU_one m)
  have HLEN : Hid ((m.map wU).length = m.length) := Lib.hid (by simp)
  unfold apW at HX HS
  unfold ansC at *
  generalize hw0 : ((w.alloc (Tb.specO 2 p q)).alloc (callO (t : Int) ob 1 a b c)).alloc (.cells #[.int .i64 0, .int .u64 0, .slice none 0 0] 57) = W at *
  unfold Tb.specO at hw0
  have HLT := Lib.hid HX.out.lt
  clear hA1 hA2 hA3
  unfold Tb.specV at *
  go_enter Tryz.func36, Tryz.ntmps36
  go_wp2_with (at_builtin; refine append_fresh_own (w := W) rfl _ _ 37 rfl 55 iI (.int .u64 0) 8 Tryz.underlying37 ia ib ic id rfl (by decide) W.heap.size rfl rfl ao bA oA cap m.length (m.map wU) rfl HLEN.out HA.out HS.out HN.out HONE.out hl ?_; intro v1 w1 how hnn hbl; (have HO1 : Hid (OwnW w1 W.heap.size v1 m) := Lib.hid how); (have HX1 := Lib.hid (HX.out.next hbl)); (have HZ1 := Lib.hid hbl.size); (obtain ⟨s0, s1, s2, c0, c1, c2, c3, c4, c5, _, _⟩ := HX1.out); (have hox : OwnW w1 W.heap.size v1 [x] := by rw [← HM.out]; exact HO1.out); (obtain ⟨g7, c7, e7, _, hg7, hc7, _⟩ := hox.opened (by simp)); (have e8 : v1 = .slice (some ⟨g7, 0, none⟩) 1 c7 := e7); (subst e8); clear hox e7; (have d7 := hc7 0 x rfl); (have hbk := HX1.out.ans); (have k0 := Tb.cell_of_blkT (k := 0) hbk rfl); (have k1 := Tb.cell_of_blkT (k := 1) hbk rfl); (have k2 := Tb.cell_of_blkT (k := 2) hbk rfl); (have z0 := Tb.free_of_blkT (k := 0) hbk); (have z1 := Tb.free_of_blkT (k := 1) hbk); (have z2 := Tb.free_of_blkT (k := 2) hbk); (have hlw := HX1.out.lt); (have HNE := Lib.hid (HO1.out.ne_ans hbk)); (have HRM := Lib.hid HO1.out.room); clear hc7 hbk; clear how hnn hbl)
  go_region
  go_wp2
  refine bodyPost_ret (v := .tuple #[.slice (some ⟨g7, 0, none⟩) 1 c7, .agg #[.int .i64 0, .int .u64 (x : Int), .slice none 0 0]]) (by simp [results, Tryz.results36, go_sem, k0, k1, k2, hlw]) rfl ⟨_, _, rfl, ⟨(((HO1.out.drewN 1).put3 HNE.out _ _ _).argB.mono (by have := HLT.out; omega)), HRM.out⟩, ⟨ArgB.nil _ _, room_nil⟩, put3_below HX1.out.bel.drew (by omega) _ _ _⟩

theorem rap_2 (n p q ob kd a b c : Int) (t : Nat) (m : List Nat) (v : Value) (w : World) (hA : ArgW w v m) (ht : t < 16) (h1 : m.length = 1) (hk : kd = 0 ∨ kd = 1) :
    Calls Tryz.prog 36 #[.int .i64 n, Tb.specV 2 p q, v, callV (t : Int) ob kd a b c] w (ChP w.heap.size w (mdTally m kd)) := by
  obtain ⟨x, hx⟩ := one_len h1
  have e : m.getD 0 0 = x := by rw [hx]; rfl
  unfold mdTally
  rw [e]
  rcases hk with rfl | rfl
  · exact rtally_put n p q ob a b c t x m hx v w hA (by omega) ht
  · exact rtally_show n p q ob a b c t x m hx v w hA (by omega) ht
end
section
open Go.ChangeShapes Go.WideShapes Go.ChangeAt Go.RowKit
set_option linter.unusedVariables false
set_option linter.unusedSimpArgs false
set_option maxRecDepth 100000

set_option maxHeartbeats 2000000 in
theorem rcons_kind (t ob kd a b c : Int) (m : List Nat) (v : Value) (B : Nat) (w : World) (h : OwnW w B v m) (hB : B ≤ w.heap.size) (hk : ¬ (kd = 0 ∨ kd = 1)) :
    Calls Tryz.prog 63 #[v, callV t ob kd a b c] w (ChP B w ⟨m, 9, 0, []⟩) := by
  have HO := Lib.hid h
  have HR := Lib.hid h.room
  have n0 : ¬ kd = 0 := fun h => hk (.inl h)
  have n1 : ¬ kd = 1 := fun h => hk (.inr h)
  have b0 : (kd == 0) = false := by rw [beq_eq_false_iff_ne]; exact n0
  have b1 : (kd == 1) = false := by rw [beq_eq_false_iff_ne]; exact n1
  have b2 : (kd != 0) = true := by rw [bne, b0]; rfl
  have b3 : (kd != 1) = true := by rw [bne, b1]; rfl
  clear hk
  obtain ⟨ao, cap, rfl⟩ := h.arg.isSlice
  clear h
  go_enter Tryz.func63, Tryz.ntmps63
  go_wp2_with fail
  refine bodyPost_ret (v := .tuple #[.slice ao m.length cap, .agg #[.int .i64 9, .int .u64 0, .slice none 0 0]]) (by simp [results, Tryz.results63, go_sem]) rfl ⟨_, _, rfl, ⟨((HO.out.alloc _).alloc _).argB, HR.out⟩, ⟨ArgB.nil _ _, room_nil⟩, ((Below.refl B w).alloc hB _).alloc (by simp; omega) _⟩

set_option maxHeartbeats 2000000 in
theorem rqueue_kind (t ob kd a b c : Int) (m : List Nat) (v : Value) (B : Nat) (w : World) (h : OwnW w B v m) (hB : B ≤ w.heap.size) (hk : ¬ (kd = 0 ∨ kd = 1)) :
    Calls Tryz.prog 68 #[v, callV t ob kd a b c] w (ChP B w ⟨m, 9, 0, []⟩) := by
  have HO := Lib.hid h
  have HR := Lib.hid h.room
  have n0 : ¬ kd = 0 := fun h => hk (.inl h)
  have n1 : ¬ kd = 1 := fun h => hk (.inr h)
  have b0 : (kd == 0) = false := by rw [beq_eq_false_iff_ne]; exact n0
  have b1 : (kd == 1) = false := by rw [beq_eq_false_iff_ne]; exact n1
  have b2 : (kd != 0) = true := by rw [bne, b0]; rfl
  have b3 : (kd != 1) = true := by rw [bne, b1]; rfl
  clear hk
  obtain ⟨ao, cap, rfl⟩ := h.arg.isSlice
  clear h
  go_enter Tryz.func68, Tryz.ntmps68
  go_wp2_with fail
  refine bodyPost_ret (v := .tuple #[.slice ao m.length cap, .agg #[.int .i64 9, .int .u64 0, .slice none 0 0]]) (by simp [results, Tryz.results68, go_sem]) rfl ⟨_, _, rfl, ⟨((HO.out.alloc _).alloc _).argB, HR.out⟩, ⟨ArgB.nil _ _, room_nil⟩, ((Below.refl B w).alloc hB _).alloc (by simp; omega) _⟩

set_option maxHeartbeats 2000000 in
theorem rmax_kind (p q t ob kd a b c : Int) (m : List Nat) (v : Value) (B : Nat) (w : World) (h : OwnW w B v m) (hB : B ≤ w.heap.size) (hk : ¬ (kd = 0 ∨ kd = 1)) :
    Calls Tryz.prog 65 #[Tb.specV 4 p q, v, callV t ob kd a b c] w (ChP B w ⟨m, 9, 0, []⟩) := by
  have HO := Lib.hid h
  have HR := Lib.hid h.room
  have n0 : ¬ kd = 0 := fun h => hk (.inl h)
  have n1 : ¬ kd = 1 := fun h => hk (.inr h)
  have b0 : (kd == 0) = false := by rw [beq_eq_false_iff_ne]; exact n0
  have b1 : (kd == 1) = false := by rw [beq_eq_false_iff_ne]; exact n1
  have b2 : (kd != 0) = true := by rw [bne, b0]; rfl
  have b3 : (kd != 1) = true := by rw [bne, b1]; rfl
  clear hk
  obtain ⟨ao, cap, rfl⟩ := h.arg.isSlice
  clear h
  unfold Tb.specV
  go_enter Tryz.func65, Tryz.ntmps65
  go_wp2_with fail
  refine bodyPost_ret (v := .tuple #[.slice ao m.length cap, .agg #[.int .i64 9, .int .u64 0, .slice none 0 0]]) (by simp [results, Tryz.results65, go_sem]) rfl ⟨_, _, rfl, ⟨(((HO.out.alloc _).alloc _).alloc _).argB, HR.out⟩, ⟨ArgB.nil _ _, room_nil⟩, (((Below.refl B w).alloc hB _).alloc (by simp; omega) _).alloc (by simp; omega) _⟩

set_option maxHeartbeats 2000000 in
theorem rpin_kind (p q t ob kd a b c : Int) (m : List Nat) (v : Value) (B : Nat) (w : World) (h : OwnW w B v m) (hB : B ≤ w.heap.size) (hk : ¬ (kd = 0 ∨ kd = 1)) :
    Calls Tryz.prog 69 #[Tb.specV 9 p q, v, callV t ob kd a b c] w (ChP B w ⟨m, 9, 0, []⟩) := by
  have HO := Lib.hid h
  have HR := Lib.hid h.room
  have n0 : ¬ kd = 0 := fun h => hk (.inl h)
  have n1 : ¬ kd = 1 := fun h => hk (.inr h)
  have b0 : (kd == 0) = false := by rw [beq_eq_false_iff_ne]; exact n0
  have b1 : (kd == 1) = false := by rw [beq_eq_false_iff_ne]; exact n1
  have b2 : (kd != 0) = true := by rw [bne, b0]; rfl
  have b3 : (kd != 1) = true := by rw [bne, b1]; rfl
  clear hk
  obtain ⟨ao, cap, rfl⟩ := h.arg.isSlice
  clear h
  unfold Tb.specV
  go_enter Tryz.func69, Tryz.ntmps69
  go_wp2_with fail
  refine bodyPost_ret (v := .tuple #[.slice ao m.length cap, .agg #[.int .i64 9, .int .u64 0, .slice none 0 0]]) (by simp [results, Tryz.results69, go_sem]) rfl ⟨_, _, rfl, ⟨(((HO.out.alloc _).alloc _).alloc _).argB, HR.out⟩, ⟨ArgB.nil _ _, room_nil⟩, (((Below.refl B w).alloc hB _).alloc (by simp; omega) _).alloc (by simp; omega) _⟩

set_option maxHeartbeats 2000000 in
theorem rsnap_kind (values most n th t2 ob2 kd2 a2 b2 c2 t ob kd a b c : Int) (m : List Nat) (v : Value) (B : Nat) (w : World) (h : OwnW w B v m) (hB : B ≤ w.heap.size) (hk : ¬ (kd = 0 ∨ kd = 1)) :
    Calls Tryz.prog 66 #[.int .i64 values, .int .i64 most, .int .i64 n, v, .int .i64 th, callV t ob kd a b c, callV t2 ob2 kd2 a2 b2 c2] w (ChP B w ⟨m, 9, 0, []⟩) := by
  have HO := Lib.hid h
  have HR := Lib.hid h.room
  have n0 : ¬ kd = 0 := fun h => hk (.inl h)
  have n1 : ¬ kd = 1 := fun h => hk (.inr h)
  have b0 : (kd == 0) = false := by rw [beq_eq_false_iff_ne]; exact n0
  have b1 : (kd == 1) = false := by rw [beq_eq_false_iff_ne]; exact n1
  have b2 : (kd != 0) = true := by rw [bne, b0]; rfl
  have b3 : (kd != 1) = true := by rw [bne, b1]; rfl
  clear hk
  obtain ⟨ao, cap, rfl⟩ := h.arg.isSlice
  clear h
  go_enter Tryz.func66, Tryz.ntmps66
  go_wp2_with fail
  refine bodyPost_ret (v := .tuple #[.slice ao m.length cap, .agg #[.int .i64 9, .int .u64 0, .slice none 0 0]]) (by simp [results, Tryz.results66, go_sem]) rfl ⟨_, _, rfl, ⟨(((HO.out.alloc _).alloc _).alloc _).argB, HR.out⟩, ⟨ArgB.nil _ _, room_nil⟩, (((Below.refl B w).alloc hB _).alloc (by simp; omega) _).alloc (by simp; omega) _⟩

set_option maxHeartbeats 2000000 in
theorem radder_kind (t ob kd a b c : Int) (x : Nat) (v : Value) (B : Nat) (w : World) (h : OwnW w B v [x]) (hB : B ≤ w.heap.size) (hk : ¬ (0 ≤ kd ∧ kd < 3)) :
    Calls Tryz.prog 64 #[v, callV t ob kd a b c] w (ChP B w ⟨[x], 9, 0, []⟩) := by
  have HO := Lib.hid h
  have HR := Lib.hid h.room
  have n0 : ¬ kd = 0 := fun h => hk (by omega)
  have n1 : ¬ kd = 1 := fun h => hk (by omega)
  have n2 : ¬ kd = 2 := fun h => hk (by omega)
  clear hk
  obtain ⟨g1, cap, rfl, hg1, hlt1, hc, hf⟩ := h.opened (by simp)
  have d1 := hc 0 x rfl
  have hlt2 : g1 < w.heap.size + 1 := by omega
  simp only [List.length_singleton] at *
  clear h hc hf
  go_enter Tryz.func64, Tryz.ntmps64
  go_wp2_with fail
  refine bodyPost_ret (v := .tuple #[.slice (some ⟨g1, 0, none⟩) 1 cap, .agg #[.int .i64 9, .int .u64 0, .slice none 0 0]]) (by simp [results, Tryz.results64, go_sem]) rfl ⟨_, _, rfl, ⟨((HO.out.alloc _).alloc _).argB, HR.out⟩, ⟨ArgB.nil _ _, room_nil⟩, ((Below.refl B w).alloc hB _).alloc (by simp; omega) _⟩

set_option maxHeartbeats 2000000 in
theorem rcell_low (p q t ob kd a b c : Int) (m : List Nat) (v : Value) (B : Nat) (w : World) (h : OwnW w B v m) (hB : B ≤ w.heap.size) (hk : kd < 0) :
    Calls Tryz.prog 62 #[Tb.specV 0 p q, v, callV t ob kd a b c] w (ChP B w ⟨m, 9, 0, []⟩) := by
  have HO := Lib.hid h
  have HR := Lib.hid h.room
  have n0 : decide (kd < 0) = true := decide_eq_true hk
  clear hk
  obtain ⟨ao, cap, rfl⟩ := h.arg.isSlice
  clear h
  unfold Tb.specV
  go_enter Tryz.func62, Tryz.ntmps62
  go_wp2_with fail
  refine bodyPost_ret (v := .tuple #[.slice ao m.length cap, .agg #[.int .i64 9, .int .u64 0, .slice none 0 0]]) (by simp [results, Tryz.results62, go_sem]) rfl ⟨_, _, rfl, ⟨(((HO.out.alloc _).alloc _).alloc _).argB, HR.out⟩, ⟨ArgB.nil _ _, room_nil⟩, (((Below.refl B w).alloc hB _).alloc (by simp; omega) _).alloc (by simp; omega) _⟩

set_option maxHeartbeats 2000000 in
theorem rcell_high (p q t ob kd a b c : Int) (m : List Nat) (v : Value) (B : Nat) (w : World) (h : OwnW w B v m) (hB : B ≤ w.heap.size) (hk : 4 ≤ kd) :
    Calls Tryz.prog 62 #[Tb.specV 0 p q, v, callV t ob kd a b c] w (ChP B w ⟨m, 9, 0, []⟩) := by
  have HO := Lib.hid h
  have HR := Lib.hid h.room
  have n0 : decide (kd < 0) = false := decide_eq_false (by omega)
  have n1 : decide (3 < kd) = true := decide_eq_true (by omega)
  clear hk
  obtain ⟨ao, cap, rfl⟩ := h.arg.isSlice
  clear h
  unfold Tb.specV
  go_enter Tryz.func62, Tryz.ntmps62
  go_wp2_with fail
  refine bodyPost_ret (v := .tuple #[.slice ao m.length cap, .agg #[.int .i64 9, .int .u64 0, .slice none 0 0]]) (by simp [results, Tryz.results62, go_sem]) rfl ⟨_, _, rfl, ⟨(((HO.out.alloc _).alloc _).alloc _).argB, HR.out⟩, ⟨ArgB.nil _ _, room_nil⟩, (((Below.refl B w).alloc hB _).alloc (by simp; omega) _).alloc (by simp; omega) _⟩

set_option maxHeartbeats 2000000 in
theorem rcell_big (p q t ob kd b c : Int) (a : Nat) (m : List Nat) (v : Value) (B : Nat) (w : World) (h : OwnW w B v m) (hB : B ≤ w.heap.size) (hp : 1 ≤ p ∧ p ≤ 64) (hk : 0 ≤ kd ∧ kd < 4) (ha : p ≤ (a : Int)) :
    Calls Tryz.prog 62 #[Tb.specV 0 p q, v, callV t ob kd (a : Int) b c] w (ChP B w ⟨m, 10, 0, []⟩) := by
  have HO := Lib.hid h
  have HR := Lib.hid h.room
  have n0 : decide (kd < 0) = false := decide_eq_false (by omega)
  have n1 : decide (3 < kd) = false := decide_eq_false (by omega)
  have n2 : decide (p ≤ (a : Int)) = true := decide_eq_true ha
  have hp1 := hp.1
  have hp2 := hp.2
  obtain ⟨ao, cap, rfl⟩ := h.arg.isSlice
  clear h hk
  unfold Tb.specV
  go_enter Tryz.func62, Tryz.ntmps62
  go_wp2_with fail
  refine bodyPost_ret (v := .tuple #[.slice ao m.length cap, .agg #[.int .i64 10, .int .u64 0, .slice none 0 0]]) (by simp [results, Tryz.results62, go_sem]) rfl ⟨_, _, rfl, ⟨(((HO.out.alloc _).alloc _).alloc _).argB, HR.out⟩, ⟨ArgB.nil _ _, room_nil⟩, (((Below.refl B w).alloc hB _).alloc (by simp; omega) _).alloc (by simp; omega) _⟩
end
end Go.Proofs.YtjjleghalajidaaGreat
