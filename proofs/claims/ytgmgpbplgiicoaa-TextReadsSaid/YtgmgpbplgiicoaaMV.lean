/- Digits that are compared as strings. -/
import Derived.Test.YtgmgpbplgiicoaaMU
namespace Go.Proofs.Ytgmgpbplgiicoaa
open Go.RowKit Go.Lib Go.Sort

def ltL : List Nat → List Nat → Bool
  | _, [] => false
  | [], _ :: _ => true
  | a :: x, b :: y => decide (a < b) || (decide (a = b) && ltL x y)
theorem less_eq : ∀ (A Bs : List Nat), (∀ x ∈ A, x < 256) → (∀ x ∈ Bs, x < 256) → Op.bytesLess (A.map UInt8.ofNat) (Bs.map UInt8.ofNat) = ltL A Bs
  | [], [], _, _ => rfl
  | _ :: _, [], _, _ => rfl
  | [], _ :: _, _, _ => rfl
  | a :: x, b :: y, hA, hB => by
    have h1 := hA a (by simp)
    have h2 := hB b (by simp)
    have ih := less_eq x y (fun z hz => hA z (by simp [hz])) (fun z hz => hB z (by simp [hz]))
    have e1 : (UInt8.ofNat a < UInt8.ofNat b) ↔ a < b := by
      rw [UInt8.lt_iff_toNat_lt, UInt8.toNat_ofNat', UInt8.toNat_ofNat', Nat.mod_eq_of_lt (by omega), Nat.mod_eq_of_lt (by omega)]
    have e2 : (UInt8.ofNat a == UInt8.ofNat b) = decide (a = b) := by
      rw [Bool.eq_iff_iff, beq_iff_eq, decide_eq_true_iff]
      constructor
      · intro h
        have := congrArg UInt8.toNat h
        rw [UInt8.toNat_ofNat', UInt8.toNat_ofNat', Nat.mod_eq_of_lt (by omega), Nat.mod_eq_of_lt (by omega)] at this
        exact this
      · rintro rfl; rfl
    simp only [List.map_cons, Op.bytesLess, ltL, ih, e2, e1]
theorem ltL_snoc (p q : Nat) : ∀ (a b : List Nat), a.length = b.length → ltL (a ++ [p]) (b ++ [q]) = (ltL a b || (decide (a = b) && decide (p < q)))
  | [], [], _ => by simp [ltL]
  | [], _ :: _, h => by simp at h
  | _ :: _, [], h => by simp at h
  | x :: a, y :: b, h => by
    have ih := ltL_snoc p q a b (by simpa using h)
    simp only [List.cons_append, ltL, ih]
    by_cases h1 : x = y
    · subst h1; simp
    · simp [h1]
theorem digs_inj {x y : Nat} (hx : x < 100000000000000000000) (hy : y < 100000000000000000000) (h : digs x = digs y) : x = y := by
  have h1 := mag_back (m := 99999999999999999999) (by decide) (x := x) (by omega) (r := []) rfl
  have h2 := mag_back (m := 99999999999999999999) (by decide) (x := y) (by omega) (r := []) rfl
  rw [h] at h1
  rw [h1] at h2
  exact congrArg Prod.fst h2
theorem digs_len_iff : ∀ (k y : Nat), y < 100000000000000000000 → ((digs y).length ≤ k + 1 ↔ y < 10 ^ (k + 1))
  | 0, y, hy => by
    by_cases h : y < 10
    · rw [digs_lo h]; simp; omega
    · rw [digs_hi (by omega) hy]
      have := digs_ne (y / 10)
      simp only [List.length_append, List.length_singleton]
      omega
  | k + 1, y, hy => by
    by_cases h : y < 10
    · rw [digs_lo h]
      have : 10 ≤ 10 ^ (k + 1 + 1) := by
        have : 10 ^ (k + 1 + 1) = 10 ^ (k + 1) * 10 := Nat.pow_succ ..
        have := Nat.pow_pos (n := k + 1) (show 0 < 10 by decide)
        omega
      simp; omega
    · have ih := digs_len_iff k (y / 10) (by omega)
      rw [digs_hi (by omega) hy]
      have e : 10 ^ (k + 1 + 1) = 10 ^ (k + 1) * 10 := Nat.pow_succ ..
      simp only [List.length_append, List.length_singleton]
      omega
theorem digs_cmp : ∀ (n y m : Nat), y ≤ n → y < 100000000000000000000 → m < 100000000000000000000 → (digs y).length = (digs m).length → ltL (digs y) (digs m) = decide (y < m)
  | n, y, m, hn, hy, hm, hl => by
    by_cases h : y < 10
    · have hm10 : m < 10 := by
        rw [digs_lo h] at hl
        have := (digs_len_iff 0 m hm).1 (by rw [← hl]; simp)
        simpa using this
      rw [digs_lo h, digs_lo hm10]
      simp [ltL]
    · have hm10 : 10 ≤ m := by
        rcases Nat.lt_or_ge m 10 with h2 | h2
        · rw [digs_lo h2, digs_hi (by omega) hy] at hl
          have := digs_ne (y / 10)
          simp only [List.length_append, List.length_cons, List.length_nil] at hl
          omega
        · exact h2
      cases n with
      | zero => omega
      | succ n =>
        rw [digs_hi (by omega) hy, digs_hi hm10 hm] at hl ⊢
        simp only [List.length_append, List.length_singleton] at hl
        have ih := digs_cmp n (y / 10) (m / 10) (by omega) (by omega) (by omega) (by omega)
        rw [ltL_snoc _ _ _ _ (by omega), ih]
        have e : decide (digs (y / 10) = digs (m / 10)) = decide (y / 10 = m / 10) := by
          rw [decide_eq_decide]
          exact ⟨fun h => digs_inj (by omega) (by omega) h, fun h => by rw [h]⟩
        rw [e, Bool.eq_iff_iff]
        simp only [Bool.or_eq_true, Bool.and_eq_true, decide_eq_true_iff]
        omega
/-- do digits fit? -/
def fitB (D M : List Nat) : Bool := if 1 < D.length ∧ D.head? = some 48 then false else decide (D.length < M.length) || (decide (D.length = M.length) && (ltL D M || decide (D = M)))
theorem fit_digs {y m : Nat} (hy : y < 100000000000000000000) (hm : m < 100000000000000000000) : fitB (digs y) (digs m) = decide (y ≤ m) := by
  have h0 : ¬ (1 < (digs y).length ∧ (digs y).head? = some 48) := by
    rintro ⟨h1, h2⟩
    by_cases h : y < 10
    · rw [digs_lo h] at h1; simp at h1
    · obtain ⟨d, r, e, h3, _⟩ := digs_head y y (Nat.le_refl _) (by omega) hy
      rw [e] at h2
      simp at h2
      omega
  unfold fitB
  rw [if_neg h0]
  have hny := digs_ne y
  have hnm := digs_ne m
  have iy := digs_len_iff ((digs y).length - 1) y hy
  have im := digs_len_iff ((digs m).length - 1) m hm
  have iy2 := digs_len_iff ((digs y).length - 1) m hm
  have im2 := digs_len_iff ((digs m).length - 1) y hy
  rw [show (digs y).length - 1 + 1 = (digs y).length by omega] at iy iy2
  rw [show (digs m).length - 1 + 1 = (digs m).length by omega] at im im2
  by_cases hlt : (digs y).length < (digs m).length
  · rw [decide_eq_true hlt, Bool.true_or]
    have h1 := iy.1 (Nat.le_refl _)
    have h2 : ¬ m < 10 ^ (digs y).length := fun h => by have := iy2.2 h; omega
    exact (decide_eq_true (by omega)).symm
  · rw [decide_eq_false hlt, Bool.false_or]
    by_cases he : (digs y).length = (digs m).length
    · rw [decide_eq_true he, Bool.true_and, digs_cmp y y m (Nat.le_refl _) hy hm he]
      have e : decide (digs y = digs m) = decide (y = m) := by
        rw [decide_eq_decide]
        exact ⟨fun h => digs_inj hy hm h, fun h => by rw [h]⟩
      rw [e, Bool.eq_iff_iff]
      simp only [Bool.or_eq_true, decide_eq_true_iff]
      omega
    · rw [decide_eq_false he, Bool.false_and]
      have h1 := im.1 (Nat.le_refl _)
      have h2 : ¬ y < 10 ^ (digs m).length := fun h => by have := im2.2 h; omega
      exact (decide_eq_false (by omega)).symm
/-- the digits so far -/
def DigI (n x : Nat) (D : List Nat) : Prop := (n = 0 ∧ x = 0 ∧ D = []) ∨ (0 < n ∧ D = digs x)
theorem fit_next {n x m d : Nat} {D : List Nat} (h : DigI n x D) (hd : d < 10) (hm : 9 < m) (hm2 : m < 100000000000000000000) (hx : x ≤ m) : fitB (D ++ [48 + d]) (digs m) = !decide ((0 < n ∧ x = 0) ∨ m < 10 * x + d) := by
  rcases h with ⟨rfl, rfl, rfl⟩ | ⟨hn, rfl⟩
  · have e : [] ++ [48 + d] = digs d := by rw [digs_lo hd]; rfl
    rw [e, fit_digs (by omega) hm2, decide_eq_true (by omega), decide_eq_false (by omega)]
    rfl
  · by_cases h0 : x = 0
    · subst h0
      rw [decide_eq_true (Or.inl ⟨hn, rfl⟩), digs_lo (by decide)]
      simp [fitB]
    · by_cases hb : 10 * x + d < 100000000000000000000
      · rw [← digs_snoc (by omega) hd hb, fit_digs hb hm2, Bool.eq_iff_iff]
        simp only [Bool.not_eq_true', decide_eq_false_iff_not, decide_eq_true_iff]
        omega
      · rw [decide_eq_true (Or.inr (by omega))]
        have h1 : ¬ (digs x).length ≤ 19 := fun h => by
          have := (digs_len_iff 18 x (by omega)).1 h
          have e : 10 ^ (18 + 1) = 10000000000000000000 := by decide
          omega
        have h2 := digs_len m
        unfold fitB
        split
        · rfl
        · rw [decide_eq_false (by simp; omega), decide_eq_false (by simp; omega)]
          rfl
theorem DigI.next {n x d : Nat} {D : List Nat} (h : DigI n x D) (hd : d < 10) (h2 : ¬ (0 < n ∧ x = 0)) (h3 : 10 * x + d < 100000000000000000000) : DigI (n + 1) (10 * x + d) (D ++ [48 + d]) := by
  right
  refine ⟨by omega, ?_⟩
  rcases h with ⟨rfl, rfl, rfl⟩ | ⟨hn, rfl⟩
  · rw [show 10 * 0 + d = d by omega, digs_lo hd]; rfl
  · rw [digs_snoc (by omega) hd h3]

set_option maxHeartbeats 1000000 in
set_option maxRecDepth 100000 in
theorem fits_any (D M : List Nat) (w : World) (hD : ∀ x ∈ D, x < 256) (hM : ∀ x ∈ M, x < 256) (h0 : 0 < D.length) (hl : D.length ≤ 1000000 ∧ M.length ≤ 1000000) :
    Calls Try.prog 42 #[.string (strB D), .string (strB M)] w fun e w' => e = .returned (.bool (fitB D M)) ∧ w' = w := by
  obtain ⟨x, hx⟩ : ∃ x, D[0]? = some x := ⟨D[0], List.getElem?_eq_getElem h0⟩
  have hat : ∀ W, (Instr.index 9 (.string (strB D)) (.int .i64 0)).run Try.prog W = .ok (.int .u8 (x : Int)) W := fun W => run_at D hD 0 x hx W
  have hs1 := strB_size D
  have hs2 := strB_size M
  have hle : Op.bytesLess (strB D).toList (strB M).toList = ltL D M := by rw [ByteArray.toList_eq, ByteArray.toList_eq, strB_list, strB_list, less_eq D M hD hM]
  have heq : ((strB D).toList == (strB M).toList) = decide (D = M) := by
    rw [Bool.eq_iff_iff, beq_iff_eq, decide_eq_true_iff, ByteArray.toList_eq, ByteArray.toList_eq]
    exact ⟨fun h => strB_inj hD hM (str_ext h), fun h => by rw [h]⟩
  have hhd : D.head? = some x := by rw [← hx]; cases D <;> rfl
  have hb : x < 256 := hD x (List.mem_of_getElem? hx)
  have e0 : fitB D M = if 1 < D.length ∧ x = 48 then false else decide (D.length < M.length) || (decide (D.length = M.length) && (ltL D M || decide (D = M))) := by
    unfold fitB
    rw [hhd]
    simp only [Option.some.injEq]
  obtain ⟨F, hF⟩ : ∃ F, fitB D M = F := ⟨_, rfl⟩
  rw [hF]
  rw [hF] at e0
  have E0 := Lib.hid e0
  generalize ltL D M = r1 at hle E0
  generalize decide (D = M) = r2 at heq E0
  generalize D.length = dl at hs1 E0 h0 hl
  generalize M.length = ml at hs2 E0 hl
  generalize strB D = SD at *
  generalize strB M = SM at *
  clear hD hM hx hhd e0 hF
  by_cases c1 : 1 < dl
  · have i1 : (1 : Int) < (dl : Int) := by omega
    by_cases c2 : x = 48
    · have i2 : ((x : Int) == 48) = true := by rw [beq_iff_eq]; omega
      have HF : Hid (F = false) := Lib.hid (by rw [E0.out, if_pos ⟨c1, c2⟩])
      clear c1 c2 E0
      go_enter Try.func42, Try.ntmps42
      go_wp2
      go_ret
      exact ⟨by rw [HF.out]; rfl, rfl⟩
    · have i2 : ((x : Int) == 48) = false := beq_false_of_ne (by omega)
      have HF : Hid (F = (decide (dl < ml) || (decide (dl = ml) && (r1 || r2)))) := Lib.hid (by rw [E0.out, if_neg (fun h => c2 h.2)])
      clear c2 E0
      by_cases c3 : dl < ml
      · have i3 : (dl : Int) < (ml : Int) := by omega
        have HF2 : Hid (F = true) := Lib.hid (by rw [HF.out, decide_eq_true c3]; rfl)
        clear HF
        go_enter Try.func42, Try.ntmps42
        go_wp2
        go_ret
        exact ⟨by rw [HF2.out]; rfl, rfl⟩
      · have i3 : ¬ (dl : Int) < (ml : Int) := by omega
        by_cases c4 : dl = ml
        · have i4 : ((dl : Int) == (ml : Int)) = true := by rw [beq_iff_eq]; omega
          have HF2 : Hid (F = (r1 || r2)) := Lib.hid (by rw [HF.out, decide_eq_false c3, decide_eq_true c4]; rfl)
          clear HF c4
          go_enter Try.func42, Try.ntmps42
          go_wp2
          go_ret
          exact ⟨by rw [HF2.out]; rfl, rfl⟩
        · have i4 : ((dl : Int) == (ml : Int)) = false := beq_false_of_ne (by omega)
          have i5 : (dl == ml) = false := beq_false_of_ne c4
          have HF2 : Hid (F = false) := Lib.hid (by rw [HF.out, decide_eq_false c3, decide_eq_false c4]; rfl)
          clear HF c4
          go_enter Try.func42, Try.ntmps42
          go_wp2
          go_ret
          exact ⟨by rw [HF2.out]; rfl, rfl⟩
  · have i1 : ¬ (1 : Int) < (dl : Int) := by omega
    have HF : Hid (F = (decide (dl < ml) || (decide (dl = ml) && (r1 || r2)))) := Lib.hid (by rw [E0.out, if_neg (fun h => c1 h.1)])
    clear E0
    by_cases c3 : dl < ml
    · have i3 : (dl : Int) < (ml : Int) := by omega
      have HF2 : Hid (F = true) := Lib.hid (by rw [HF.out, decide_eq_true c3]; rfl)
      clear HF
      go_enter Try.func42, Try.ntmps42
      go_wp2
      go_ret
      exact ⟨by rw [HF2.out]; rfl, rfl⟩
    · have i3 : ¬ (dl : Int) < (ml : Int) := by omega
      by_cases c4 : dl = ml
      · have i4 : ((dl : Int) == (ml : Int)) = true := by rw [beq_iff_eq]; omega
        have HF2 : Hid (F = (r1 || r2)) := Lib.hid (by rw [HF.out, decide_eq_false c3, decide_eq_true c4]; rfl)
        clear HF c4
        go_enter Try.func42, Try.ntmps42
        go_wp2
        go_ret
        exact ⟨by rw [HF2.out]; rfl, rfl⟩
      · have i4 : ((dl : Int) == (ml : Int)) = false := beq_false_of_ne (by omega)
        have i5 : (dl == ml) = false := beq_false_of_ne c4
        have HF2 : Hid (F = false) := Lib.hid (by rw [HF.out, decide_eq_false c3, decide_eq_false c4]; rfl)
        clear HF c4
        go_enter Try.func42, Try.ntmps42
        go_wp2
        go_ret
        exact ⟨by rw [HF2.out]; rfl, rfl⟩
end Go.Proofs.Ytgmgpbplgiicoaa
