/- The greatest of floating-point numbers: plainly, and walked. -/
import Derived.Test.YticaheiomidanaaGF
namespace Go.Proofs.Yticaheiomidanaa
open Go.RowKit
/-- a word's place in the order of all, noughts apart -/
def ky (b : Nat) : Int := if sg b then -(rg b : Int) - 1 else (rg b : Int)
def up (x y : Nat) : Nat := if ky x < ky y then y else x
/-- the greatest, if none is none -/
def gr (l : List Nat) : Nat := l.foldl up ninf
def GrP (l : List Nat) (z : Nat) : Prop := if l.any isNB then isNB z = true else z = gr l

theorem sv_lt {x y : Nat} (h : sv x < sv y) : ky x < ky y := by
  have hx := @rv_lt_iff (rg x) (rg y)
  have hy := @rv_lt_iff (rg y) (rg x)
  unfold sv at h
  unfold ky
  cases hs : sg x <;> cases ht : sg y <;> simp only [hs, ht, if_true, if_false, Bool.false_eq_true] at h ⊢ <;> omega
theorem sv_le {x y : Nat} (h : ky x ≤ ky y) : sv x ≤ sv y := by
  by_cases h1 : sv y < sv x
  · have := sv_lt h1; omega
  · omega
theorem sv_same {x y : Nat} (h : sv x = sv y) : rg x = rg y ∧ (sg x = sg y ∨ rg x = 0) := by
  have h0 : ∀ r, rv r = 0 → r = 0 := fun r h => rv_inj (h.trans rv_zero.symm)
  unfold sv at h
  cases hs : sg x <;> cases ht : sg y <;> simp only [hs, ht, if_true, if_false, Bool.false_eq_true] at h ⊢
  · exact ⟨rv_inj (by omega), Or.inl trivial⟩
  · have a := h0 (rg x) (by omega); have b := h0 (rg y) (by omega); exact ⟨by omega, Or.inr a⟩
  · have a := h0 (rg x) (by omega); have b := h0 (rg y) (by omega); exact ⟨by omega, Or.inr a⟩
  · exact ⟨rv_inj (by omega), Or.inl trivial⟩
theorem word_eq {x y : Nat} (hx : x < 18446744073709551616) (hy : y < 18446744073709551616) (h1 : rg x = rg y) (h2 : sg x = sg y) : x = y := by
  unfold rg at h1
  unfold sg at h2
  have h3 : x / 9223372036854775808 % 2 = y / 9223372036854775808 % 2 := by
    have a := @Nat.mod_two_eq_zero_or_one (x / 9223372036854775808)
    have b := @Nat.mod_two_eq_zero_or_one (y / 9223372036854775808)
    rcases a with a | a <;> rcases b with b | b <;> rw [a, b] at h2 ⊢ <;> simp at h2
  omega
theorem ky_inj {x y : Nat} (hx : x < 18446744073709551616) (hy : y < 18446744073709551616) (h : ky x = ky y) : x = y := by
  unfold ky at h
  cases hs : sg x <;> cases ht : sg y <;> simp only [hs, ht, if_true, if_false, Bool.false_eq_true] at h
  · exact word_eq hx hy (by omega) (by rw [hs, ht])
  · omega
  · omega
  · exact word_eq hx hy (by omega) (by rw [hs, ht])
theorem ninf_ky (x : Nat) (hx : isNB x = false) : ky ninf ≤ ky x := by
  have := of_decide_eq_false hx
  have h1 : ky ninf = -9218868437227405312 - 1 := by decide
  rw [h1]
  unfold ky
  split <;> omega

/-- what max gives in a world, and how often it draws -/
def mv (x y : Nat) (w : World) : Nat := match fD.order x y with
  | none => (Question.nanMinMax .f64 true x y).cut (w.tape w.drawn (Question.nanMinMax .f64 true x y))
  | some .lt => y
  | some .gt => x
  | some .eq => if sg x then y else x
def mn (x y : Nat) : Nat := match fD.order x y with | none => 1 | _ => 0
theorem decode_neg {x : Nat} (hx : isNB x = false) : (FloatKind.f64.decode x).neg = sg x := by
  have h := of_decide_eq_false hx
  show (fD.read x).neg = sg x
  rcases Nat.lt_or_ge (rg x) 9218868437227405312 with h1 | h1
  · rw [read_fin h1]; rfl
  · rw [read_inf (by omega)]; rfl
theorem order_num {x y : Nat} {c : Ordering} (h : fD.order x y = some c) : isNB x = false ∧ isNB y = false := by
  constructor
  · cases hx : isNB x
    · rfl
    · rw [order_nan1 y hx] at h; cases h
  · cases hx : isNB y
    · rfl
    · rw [order_nan2 x hx] at h; cases h
theorem max2_F (x y : Nat) : Builtin.max2 (.float .f64 x) (.float .f64 y) = match fD.order x y with
  | none => do pure (.float .f64 (← choose (.nanMinMax .f64 true x y)))
  | some .lt => pure (.float .f64 y)
  | some .gt => pure (.float .f64 x)
  | some .eq => pure (.float .f64 (if (FloatKind.f64.decode x).neg then y else x)) := rfl
theorem run_maxF {P : Program} (w : World) (ts : Array TypeId) (t : TypeId) (x y : Nat) : (Builtin.max_ ts t #[.float .f64 x, .float .f64 y]).run P w = .ok (.float .f64 (mv x y w)) (w.drewN (mn x y)) := by
  have e : Builtin.max_ ts t #[.float .f64 x, .float .f64 y] = (Builtin.max2 (.float .f64 x) (.float .f64 y) >>= pure) := rfl
  rw [e]
  rw [max2_F]
  unfold mv mn
  cases h : fD.order x y with
  | none => simp [Question.forced]; rfl
  | some c =>
    cases c with
    | lt => rfl
    | gt => rfl
    | eq =>
      have := order_num h
      rw [decode_neg this.1]
      rfl

theorem mv_nan {x y : Nat} (h : isNB x = true ∨ isNB y = true) (w : World) : isNB (mv x y w) = true := by
  unfold mv
  have : fD.order x y = none := by rcases h with h | h; · exact order_nan1 y h
                                   · exact order_nan2 x h
  rw [this]
  exact nan_cut _
theorem mv_up {x y : Nat} (hx : isNB x = false) (hy : isNB y = false) (bx : x < 18446744073709551616) (b_y : y < 18446744073709551616) (w : World) : mv x y w = up x y := by
  unfold mv up
  rw [order_sv hx hy]
  rcases Int.lt_trichotomy (sv x) (sv y) with h | h | h
  · rw [cmp_lt.2 h, if_pos (sv_lt h)]
  · rw [cmp_eq.2 h]
    obtain ⟨h1, h2⟩ := sv_same h
    show (if sg x then y else x) = _
    unfold ky
    cases hs : sg x <;> cases ht : sg y <;> simp only [if_true, if_false, Bool.false_eq_true]
    · rw [if_neg (by omega)]
    · rw [if_neg (by omega)]
    · rcases h2 with h2 | h2
      · rw [hs, ht] at h2; cases h2
      · rw [if_pos (by omega)]
    · rw [if_neg (by omega)]; exact (word_eq bx b_y h1 (by rw [hs, ht])).symm
  · rw [cmp_gt.2 h, if_neg (show ¬ ky x < ky y by have := sv_lt h; omega)]

theorem up_small {x y : Nat} (hx : x < 18446744073709551616) (hy : y < 18446744073709551616) : up x y < 18446744073709551616 := by unfold up; split <;> assumption
theorem up_num {x y : Nat} (hx : isNB x = false) (hy : isNB y = false) : isNB (up x y) = false := by unfold up; split <;> assumption
theorem up_ky (x y : Nat) : ky x ≤ ky (up x y) ∧ ky y ≤ ky (up x y) := by unfold up; split <;> omega

theorem gr_snoc (l : List Nat) (x : Nat) : gr (l ++ [x]) = up (gr l) x := by unfold gr; rw [List.foldl_append]; rfl
theorem snoc_ind {α : Type} {p : List α → Prop} (h0 : p []) (h1 : ∀ l x, p l → p (l ++ [x])) (l : List α) : p l := by
  rw [← List.reverse_reverse l]
  induction l.reverse with
  | nil => exact h0
  | cons x m ih => rw [List.reverse_cons]; exact h1 _ _ ih
theorem gr_all (l : List Nat) (hl : ∀ x ∈ l, x < 18446744073709551616) (hn : l.any isNB = false) :
    gr l < 18446744073709551616 ∧ isNB (gr l) = false ∧ (∀ x ∈ l, ky x ≤ ky (gr l)) ∧ (gr l = ninf ∨ gr l ∈ l) := by
  revert hl hn
  refine snoc_ind (p := fun l => (∀ x ∈ l, x < 18446744073709551616) → l.any isNB = false → gr l < 18446744073709551616 ∧ isNB (gr l) = false ∧ (∀ x ∈ l, ky x ≤ ky (gr l)) ∧ (gr l = ninf ∨ gr l ∈ l)) ?_ ?_ l
  · exact fun _ _ => ⟨by decide, by decide, by simp, Or.inl rfl⟩
  · intro l x ih hl hn
    rw [List.any_append, Bool.or_eq_false_iff] at hn
    obtain ⟨h1, h2, h3, h4⟩ := ih (fun y hy => hl y (by simp [hy])) hn.1
    have hx : isNB x = false := by simpa using hn.2
    have bx := hl x (by simp)
    rw [gr_snoc]
    refine ⟨up_small h1 bx, up_num h2 hx, ?_, ?_⟩
    · intro y hy
      rcases List.mem_append.1 hy with hy | hy
      · exact Int.le_trans (h3 y hy) (up_ky _ _).1
      · rw [List.mem_singleton] at hy; subst hy; exact (up_ky _ _).2
    · unfold up
      split
      · exact Or.inr (by simp)
      · rcases h4 with h4 | h4
        · exact Or.inl h4
        · exact Or.inr (by simp [h4])

/-- it is one of them -/
theorem gr_mem {l : List Nat} (hl : ∀ x ∈ l, x < 18446744073709551616) (hn : l.any isNB = false) (h0 : l ≠ []) : gr l ∈ l := by
  obtain ⟨h1, h2, h3, h4⟩ := gr_all l hl hn
  rcases h4 with h4 | h4
  · obtain ⟨x, m, rfl⟩ := List.exists_cons_of_ne_nil h0
    have hx := h3 x (by simp)
    have hxn : isNB x = false := by rw [List.any_cons, Bool.or_eq_false_iff] at hn; exact hn.1
    have := ninf_ky x hxn
    rw [h4] at hx
    have e : x = ninf := ky_inj (hl x (by simp)) (by decide) (by omega)
    rw [h4, ← e]; simp
  · exact h4

theorem GrP.nil : GrP [] ninf := rfl
theorem GrP.snoc {l : List Nat} {z x : Nat} (h : GrP l z) (hl : ∀ x ∈ l, x < 18446744073709551616) (bx : x < 18446744073709551616) (w : World) : GrP (l ++ [x]) (mv z x w) := by
  unfold GrP at h ⊢
  rw [List.any_append]
  cases hn : l.any isNB
  · rw [hn] at h
    simp only [Bool.false_eq_true, if_false] at h
    subst h
    obtain ⟨h1, h2, _, _⟩ := gr_all l hl hn
    cases hx : isNB x
    · simp [hx]
      rw [mv_up h2 hx h1 bx, gr_snoc]
    · simp [hx]
      exact mv_nan (Or.inr hx) w
  · rw [hn] at h
    simp only [if_true] at h
    simp only [Bool.true_or, if_true]
    exact mv_nan (Or.inl h) w
theorem GrP.num {l : List Nat} {z : Nat} (h : GrP l z) (hn : l.any isNB = false) : z = gr l := by unfold GrP at h; rw [hn] at h; exact h
theorem GrP.nan {l : List Nat} {z : Nat} (h : GrP l z) (hn : l.any isNB = true) : isNB z = true := by unfold GrP at h; rw [hn] at h; exact h

/-- floating-point numbers lie in a row -/
def FCells (w : World) (b o : Nat) (l : List Nat) : Prop :=
  ∀ (i : Nat) (x : Nat), l[i]? = some x → w.cell? ⟨b, o + i, none⟩ = some (.float .f64 x) ∧ x < 18446744073709551616
theorem FCells.stays {w wr : World} {b o B : Nat} {l : List Nat} (h : FCells w b o l) (hb : Below B w wr) (hB : 0 < l.length → b < B) : FCells wr b o l := by
  intro i x hx
  have hl : 0 < l.length := by have := (List.getElem?_eq_some_iff.1 hx).1; omega
  obtain ⟨h1, h3⟩ := h i x hx
  exact ⟨(hb.cell (p := ⟨b, _, none⟩) (hB hl)).trans h1, h3⟩

theorem run_frombits (w : World) : (callFunc 39 #[.int .u64 18442240474082181120]).run Try.prog w = .ok (.value (.float .f64 ninf)) w := by
  rw [run_callFunc_extern Try.func39 (by kernel_rfl) (by kernel_rfl) (by kernel_rfl) (e := Extern.MathFloatBits.float64frombits) (by kernel_rfl)]
  rfl
theorem inf_any (w : World) : Calls Try.prog 33 #[.int .i64 (-1)] w fun e w' => e = .returned (.float .f64 ninf) ∧ w = w' := by
  have hfb := run_frombits
  go_enter Try.func33, Try.ntmps33
  go_wp2
  go_ret
  exact ⟨rfl, rfl⟩

theorem greatest_any (ao : Option Addr) (b o c : Nat) (l : List Nat) (w : World) (hl : l.length ≤ 9223372036854775807) (ha : 0 < l.length → ao = some ⟨b, o, none⟩) (hc : FCells w b o l) :
    Calls Try.prog 22 #[.slice ao l.length c] w fun e w' => ∃ z k, e = .returned (.float .f64 z) ∧ GrP l z ∧ w' = w.drewN k := by
  have HC := Lib.hid hc
  have HA := Lib.hid ha
  have HS : Hid (∀ x ∈ l, x < 18446744073709551616) := Lib.hid (fun x hx => by obtain ⟨i, hi⟩ := List.mem_iff_getElem?.1 hx; exact (hc i x hi).2)
  clear hc ha
  have HI := Lib.hid inf_any
  go_enter Try.func22, Try.ntmps22
  go_wp2_with fail
  refine (HI.out _).mono ?_
  rintro e w' ⟨rfl, rfl⟩
  go_wp2
  go_loopw [3, 9] (fun s k wr => ∃ (j z n : Nat), j ≤ l.length ∧ k = .int .i64 j ∧ s = .float .f64 z ∧ Hid (GrP (l.take j) z) ∧ wr = w.drewN n) (fun _ k _ => l.length - (intOf k).toNat)
  case atStart => exact ⟨0, ninf, 0, Nat.zero_le _, rfl, rfl, Lib.hid GrP.nil, rfl⟩
  case round =>
    obtain ⟨j, z, n, hj, rfl, rfl, hz, rfl⟩ := hrel
    by_cases hlt : j < l.length
    · obtain rfl := HA.out (by omega)
      obtain ⟨x, hx⟩ : ∃ x, l[j]? = some x := ⟨l[j], List.getElem?_eq_getElem (by omega)⟩
      obtain ⟨c1, hb⟩ := HC.out j _ hx
      have HX := Lib.hid hx
      have HB := Lib.hid hb
      clear hx hb
      have hm := fun v ts t => run_maxF (P := Try.prog) v ts t z x
      go_wp2
      go_roundw
      case rel => exact ⟨j + 1, _, _, by omega, by go_num, rfl, Lib.hid (by rw [take_snoc HX.out]; exact hz.out.snoc (fun y hy => HS.out y (List.mem_of_mem_take hy)) HB.out _), rfl⟩
      case measure => simp [intOf]; omega
    · have : j = l.length := by omega
      subst this
      go_wp2
      go_ret
      exact ⟨_, _, rfl, by have := hz.out; rwa [List.take_length] at this, rfl⟩
end Go.Proofs.Yticaheiomidanaa
