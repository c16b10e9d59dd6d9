/- Apply. -/
import Derived.Test.YtlcnhmijagddgaaSH
namespace Go.Proofs.Ytlcnhmijagddgaa
open Go.ChangeShapes Go.WideShapes Go.ChangeAt Go.RowKit
set_option linter.unusedVariables false
set_option linter.unusedSimpArgs false

def sqAp (t k : Int) (l : List Nat) (a : Nat) : List Nat × Nat × Nat :=
  if sqRight t l = true then (if 0 ≤ k ∧ k < (sqN t.toNat : Int) then sqDo t.toNat k.toNat l a else (l, 0, 9)) else (l, 0, 1)
theorem sqDo_err (t k : Nat) (l : List Nat) (a : Nat) : (sqDo t k l a).2.2 = 0 ∨ sqDo t k l a = (l, 0, (sqDo t k l a).2.2) := by
  unfold sqDo
  split <;> (try split) <;> (try split) <;> first | exact .inl rfl | exact .inr rfl
theorem sqDo_err_lt (t k : Nat) (l : List Nat) (a : Nat) : (sqDo t k l a).2.2 ≤ 10 := by
  unfold sqDo
  split <;> (try split) <;> (try split) <;> simp

def ansO : Obj := .cells #[.int .i64 0, .int .u64 0, .slice none 0 0] 32
/-- a world behind w, in which the answer's cell lies right above what there was -/
structure Fr (w wx : World) : Prop where
  ans : wx.heap[w.heap.size]? = some ansO
  bel : Below w.heap.size w wx
theorem Fr.init (w : World) : Fr w (w.alloc ansO) := ⟨heap_alloc_new _ _, (Below.refl _ _).alloc (Nat.le_refl _) _⟩
theorem Fr.lt {w wx : World} (h : Fr w wx) : w.heap.size < wx.heap.size := blk_lt h.ans
theorem Fr.step {w wx wy : World} (h : Fr w wx) (hb : Below wx.heap.size wx wy) : Fr w wy := ⟨(hb.block _ h.lt).trans h.ans, h.bel.trans (hb.mono (by have := h.lt; omega))⟩
theorem Fr.step' {w wx wy : World} {B : Nat} (h : Fr w wx) (hb : Below B wx wy) (hB : w.heap.size < B) : Fr w wy := ⟨(hb.block _ hB).trans h.ans, h.bel.trans (hb.mono (by omega))⟩
theorem Fr.alloc {w wx : World} (h : Fr w wx) (o : Obj) : Fr w (wx.alloc o) := ⟨(Below.heap_alloc wx o _ h.lt).trans h.ans, h.bel.alloc (by have := h.lt; omega) o⟩
theorem Fr.cells {w wx : World} (h : Fr w wx) : wx.cell? ⟨w.heap.size, 0, none⟩ = some (.int .i64 0) ∧ wx.cell? ⟨w.heap.size, 1, none⟩ = some (.int .u64 0) ∧ wx.cell? ⟨w.heap.size, 2, none⟩ = some (.slice none 0 0) :=
  ⟨cell_of_blk h.ans rfl, cell_of_blk h.ans rfl, cell_of_blk h.ans rfl⟩
theorem Fr.free {w wx : World} (h : Fr w wx) (k : Nat) : wx.frozen? ⟨w.heap.size, k, none⟩ = false := free_of_blk h.ans
theorem Fr.own {w wx : World} (h : Fr w wx) {v : Value} {l : List Nat} {B : Nat} (ho : OwnW wx B v l) (hB : w.heap.size < B) (a b c : Value) : OwnW (((wx.setCell ⟨w.heap.size, 0, none⟩ a).setCell ⟨w.heap.size, 1, none⟩ b).setCell ⟨w.heap.size, 2, none⟩ c) w.heap.size v l :=
  (((ho.other _ (ho.lt (a := ⟨w.heap.size, 0, none⟩) hB)).other _ (ho.lt (a := ⟨w.heap.size, 1, none⟩) hB)).other _ (ho.lt (a := ⟨w.heap.size, 2, none⟩) hB)).mono (by omega)
theorem Fr.put {w wx : World} (h : Fr w wx) (a b c : Value) : Below w.heap.size w (((wx.setCell ⟨w.heap.size, 0, none⟩ a).setCell ⟨w.heap.size, 1, none⟩ b).setCell ⟨w.heap.size, 2, none⟩ c) :=
  ((h.bel.setCell (p := ⟨w.heap.size, 0, none⟩) (Nat.le_refl _) _).setCell (p := ⟨w.heap.size, 1, none⟩) (Nat.le_refl _) _).setCell (p := ⟨w.heap.size, 2, none⟩) (Nat.le_refl _) _

set_option maxHeartbeats 1000000 in
theorem apply_none (t k : Int) (v : Value) (l : List Nat) (a : Nat) (w : World) (hA : ArgW w v l) (hl : l.length ≤ 4294967296) (ht : ¬ (0 ≤ t ∧ t ≤ 7)) :
    Calls Try.prog 14 #[.int .i64 t, v, .int .i64 k, .int .u64 (a : Int)] w (ApP w (l, 0, 1)) := by
  have HA : Hid (ArgW (w.alloc ansO) v l) := Lib.hid (hA.alloc _)
  have HRF : Hid (∀ k W, ArgW W v l → Calls Try.prog 19 #[v, .int .i64 ((k : Nat) : Int)] W (ApP W (l, 0, k))) := Lib.hid (fun k W h => refuse_any v l k W h hl)
  have HF := Lib.hid (fun w => find_none t w ht)
  clear ht hA hl
  go_enter Try.func14, Try.ntmps14
  go_wp2_with (first
    | (go_at_call 16; refine (HF.out _).mono ?_; rintro e w5 ⟨rfl, hb⟩; (have HF5 := Lib.hid (((Fr.init w).step hb).alloc (.cells #[.int .i64 0, .int .i64 0, .nilFunc, .nilFunc, .nilFunc] 43))); (have HA5 : Hid (ArgW (w5.alloc (.cells #[.int .i64 0, .int .i64 0, .nilFunc, .nilFunc, .nilFunc] 43)) v l) := Lib.hid (ArgW.alloc (HA.out.below hb) _)); clear hb)
    | (go_at_call 19; refine (HRF.out 1 _ HA5.out).mono ?_; rintro e w7 ⟨v7, rfl, ho, hb⟩; (have HF7 := Lib.hid (HF5.out.step hb)); (have HO7 := Lib.hid ho); (have hlt := HF5.out.lt); (obtain ⟨k0, k1, k2⟩ := HF7.out.cells); (have z0 := HF7.out.free 0); (have z1 := HF7.out.free 1); (have z2 := HF7.out.free 2); clear hb ho))
  refine bodyPost_ret (v := .tuple #[v7, .agg #[.int .i64 1, .int .u64 0, .slice none 0 0]]) (by simp [results, Try.results14, go_sem, k0, k1, k2]) rfl ⟨_, rfl, HF7.out.own HO7.out hlt _ _ _, HF7.out.put _ _ _⟩

set_option maxHeartbeats 1000000 in
theorem apply2_wrong (n : Nat) (k : Int) (v : Value) (l : List Nat) (a : Nat) (w : World) (hA : ArgW w v l) (hl : l.length ≤ 4294967296) (hn : n ≤ 7) (hN : sqN n = 2) (hr : (decide (sqLo n ≤ l.length) && decide (l.length ≤ sqHi n)) = false) :
    Calls Try.prog 14 #[.int .i64 (n : Int), v, .int .i64 k, .int .u64 (a : Int)] w (ApP w (l, 0, 1)) := by
  have HA : Hid (ArgW (w.alloc ansO) v l) := Lib.hid (hA.alloc _)
  have HRF : Hid (∀ k W, ArgW W v l → Calls Try.prog 19 #[v, .int .i64 ((k : Nat) : Int)] W (ApP W (l, 0, k))) := Lib.hid (fun k W h => refuse_any v l k W h hl)
  have HF := Lib.hid (fun w => find2_any n hn hN w)
  have HR := Lib.hid (fun lo hi f0 f1 f2 W (h : ArgW W v l) => right_any lo hi f0 f1 f2 v l W h (Nat.le_trans hl (by decide)))
  unfold Find2 at HF
  generalize sqLo n = lo at *
  generalize sqHi n = hi at *
  replace HR := Lib.hid (HR.out lo hi)
  rw [hr] at HR
  clear hr hA hl
  go_enter Try.func14, Try.ntmps14
  go_wp2_with (first
    | (go_at_call 16; refine (HF.out _).mono ?_; rintro e w5 ⟨g0, e0, g1, e1, rfl, hk0, hk1, hb⟩; (have HF5 := Lib.hid ((Fr.init w).step hb)); (have HA5 : Hid (ArgW (w5.alloc (Obj.cells #[Value.int .i64 (lo : Int), .int .i64 (hi : Int), .func (.func g0) #[] e0.toArray, .func (.func g1) #[] e1.toArray, .nilFunc] 43)) v l) := Lib.hid (ArgW.alloc (HA.out.below hb) _)); (have HK0 := Lib.hid hk0); (have HK1 := Lib.hid hk1); clear hb hk0 hk1)
    | (go_at_call 18; refine (HR.out _ _ _ _ HA5.out).mono ?_; rintro e w6 ⟨rfl, hb⟩; (have hs6 : w6.heap[w5.heap.size]? = some (Obj.cells #[Value.int .i64 (lo : Int), .int .i64 (hi : Int), .func (.func g0) #[] e0.toArray, .func (.func g1) #[] e1.toArray, .nilFunc] 43) := (hb.block _ (by simp)).trans (heap_alloc_new _ _)); (have c0 := cell_of_blk (k := 0) hs6 rfl); (have c1 := cell_of_blk (k := 1) hs6 rfl); (have c2 := cell_of_blk (k := 2) hs6 rfl); (have c3 := cell_of_blk (k := 3) hs6 rfl); (have c4 := cell_of_blk (k := 4) hs6 rfl); (have HF6 := Lib.hid ((HF5.out.alloc (Obj.cells #[Value.int .i64 (lo : Int), .int .i64 (hi : Int), .func (.func g0) #[] e0.toArray, .func (.func g1) #[] e1.toArray, .nilFunc] 43)).step hb)); (have HB56 : Hid (Below w5.heap.size w5 w6) := Lib.hid (((Below.refl _ _).alloc (Nat.le_refl _) _).trans (hb.mono (by simp)))); (have HA6 := Lib.hid (HA5.out.below hb)); clear hb hs6)
    | (go_at_call 19; refine (HRF.out 1 _ HA6.out).mono ?_; rintro e w7 ⟨v7, rfl, ho, hb⟩; (have HF7 := Lib.hid (HF6.out.step hb)); (have HO7 := Lib.hid ho); (have hlt := HF6.out.lt); (obtain ⟨k0, k1, k2⟩ := HF7.out.cells); (have z0 := HF7.out.free 0); (have z1 := HF7.out.free 1); (have z2 := HF7.out.free 2); clear hb ho))
  refine bodyPost_ret (v := .tuple #[v7, .agg #[.int .i64 1, .int .u64 0, .slice none 0 0]]) (by simp [results, Try.results14, go_sem, k0, k1, k2]) rfl ⟨_, rfl, HF7.out.own HO7.out hlt _ _ _, HF7.out.put _ _ _⟩

set_option maxHeartbeats 1000000 in
theorem apply2_kind (n : Nat) (k : Int) (v : Value) (l : List Nat) (a : Nat) (w : World) (hA : ArgW w v l) (hl : l.length ≤ 4294967296) (hn : n ≤ 7) (hN : sqN n = 2) (hr : (decide (sqLo n ≤ l.length) && decide (l.length ≤ sqHi n)) = true) (hk : ¬ (0 ≤ k ∧ k < 2)) :
    Calls Try.prog 14 #[.int .i64 (n : Int), v, .int .i64 k, .int .u64 (a : Int)] w (ApP w (l, 0, 9)) := by
  have HA : Hid (ArgW (w.alloc ansO) v l) := Lib.hid (hA.alloc _)
  have HRF : Hid (∀ k W, ArgW W v l → Calls Try.prog 19 #[v, .int .i64 ((k : Nat) : Int)] W (ApP W (l, 0, k))) := Lib.hid (fun k W h => refuse_any v l k W h hl)
  have HF := Lib.hid (fun w => find2_any n hn hN w)
  have HR := Lib.hid (fun lo hi f0 f1 f2 W (h : ArgW W v l) => right_any lo hi f0 f1 f2 v l W h (Nat.le_trans hl (by decide)))
  unfold Find2 at HF
  have qF := run_eql_func
  have qN := run_eql_nilF
  have HE : Hid (∀ (lo hi : Int) (f0 f1 : Value) (_f2 : Value) W, Calls Try.prog 20 #[.agg #[.int .i64 lo, .int .i64 hi, f0, f1, .nilFunc], .int .i64 k] W fun e w' => e = .returned .nilFunc ∧ Below W.heap.size W w') := Lib.hid (fun lo hi f0 f1 f2 W => effect_any .nilFunc lo hi f0 f1 .nilFunc k W (by by_cases h2 : k = 2; exact .inr (.inr (.inl ⟨h2, rfl⟩)); exact .inr (.inr (.inr ⟨by omega, rfl⟩))))
  generalize sqLo n = lo at *
  generalize sqHi n = hi at *
  replace HR := Lib.hid (HR.out lo hi)
  rw [hr] at HR
  clear hr hA hl hk
  go_enter Try.func14, Try.ntmps14
  go_wp2_with (first
    | (go_at_call 16; refine (HF.out _).mono ?_; rintro e w5 ⟨g0, e0, g1, e1, rfl, hk0, hk1, hb⟩; (have HF5 := Lib.hid ((Fr.init w).step hb)); (have HA5 : Hid (ArgW (w5.alloc (Obj.cells #[Value.int .i64 (lo : Int), .int .i64 (hi : Int), .func (.func g0) #[] e0.toArray, .func (.func g1) #[] e1.toArray, .nilFunc] 43)) v l) := Lib.hid (ArgW.alloc (HA.out.below hb) _)); (have HK0 := Lib.hid hk0); (have HK1 := Lib.hid hk1); clear hb hk0 hk1)
    | (go_at_call 18; refine (HR.out _ _ _ _ HA5.out).mono ?_; rintro e w6 ⟨rfl, hb⟩; (have hs6 : w6.heap[w5.heap.size]? = some (Obj.cells #[Value.int .i64 (lo : Int), .int .i64 (hi : Int), .func (.func g0) #[] e0.toArray, .func (.func g1) #[] e1.toArray, .nilFunc] 43) := (hb.block _ (by simp)).trans (heap_alloc_new _ _)); (have c0 := cell_of_blk (k := 0) hs6 rfl); (have c1 := cell_of_blk (k := 1) hs6 rfl); (have c2 := cell_of_blk (k := 2) hs6 rfl); (have c3 := cell_of_blk (k := 3) hs6 rfl); (have c4 := cell_of_blk (k := 4) hs6 rfl); (have HF6 := Lib.hid ((HF5.out.alloc (Obj.cells #[Value.int .i64 (lo : Int), .int .i64 (hi : Int), .func (.func g0) #[] e0.toArray, .func (.func g1) #[] e1.toArray, .nilFunc] 43)).step hb)); (have HB56 : Hid (Below w5.heap.size w5 w6) := Lib.hid (((Below.refl _ _).alloc (Nat.le_refl _) _).trans (hb.mono (by simp)))); (have HA6 := Lib.hid (HA5.out.below hb)); clear hb hs6)
    | (go_at_call 20; refine (HE.out _ _ _ _ .nilFunc _).mono ?_; rintro e w8 ⟨rfl, hb⟩; (have HF8 := Lib.hid (HF6.out.step hb)); (have HA8 := Lib.hid (HA6.out.below hb)); clear hb)
    | (go_at_call 19; refine (HRF.out 9 _ HA8.out).mono ?_; rintro e w7 ⟨v7, rfl, ho, hb⟩; (have HF7 := Lib.hid (HF8.out.step hb)); (have HO7 := Lib.hid ho); (have hlt := HF8.out.lt); (obtain ⟨k0, k1, k2⟩ := HF7.out.cells); (have z0 := HF7.out.free 0); (have z1 := HF7.out.free 1); (have z2 := HF7.out.free 2); clear hb ho))
  refine bodyPost_ret (v := .tuple #[v7, .agg #[.int .i64 9, .int .u64 0, .slice none 0 0]]) (by simp [results, Try.results14, go_sem, k0, k1, k2]) rfl ⟨_, rfl, HF7.out.own HO7.out hlt _ _ _, HF7.out.put _ _ _⟩

set_option maxHeartbeats 1000000 in
theorem apply2_0 (n : Nat) (v : Value) (l : List Nat) (a : Nat) (w : World) (hA : ArgW w v l) (hl : l.length ≤ 4294967296) (hn : n ≤ 7) (hN : sqN n = 2) (hr : (decide (sqLo n ≤ l.length) && decide (l.length ≤ sqHi n)) = true) (hx : ∀ x ∈ l, x < 18446744073709551616) (ha : a < 18446744073709551616) :
    Calls Try.prog 14 #[.int .i64 (n : Int), v, .int .i64 0, .int .u64 (a : Int)] w (ApP w (sqDo n 0 l a)) := by
  have HA : Hid (ArgW (w.alloc ansO) v l) := Lib.hid (hA.alloc _)
  have HRF : Hid (∀ k W, ArgW W v l → Calls Try.prog 19 #[v, .int .i64 ((k : Nat) : Int)] W (ApP W (l, 0, k))) := Lib.hid (fun k W h => refuse_any v l k W h hl)
  have HF := Lib.hid (fun w => find2_any n hn hN w)
  have HR := Lib.hid (fun lo hi f0 f1 f2 W (h : ArgW W v l) => right_any lo hi f0 f1 f2 v l W h (Nat.le_trans hl (by decide)))
  unfold Find2 at HF
  have qF := run_eql_func
  have qN := run_eql_nilF
  have HCL : Hid (∀ W, ArgW W v l → Calls Try.prog 21 #[v] W (GivesW l W)) := Lib.hid (fun W h => clone_own v l W h hl)
  have HOK : Hid (sqOk n l.length) := Lib.hid (by simpa [sqOk] using hr)
  have HX := Lib.hid hx
  generalize sqLo n = lo at *
  generalize sqHi n = hi at *
  replace HR := Lib.hid (HR.out lo hi)
  rw [hr] at HR
  have hE := sqDo_err n 0 l a
  have hE2 := sqDo_err_lt n 0 l a
  obtain ⟨l', val, er, hD⟩ : ∃ l' val er, sqDo n 0 l a = (l', val, er) := ⟨_, _, _, rfl⟩
  rw [hD] at hE hE2 ⊢
  have HD := Lib.hid hD
  dsimp only at hE hE2
  clear hr hA hl hx hD
  by_cases he : er = 0
  · subst he
    clear hE hE2
    go_enter Try.func14, Try.ntmps14
    go_wp2_with (first
    | (go_at_call 16; refine (HF.out _).mono ?_; rintro e w5 ⟨g0, e0, g1, e1, rfl, hk0, hk1, hb⟩; (have HF5 := Lib.hid ((Fr.init w).step hb)); (have HA5 : Hid (ArgW (w5.alloc (Obj.cells #[Value.int .i64 (lo : Int), .int .i64 (hi : Int), .func (.func g0) #[] e0.toArray, .func (.func g1) #[] e1.toArray, .nilFunc] 43)) v l) := Lib.hid (ArgW.alloc (HA.out.below hb) _)); (have hen := hk0.1); (have HK0 := Lib.hid hk0); (have HK1 := Lib.hid hk1); clear hb hk0 hk1)
    | (go_at_call 18; refine (HR.out _ _ _ _ HA5.out).mono ?_; rintro e w6 ⟨rfl, hb⟩; (have hs6 : w6.heap[w5.heap.size]? = some (Obj.cells #[Value.int .i64 (lo : Int), .int .i64 (hi : Int), .func (.func g0) #[] e0.toArray, .func (.func g1) #[] e1.toArray, .nilFunc] 43) := (hb.block _ (by simp)).trans (heap_alloc_new _ _)); (have c0 := cell_of_blk (k := 0) hs6 rfl); (have c1 := cell_of_blk (k := 1) hs6 rfl); (have c2 := cell_of_blk (k := 2) hs6 rfl); (have c3 := cell_of_blk (k := 3) hs6 rfl); (have c4 := cell_of_blk (k := 4) hs6 rfl); (have HF6 := Lib.hid ((HF5.out.alloc (Obj.cells #[Value.int .i64 (lo : Int), .int .i64 (hi : Int), .func (.func g0) #[] e0.toArray, .func (.func g1) #[] e1.toArray, .nilFunc] 43)).step hb)); (have HB56 : Hid (Below w5.heap.size w5 w6) := Lib.hid (((Below.refl _ _).alloc (Nat.le_refl _) _).trans (hb.mono (by simp)))); (have HA6 := Lib.hid (HA5.out.below hb)); clear hb hs6)
    | (go_at_call 20; refine (effect_any (.func (.func g0) #[] e0.toArray) lo hi (.func (.func g0) #[] e0.toArray) (.func (.func g1) #[] e1.toArray) (.nilFunc) 0 _ (.inl ⟨rfl, rfl⟩)).mono ?_; rintro e w8 ⟨rfl, hb⟩; (have HF8 := Lib.hid (HF6.out.step hb)); (have HA8 := Lib.hid (HA6.out.below hb)); (have HB58 : Hid (Below w5.heap.size w5 w8) := Lib.hid (HB56.out.trans (hb.mono HB56.out.size))); clear hb)
    | (go_at_call 21; refine (HCL.out _ HA8.out).mono ?_; rintro e w9 ⟨v9, rfl, ho, hb⟩; (have HF9 := Lib.hid (HF8.out.step hb)); (have HA9 := Lib.hid (HA8.out.below hb)); (have HO9 := Lib.hid ho); (have HB59 : Hid (Below w5.heap.size w5 w9) := Lib.hid (HB58.out.trans (hb.mono HB58.out.size))); (have HC : Hid (Calls Try.prog g0 (v9 :: .int .u64 (a : Int) :: e0).toArray w9 (EffP w8.heap.size w9 (l', val, 0))) := Lib.hid (by rw [← HD.out]; exact HK0.out.2 w9 w8.heap.size v9 l a HB59.out HB58.out.size hb.size ho HOK.out HX.out ha)); (have hlt8 := HF8.out.lt); (have HB89 := Lib.hid hb); (have hsz := hb.size); clear hb ho)
    | (refine HC.out.mono ?_; rintro e wz ⟨vz, rfl, ho, hb⟩; (have HF7 := Lib.hid (HF9.out.step' hb hlt8)); (have HO7 := Lib.hid ho); (obtain ⟨k0, k1, k2⟩ := HF7.out.cells); (have z0 := HF7.out.free 0); (have z1 := HF7.out.free 1); (have z2 := HF7.out.free 2); clear hb ho))
    refine bodyPost_ret (v := .tuple #[vz, .agg #[.int .i64 0, .int .u64 (val : Int), .slice none 0 0]]) (by simp [results, Try.results14, go_sem, k0, k1, k2]) rfl ⟨_, rfl, HF7.out.own HO7.out hlt8 _ _ _, HF7.out.put _ _ _⟩
  · obtain ⟨rfl, rfl⟩ : l = l' ∧ 0 = val := by
      rcases hE with h | h
      · exact absurd h he
      · simp at h; exact ⟨h.1.symm, h.2.symm⟩
    clear hE
    go_enter Try.func14, Try.ntmps14
    go_wp2_with (first
    | (go_at_call 16; refine (HF.out _).mono ?_; rintro e w5 ⟨g0, e0, g1, e1, rfl, hk0, hk1, hb⟩; (have HF5 := Lib.hid ((Fr.init w).step hb)); (have HA5 : Hid (ArgW (w5.alloc (Obj.cells #[Value.int .i64 (lo : Int), .int .i64 (hi : Int), .func (.func g0) #[] e0.toArray, .func (.func g1) #[] e1.toArray, .nilFunc] 43)) v l) := Lib.hid (ArgW.alloc (HA.out.below hb) _)); (have hen := hk0.1); (have HK0 := Lib.hid hk0); (have HK1 := Lib.hid hk1); clear hb hk0 hk1)
    | (go_at_call 18; refine (HR.out _ _ _ _ HA5.out).mono ?_; rintro e w6 ⟨rfl, hb⟩; (have hs6 : w6.heap[w5.heap.size]? = some (Obj.cells #[Value.int .i64 (lo : Int), .int .i64 (hi : Int), .func (.func g0) #[] e0.toArray, .func (.func g1) #[] e1.toArray, .nilFunc] 43) := (hb.block _ (by simp)).trans (heap_alloc_new _ _)); (have c0 := cell_of_blk (k := 0) hs6 rfl); (have c1 := cell_of_blk (k := 1) hs6 rfl); (have c2 := cell_of_blk (k := 2) hs6 rfl); (have c3 := cell_of_blk (k := 3) hs6 rfl); (have c4 := cell_of_blk (k := 4) hs6 rfl); (have HF6 := Lib.hid ((HF5.out.alloc (Obj.cells #[Value.int .i64 (lo : Int), .int .i64 (hi : Int), .func (.func g0) #[] e0.toArray, .func (.func g1) #[] e1.toArray, .nilFunc] 43)).step hb)); (have HB56 : Hid (Below w5.heap.size w5 w6) := Lib.hid (((Below.refl _ _).alloc (Nat.le_refl _) _).trans (hb.mono (by simp)))); (have HA6 := Lib.hid (HA5.out.below hb)); clear hb hs6)
    | (go_at_call 20; refine (effect_any (.func (.func g0) #[] e0.toArray) lo hi (.func (.func g0) #[] e0.toArray) (.func (.func g1) #[] e1.toArray) (.nilFunc) 0 _ (.inl ⟨rfl, rfl⟩)).mono ?_; rintro e w8 ⟨rfl, hb⟩; (have HF8 := Lib.hid (HF6.out.step hb)); (have HA8 := Lib.hid (HA6.out.below hb)); (have HB58 : Hid (Below w5.heap.size w5 w8) := Lib.hid (HB56.out.trans (hb.mono HB56.out.size))); clear hb)
    | (go_at_call 21; refine (HCL.out _ HA8.out).mono ?_; rintro e w9 ⟨v9, rfl, ho, hb⟩; (have HF9 := Lib.hid (HF8.out.step hb)); (have HA9 := Lib.hid (HA8.out.below hb)); (have HO9 := Lib.hid ho); (have HB59 : Hid (Below w5.heap.size w5 w9) := Lib.hid (HB58.out.trans (hb.mono HB58.out.size))); (have HC : Hid (Calls Try.prog g0 (v9 :: .int .u64 (a : Int) :: e0).toArray w9 (EffP w8.heap.size w9 (l, 0, er))) := Lib.hid (by rw [← HD.out]; exact HK0.out.2 w9 w8.heap.size v9 l a HB59.out HB58.out.size hb.size ho HOK.out HX.out ha)); (have hlt8 := HF8.out.lt); (have HB89 := Lib.hid hb); (have hsz := hb.size); clear hb ho)
    | (refine HC.out.mono ?_; rintro e wz ⟨vz, rfl, ho, hb⟩; (have HFz := Lib.hid (HF9.out.step' hb hlt8)); (have HAz := Lib.hid (HA8.out.keep (fun b hb2 => (hb.block b hb2).trans (HB89.out.block b hb2)))); clear hb ho)
    | (go_at_call 19; refine (HRF.out er _ HAz.out).mono ?_; rintro e w7 ⟨v7, rfl, ho, hb⟩; (have HF7 := Lib.hid (HFz.out.step hb)); (have HO7 := Lib.hid ho); (have hlt := HFz.out.lt); (obtain ⟨k0, k1, k2⟩ := HF7.out.cells); (have z0 := HF7.out.free 0); (have z1 := HF7.out.free 1); (have z2 := HF7.out.free 2); clear hb ho))
    refine bodyPost_ret (v := .tuple #[v7, .agg #[.int .i64 (er : Int), .int .u64 0, .slice none 0 0]]) (by simp [results, Try.results14, go_sem, k0, k1, k2]) rfl ⟨_, rfl, HF7.out.own HO7.out hlt _ _ _, HF7.out.put _ _ _⟩

set_option maxHeartbeats 1000000 in
theorem apply2_1 (n : Nat) (v : Value) (l : List Nat) (a : Nat) (w : World) (hA : ArgW w v l) (hl : l.length ≤ 4294967296) (hn : n ≤ 7) (hN : sqN n = 2) (hr : (decide (sqLo n ≤ l.length) && decide (l.length ≤ sqHi n)) = true) (hx : ∀ x ∈ l, x < 18446744073709551616) (ha : a < 18446744073709551616) :
    Calls Try.prog 14 #[.int .i64 (n : Int), v, .int .i64 1, .int .u64 (a : Int)] w (ApP w (sqDo n 1 l a)) := by
  have HA : Hid (ArgW (w.alloc ansO) v l) := Lib.hid (hA.alloc _)
  have HRF : Hid (∀ k W, ArgW W v l → Calls Try.prog 19 #[v, .int .i64 ((k : Nat) : Int)] W (ApP W (l, 0, k))) := Lib.hid (fun k W h => refuse_any v l k W h hl)
  have HF := Lib.hid (fun w => find2_any n hn hN w)
  have HR := Lib.hid (fun lo hi f0 f1 f2 W (h : ArgW W v l) => right_any lo hi f0 f1 f2 v l W h (Nat.le_trans hl (by decide)))
  unfold Find2 at HF
  have qF := run_eql_func
  have qN := run_eql_nilF
  have HCL : Hid (∀ W, ArgW W v l → Calls Try.prog 21 #[v] W (GivesW l W)) := Lib.hid (fun W h => clone_own v l W h hl)
  have HOK : Hid (sqOk n l.length) := Lib.hid (by simpa [sqOk] using hr)
  have HX := Lib.hid hx
  generalize sqLo n = lo at *
  generalize sqHi n = hi at *
  replace HR := Lib.hid (HR.out lo hi)
  rw [hr] at HR
  have hE := sqDo_err n 1 l a
  have hE2 := sqDo_err_lt n 1 l a
  obtain ⟨l', val, er, hD⟩ : ∃ l' val er, sqDo n 1 l a = (l', val, er) := ⟨_, _, _, rfl⟩
  rw [hD] at hE hE2 ⊢
  have HD := Lib.hid hD
  dsimp only at hE hE2
  clear hr hA hl hx hD
  by_cases he : er = 0
  · subst he
    clear hE hE2
    go_enter Try.func14, Try.ntmps14
    go_wp2_with (first
    | (go_at_call 16; refine (HF.out _).mono ?_; rintro e w5 ⟨g0, e0, g1, e1, rfl, hk0, hk1, hb⟩; (have HF5 := Lib.hid ((Fr.init w).step hb)); (have HA5 : Hid (ArgW (w5.alloc (Obj.cells #[Value.int .i64 (lo : Int), .int .i64 (hi : Int), .func (.func g0) #[] e0.toArray, .func (.func g1) #[] e1.toArray, .nilFunc] 43)) v l) := Lib.hid (ArgW.alloc (HA.out.below hb) _)); (have hen := hk1.1); (have HK0 := Lib.hid hk0); (have HK1 := Lib.hid hk1); clear hb hk0 hk1)
    | (go_at_call 18; refine (HR.out _ _ _ _ HA5.out).mono ?_; rintro e w6 ⟨rfl, hb⟩; (have hs6 : w6.heap[w5.heap.size]? = some (Obj.cells #[Value.int .i64 (lo : Int), .int .i64 (hi : Int), .func (.func g0) #[] e0.toArray, .func (.func g1) #[] e1.toArray, .nilFunc] 43) := (hb.block _ (by simp)).trans (heap_alloc_new _ _)); (have c0 := cell_of_blk (k := 0) hs6 rfl); (have c1 := cell_of_blk (k := 1) hs6 rfl); (have c2 := cell_of_blk (k := 2) hs6 rfl); (have c3 := cell_of_blk (k := 3) hs6 rfl); (have c4 := cell_of_blk (k := 4) hs6 rfl); (have HF6 := Lib.hid ((HF5.out.alloc (Obj.cells #[Value.int .i64 (lo : Int), .int .i64 (hi : Int), .func (.func g0) #[] e0.toArray, .func (.func g1) #[] e1.toArray, .nilFunc] 43)).step hb)); (have HB56 : Hid (Below w5.heap.size w5 w6) := Lib.hid (((Below.refl _ _).alloc (Nat.le_refl _) _).trans (hb.mono (by simp)))); (have HA6 := Lib.hid (HA5.out.below hb)); clear hb hs6)
    | (go_at_call 20; refine (effect_any (.func (.func g1) #[] e1.toArray) lo hi (.func (.func g0) #[] e0.toArray) (.func (.func g1) #[] e1.toArray) (.nilFunc) 1 _ (.inr (.inl ⟨rfl, rfl⟩))).mono ?_; rintro e w8 ⟨rfl, hb⟩; (have HF8 := Lib.hid (HF6.out.step hb)); (have HA8 := Lib.hid (HA6.out.below hb)); (have HB58 : Hid (Below w5.heap.size w5 w8) := Lib.hid (HB56.out.trans (hb.mono HB56.out.size))); clear hb)
    | (go_at_call 21; refine (HCL.out _ HA8.out).mono ?_; rintro e w9 ⟨v9, rfl, ho, hb⟩; (have HF9 := Lib.hid (HF8.out.step hb)); (have HA9 := Lib.hid (HA8.out.below hb)); (have HO9 := Lib.hid ho); (have HB59 : Hid (Below w5.heap.size w5 w9) := Lib.hid (HB58.out.trans (hb.mono HB58.out.size))); (have HC : Hid (Calls Try.prog g1 (v9 :: .int .u64 (a : Int) :: e1).toArray w9 (EffP w8.heap.size w9 (l', val, 0))) := Lib.hid (by rw [← HD.out]; exact HK1.out.2 w9 w8.heap.size v9 l a HB59.out HB58.out.size hb.size ho HOK.out HX.out ha)); (have hlt8 := HF8.out.lt); (have HB89 := Lib.hid hb); (have hsz := hb.size); clear hb ho)
    | (refine HC.out.mono ?_; rintro e wz ⟨vz, rfl, ho, hb⟩; (have HF7 := Lib.hid (HF9.out.step' hb hlt8)); (have HO7 := Lib.hid ho); (obtain ⟨k0, k1, k2⟩ := HF7.out.cells); (have z0 := HF7.out.free 0); (have z1 := HF7.out.free 1); (have z2 := HF7.out.free 2); clear hb ho))
    refine bodyPost_ret (v := .tuple #[vz, .agg #[.int .i64 0, .int .u64 (val : Int), .slice none 0 0]]) (by simp [results, Try.results14, go_sem, k0, k1, k2]) rfl ⟨_, rfl, HF7.out.own HO7.out hlt8 _ _ _, HF7.out.put _ _ _⟩
  · obtain ⟨rfl, rfl⟩ : l = l' ∧ 0 = val := by
      rcases hE with h | h
      · exact absurd h he
      · simp at h; exact ⟨h.1.symm, h.2.symm⟩
    clear hE
    go_enter Try.func14, Try.ntmps14
    go_wp2_with (first
    | (go_at_call 16; refine (HF.out _).mono ?_; rintro e w5 ⟨g0, e0, g1, e1, rfl, hk0, hk1, hb⟩; (have HF5 := Lib.hid ((Fr.init w).step hb)); (have HA5 : Hid (ArgW (w5.alloc (Obj.cells #[Value.int .i64 (lo : Int), .int .i64 (hi : Int), .func (.func g0) #[] e0.toArray, .func (.func g1) #[] e1.toArray, .nilFunc] 43)) v l) := Lib.hid (ArgW.alloc (HA.out.below hb) _)); (have hen := hk1.1); (have HK0 := Lib.hid hk0); (have HK1 := Lib.hid hk1); clear hb hk0 hk1)
    | (go_at_call 18; refine (HR.out _ _ _ _ HA5.out).mono ?_; rintro e w6 ⟨rfl, hb⟩; (have hs6 : w6.heap[w5.heap.size]? = some (Obj.cells #[Value.int .i64 (lo : Int), .int .i64 (hi : Int), .func (.func g0) #[] e0.toArray, .func (.func g1) #[] e1.toArray, .nilFunc] 43) := (hb.block _ (by simp)).trans (heap_alloc_new _ _)); (have c0 := cell_of_blk (k := 0) hs6 rfl); (have c1 := cell_of_blk (k := 1) hs6 rfl); (have c2 := cell_of_blk (k := 2) hs6 rfl); (have c3 := cell_of_blk (k := 3) hs6 rfl); (have c4 := cell_of_blk (k := 4) hs6 rfl); (have HF6 := Lib.hid ((HF5.out.alloc (Obj.cells #[Value.int .i64 (lo : Int), .int .i64 (hi : Int), .func (.func g0) #[] e0.toArray, .func (.func g1) #[] e1.toArray, .nilFunc] 43)).step hb)); (have HB56 : Hid (Below w5.heap.size w5 w6) := Lib.hid (((Below.refl _ _).alloc (Nat.le_refl _) _).trans (hb.mono (by simp)))); (have HA6 := Lib.hid (HA5.out.below hb)); clear hb hs6)
    | (go_at_call 20; refine (effect_any (.func (.func g1) #[] e1.toArray) lo hi (.func (.func g0) #[] e0.toArray) (.func (.func g1) #[] e1.toArray) (.nilFunc) 1 _ (.inr (.inl ⟨rfl, rfl⟩))).mono ?_; rintro e w8 ⟨rfl, hb⟩; (have HF8 := Lib.hid (HF6.out.step hb)); (have HA8 := Lib.hid (HA6.out.below hb)); (have HB58 : Hid (Below w5.heap.size w5 w8) := Lib.hid (HB56.out.trans (hb.mono HB56.out.size))); clear hb)
    | (go_at_call 21; refine (HCL.out _ HA8.out).mono ?_; rintro e w9 ⟨v9, rfl, ho, hb⟩; (have HF9 := Lib.hid (HF8.out.step hb)); (have HA9 := Lib.hid (HA8.out.below hb)); (have HO9 := Lib.hid ho); (have HB59 : Hid (Below w5.heap.size w5 w9) := Lib.hid (HB58.out.trans (hb.mono HB58.out.size))); (have HC : Hid (Calls Try.prog g1 (v9 :: .int .u64 (a : Int) :: e1).toArray w9 (EffP w8.heap.size w9 (l, 0, er))) := Lib.hid (by rw [← HD.out]; exact HK1.out.2 w9 w8.heap.size v9 l a HB59.out HB58.out.size hb.size ho HOK.out HX.out ha)); (have hlt8 := HF8.out.lt); (have HB89 := Lib.hid hb); (have hsz := hb.size); clear hb ho)
    | (refine HC.out.mono ?_; rintro e wz ⟨vz, rfl, ho, hb⟩; (have HFz := Lib.hid (HF9.out.step' hb hlt8)); (have HAz := Lib.hid (HA8.out.keep (fun b hb2 => (hb.block b hb2).trans (HB89.out.block b hb2)))); clear hb ho)
    | (go_at_call 19; refine (HRF.out er _ HAz.out).mono ?_; rintro e w7 ⟨v7, rfl, ho, hb⟩; (have HF7 := Lib.hid (HFz.out.step hb)); (have HO7 := Lib.hid ho); (have hlt := HFz.out.lt); (obtain ⟨k0, k1, k2⟩ := HF7.out.cells); (have z0 := HF7.out.free 0); (have z1 := HF7.out.free 1); (have z2 := HF7.out.free 2); clear hb ho))
    refine bodyPost_ret (v := .tuple #[v7, .agg #[.int .i64 (er : Int), .int .u64 0, .slice none 0 0]]) (by simp [results, Try.results14, go_sem, k0, k1, k2]) rfl ⟨_, rfl, HF7.out.own HO7.out hlt _ _ _, HF7.out.put _ _ _⟩

set_option maxHeartbeats 1000000 in
theorem apply3_wrong (n : Nat) (k : Int) (v : Value) (l : List Nat) (a : Nat) (w : World) (hA : ArgW w v l) (hl : l.length ≤ 4294967296) (hn : n ≤ 7) (hN : sqN n = 3) (hr : (decide (sqLo n ≤ l.length) && decide (l.length ≤ sqHi n)) = false) :
    Calls Try.prog 14 #[.int .i64 (n : Int), v, .int .i64 k, .int .u64 (a : Int)] w (ApP w (l, 0, 1)) := by
  have HA : Hid (ArgW (w.alloc ansO) v l) := Lib.hid (hA.alloc _)
  have HRF : Hid (∀ k W, ArgW W v l → Calls Try.prog 19 #[v, .int .i64 ((k : Nat) : Int)] W (ApP W (l, 0, k))) := Lib.hid (fun k W h => refuse_any v l k W h hl)
  have HF := Lib.hid (fun w => find3_any n hn hN w)
  have HR := Lib.hid (fun lo hi f0 f1 f2 W (h : ArgW W v l) => right_any lo hi f0 f1 f2 v l W h (Nat.le_trans hl (by decide)))
  unfold Find3 at HF
  generalize sqLo n = lo at *
  generalize sqHi n = hi at *
  replace HR := Lib.hid (HR.out lo hi)
  rw [hr] at HR
  clear hr hA hl
  go_enter Try.func14, Try.ntmps14
  go_wp2_with (first
    | (go_at_call 16; refine (HF.out _).mono ?_; rintro e w5 ⟨g0, e0, g1, e1, g2, e2, rfl, hk0, hk1, hk2, hb⟩; (have HF5 := Lib.hid ((Fr.init w).step hb)); (have HA5 : Hid (ArgW (w5.alloc (Obj.cells #[Value.int .i64 (lo : Int), .int .i64 (hi : Int), .func (.func g0) #[] e0.toArray, .func (.func g1) #[] e1.toArray, .func (.func g2) #[] e2.toArray] 43)) v l) := Lib.hid (ArgW.alloc (HA.out.below hb) _)); (have HK0 := Lib.hid hk0); (have HK1 := Lib.hid hk1); (have HK2 := Lib.hid hk2); clear hb hk0 hk1 hk2)
    | (go_at_call 18; refine (HR.out _ _ _ _ HA5.out).mono ?_; rintro e w6 ⟨rfl, hb⟩; (have hs6 : w6.heap[w5.heap.size]? = some (Obj.cells #[Value.int .i64 (lo : Int), .int .i64 (hi : Int), .func (.func g0) #[] e0.toArray, .func (.func g1) #[] e1.toArray, .func (.func g2) #[] e2.toArray] 43) := (hb.block _ (by simp)).trans (heap_alloc_new _ _)); (have c0 := cell_of_blk (k := 0) hs6 rfl); (have c1 := cell_of_blk (k := 1) hs6 rfl); (have c2 := cell_of_blk (k := 2) hs6 rfl); (have c3 := cell_of_blk (k := 3) hs6 rfl); (have c4 := cell_of_blk (k := 4) hs6 rfl); (have HF6 := Lib.hid ((HF5.out.alloc (Obj.cells #[Value.int .i64 (lo : Int), .int .i64 (hi : Int), .func (.func g0) #[] e0.toArray, .func (.func g1) #[] e1.toArray, .func (.func g2) #[] e2.toArray] 43)).step hb)); (have HB56 : Hid (Below w5.heap.size w5 w6) := Lib.hid (((Below.refl _ _).alloc (Nat.le_refl _) _).trans (hb.mono (by simp)))); (have HA6 := Lib.hid (HA5.out.below hb)); clear hb hs6)
    | (go_at_call 19; refine (HRF.out 1 _ HA6.out).mono ?_; rintro e w7 ⟨v7, rfl, ho, hb⟩; (have HF7 := Lib.hid (HF6.out.step hb)); (have HO7 := Lib.hid ho); (have hlt := HF6.out.lt); (obtain ⟨k0, k1, k2⟩ := HF7.out.cells); (have z0 := HF7.out.free 0); (have z1 := HF7.out.free 1); (have z2 := HF7.out.free 2); clear hb ho))
  refine bodyPost_ret (v := .tuple #[v7, .agg #[.int .i64 1, .int .u64 0, .slice none 0 0]]) (by simp [results, Try.results14, go_sem, k0, k1, k2]) rfl ⟨_, rfl, HF7.out.own HO7.out hlt _ _ _, HF7.out.put _ _ _⟩

set_option maxHeartbeats 1000000 in
theorem apply3_kind (n : Nat) (k : Int) (v : Value) (l : List Nat) (a : Nat) (w : World) (hA : ArgW w v l) (hl : l.length ≤ 4294967296) (hn : n ≤ 7) (hN : sqN n = 3) (hr : (decide (sqLo n ≤ l.length) && decide (l.length ≤ sqHi n)) = true) (hk : ¬ (0 ≤ k ∧ k < 3)) :
    Calls Try.prog 14 #[.int .i64 (n : Int), v, .int .i64 k, .int .u64 (a : Int)] w (ApP w (l, 0, 9)) := by
  have HA : Hid (ArgW (w.alloc ansO) v l) := Lib.hid (hA.alloc _)
  have HRF : Hid (∀ k W, ArgW W v l → Calls Try.prog 19 #[v, .int .i64 ((k : Nat) : Int)] W (ApP W (l, 0, k))) := Lib.hid (fun k W h => refuse_any v l k W h hl)
  have HF := Lib.hid (fun w => find3_any n hn hN w)
  have HR := Lib.hid (fun lo hi f0 f1 f2 W (h : ArgW W v l) => right_any lo hi f0 f1 f2 v l W h (Nat.le_trans hl (by decide)))
  unfold Find3 at HF
  have qF := run_eql_func
  have qN := run_eql_nilF
  have HE : Hid (∀ (lo hi : Int) (f0 f1 : Value) (f2 : Value) W, Calls Try.prog 20 #[.agg #[.int .i64 lo, .int .i64 hi, f0, f1, f2], .int .i64 k] W fun e w' => e = .returned .nilFunc ∧ Below W.heap.size W w') := Lib.hid (fun lo hi f0 f1 f2 W => effect_any .nilFunc lo hi f0 f1 f2 k W (by exact .inr (.inr (.inr ⟨by omega, rfl⟩))))
  generalize sqLo n = lo at *
  generalize sqHi n = hi at *
  replace HR := Lib.hid (HR.out lo hi)
  rw [hr] at HR
  clear hr hA hl hk
  go_enter Try.func14, Try.ntmps14
  go_wp2_with (first
    | (go_at_call 16; refine (HF.out _).mono ?_; rintro e w5 ⟨g0, e0, g1, e1, g2, e2, rfl, hk0, hk1, hk2, hb⟩; (have HF5 := Lib.hid ((Fr.init w).step hb)); (have HA5 : Hid (ArgW (w5.alloc (Obj.cells #[Value.int .i64 (lo : Int), .int .i64 (hi : Int), .func (.func g0) #[] e0.toArray, .func (.func g1) #[] e1.toArray, .func (.func g2) #[] e2.toArray] 43)) v l) := Lib.hid (ArgW.alloc (HA.out.below hb) _)); (have HK0 := Lib.hid hk0); (have HK1 := Lib.hid hk1); (have HK2 := Lib.hid hk2); clear hb hk0 hk1 hk2)
    | (go_at_call 18; refine (HR.out _ _ _ _ HA5.out).mono ?_; rintro e w6 ⟨rfl, hb⟩; (have hs6 : w6.heap[w5.heap.size]? = some (Obj.cells #[Value.int .i64 (lo : Int), .int .i64 (hi : Int), .func (.func g0) #[] e0.toArray, .func (.func g1) #[] e1.toArray, .func (.func g2) #[] e2.toArray] 43) := (hb.block _ (by simp)).trans (heap_alloc_new _ _)); (have c0 := cell_of_blk (k := 0) hs6 rfl); (have c1 := cell_of_blk (k := 1) hs6 rfl); (have c2 := cell_of_blk (k := 2) hs6 rfl); (have c3 := cell_of_blk (k := 3) hs6 rfl); (have c4 := cell_of_blk (k := 4) hs6 rfl); (have HF6 := Lib.hid ((HF5.out.alloc (Obj.cells #[Value.int .i64 (lo : Int), .int .i64 (hi : Int), .func (.func g0) #[] e0.toArray, .func (.func g1) #[] e1.toArray, .func (.func g2) #[] e2.toArray] 43)).step hb)); (have HB56 : Hid (Below w5.heap.size w5 w6) := Lib.hid (((Below.refl _ _).alloc (Nat.le_refl _) _).trans (hb.mono (by simp)))); (have HA6 := Lib.hid (HA5.out.below hb)); clear hb hs6)
    | (go_at_call 20; refine (HE.out _ _ _ _ _ _).mono ?_; rintro e w8 ⟨rfl, hb⟩; (have HF8 := Lib.hid (HF6.out.step hb)); (have HA8 := Lib.hid (HA6.out.below hb)); clear hb)
    | (go_at_call 19; refine (HRF.out 9 _ HA8.out).mono ?_; rintro e w7 ⟨v7, rfl, ho, hb⟩; (have HF7 := Lib.hid (HF8.out.step hb)); (have HO7 := Lib.hid ho); (have hlt := HF8.out.lt); (obtain ⟨k0, k1, k2⟩ := HF7.out.cells); (have z0 := HF7.out.free 0); (have z1 := HF7.out.free 1); (have z2 := HF7.out.free 2); clear hb ho))
  refine bodyPost_ret (v := .tuple #[v7, .agg #[.int .i64 9, .int .u64 0, .slice none 0 0]]) (by simp [results, Try.results14, go_sem, k0, k1, k2]) rfl ⟨_, rfl, HF7.out.own HO7.out hlt _ _ _, HF7.out.put _ _ _⟩

set_option maxHeartbeats 1000000 in
theorem apply3_0 (n : Nat) (v : Value) (l : List Nat) (a : Nat) (w : World) (hA : ArgW w v l) (hl : l.length ≤ 4294967296) (hn : n ≤ 7) (hN : sqN n = 3) (hr : (decide (sqLo n ≤ l.length) && decide (l.length ≤ sqHi n)) = true) (hx : ∀ x ∈ l, x < 18446744073709551616) (ha : a < 18446744073709551616) :
    Calls Try.prog 14 #[.int .i64 (n : Int), v, .int .i64 0, .int .u64 (a : Int)] w (ApP w (sqDo n 0 l a)) := by
  have HA : Hid (ArgW (w.alloc ansO) v l) := Lib.hid (hA.alloc _)
  have HRF : Hid (∀ k W, ArgW W v l → Calls Try.prog 19 #[v, .int .i64 ((k : Nat) : Int)] W (ApP W (l, 0, k))) := Lib.hid (fun k W h => refuse_any v l k W h hl)
  have HF := Lib.hid (fun w => find3_any n hn hN w)
  have HR := Lib.hid (fun lo hi f0 f1 f2 W (h : ArgW W v l) => right_any lo hi f0 f1 f2 v l W h (Nat.le_trans hl (by decide)))
  unfold Find3 at HF
  have qF := run_eql_func
  have qN := run_eql_nilF
  have HCL : Hid (∀ W, ArgW W v l → Calls Try.prog 21 #[v] W (GivesW l W)) := Lib.hid (fun W h => clone_own v l W h hl)
  have HOK : Hid (sqOk n l.length) := Lib.hid (by simpa [sqOk] using hr)
  have HX := Lib.hid hx
  generalize sqLo n = lo at *
  generalize sqHi n = hi at *
  replace HR := Lib.hid (HR.out lo hi)
  rw [hr] at HR
  have hE := sqDo_err n 0 l a
  have hE2 := sqDo_err_lt n 0 l a
  obtain ⟨l', val, er, hD⟩ : ∃ l' val er, sqDo n 0 l a = (l', val, er) := ⟨_, _, _, rfl⟩
  rw [hD] at hE hE2 ⊢
  have HD := Lib.hid hD
  dsimp only at hE hE2
  clear hr hA hl hx hD
  by_cases he : er = 0
  · subst he
    clear hE hE2
    go_enter Try.func14, Try.ntmps14
    go_wp2_with (first
    | (go_at_call 16; refine (HF.out _).mono ?_; rintro e w5 ⟨g0, e0, g1, e1, g2, e2, rfl, hk0, hk1, hk2, hb⟩; (have HF5 := Lib.hid ((Fr.init w).step hb)); (have HA5 : Hid (ArgW (w5.alloc (Obj.cells #[Value.int .i64 (lo : Int), .int .i64 (hi : Int), .func (.func g0) #[] e0.toArray, .func (.func g1) #[] e1.toArray, .func (.func g2) #[] e2.toArray] 43)) v l) := Lib.hid (ArgW.alloc (HA.out.below hb) _)); (have hen := hk0.1); (have HK0 := Lib.hid hk0); (have HK1 := Lib.hid hk1); (have HK2 := Lib.hid hk2); clear hb hk0 hk1 hk2)
    | (go_at_call 18; refine (HR.out _ _ _ _ HA5.out).mono ?_; rintro e w6 ⟨rfl, hb⟩; (have hs6 : w6.heap[w5.heap.size]? = some (Obj.cells #[Value.int .i64 (lo : Int), .int .i64 (hi : Int), .func (.func g0) #[] e0.toArray, .func (.func g1) #[] e1.toArray, .func (.func g2) #[] e2.toArray] 43) := (hb.block _ (by simp)).trans (heap_alloc_new _ _)); (have c0 := cell_of_blk (k := 0) hs6 rfl); (have c1 := cell_of_blk (k := 1) hs6 rfl); (have c2 := cell_of_blk (k := 2) hs6 rfl); (have c3 := cell_of_blk (k := 3) hs6 rfl); (have c4 := cell_of_blk (k := 4) hs6 rfl); (have HF6 := Lib.hid ((HF5.out.alloc (Obj.cells #[Value.int .i64 (lo : Int), .int .i64 (hi : Int), .func (.func g0) #[] e0.toArray, .func (.func g1) #[] e1.toArray, .func (.func g2) #[] e2.toArray] 43)).step hb)); (have HB56 : Hid (Below w5.heap.size w5 w6) := Lib.hid (((Below.refl _ _).alloc (Nat.le_refl _) _).trans (hb.mono (by simp)))); (have HA6 := Lib.hid (HA5.out.below hb)); clear hb hs6)
    | (go_at_call 20; refine (effect_any (.func (.func g0) #[] e0.toArray) lo hi (.func (.func g0) #[] e0.toArray) (.func (.func g1) #[] e1.toArray) (.func (.func g2) #[] e2.toArray) 0 _ (.inl ⟨rfl, rfl⟩)).mono ?_; rintro e w8 ⟨rfl, hb⟩; (have HF8 := Lib.hid (HF6.out.step hb)); (have HA8 := Lib.hid (HA6.out.below hb)); (have HB58 : Hid (Below w5.heap.size w5 w8) := Lib.hid (HB56.out.trans (hb.mono HB56.out.size))); clear hb)
    | (go_at_call 21; refine (HCL.out _ HA8.out).mono ?_; rintro e w9 ⟨v9, rfl, ho, hb⟩; (have HF9 := Lib.hid (HF8.out.step hb)); (have HA9 := Lib.hid (HA8.out.below hb)); (have HO9 := Lib.hid ho); (have HB59 : Hid (Below w5.heap.size w5 w9) := Lib.hid (HB58.out.trans (hb.mono HB58.out.size))); (have HC : Hid (Calls Try.prog g0 (v9 :: .int .u64 (a : Int) :: e0).toArray w9 (EffP w8.heap.size w9 (l', val, 0))) := Lib.hid (by rw [← HD.out]; exact HK0.out.2 w9 w8.heap.size v9 l a HB59.out HB58.out.size hb.size ho HOK.out HX.out ha)); (have hlt8 := HF8.out.lt); (have HB89 := Lib.hid hb); (have hsz := hb.size); clear hb ho)
    | (refine HC.out.mono ?_; rintro e wz ⟨vz, rfl, ho, hb⟩; (have HF7 := Lib.hid (HF9.out.step' hb hlt8)); (have HO7 := Lib.hid ho); (obtain ⟨k0, k1, k2⟩ := HF7.out.cells); (have z0 := HF7.out.free 0); (have z1 := HF7.out.free 1); (have z2 := HF7.out.free 2); clear hb ho))
    refine bodyPost_ret (v := .tuple #[vz, .agg #[.int .i64 0, .int .u64 (val : Int), .slice none 0 0]]) (by simp [results, Try.results14, go_sem, k0, k1, k2]) rfl ⟨_, rfl, HF7.out.own HO7.out hlt8 _ _ _, HF7.out.put _ _ _⟩
  · obtain ⟨rfl, rfl⟩ : l = l' ∧ 0 = val := by
      rcases hE with h | h
      · exact absurd h he
      · simp at h; exact ⟨h.1.symm, h.2.symm⟩
    clear hE
    go_enter Try.func14, Try.ntmps14
    go_wp2_with (first
    | (go_at_call 16; refine (HF.out _).mono ?_; rintro e w5 ⟨g0, e0, g1, e1, g2, e2, rfl, hk0, hk1, hk2, hb⟩; (have HF5 := Lib.hid ((Fr.init w).step hb)); (have HA5 : Hid (ArgW (w5.alloc (Obj.cells #[Value.int .i64 (lo : Int), .int .i64 (hi : Int), .func (.func g0) #[] e0.toArray, .func (.func g1) #[] e1.toArray, .func (.func g2) #[] e2.toArray] 43)) v l) := Lib.hid (ArgW.alloc (HA.out.below hb) _)); (have hen := hk0.1); (have HK0 := Lib.hid hk0); (have HK1 := Lib.hid hk1); (have HK2 := Lib.hid hk2); clear hb hk0 hk1 hk2)
    | (go_at_call 18; refine (HR.out _ _ _ _ HA5.out).mono ?_; rintro e w6 ⟨rfl, hb⟩; (have hs6 : w6.heap[w5.heap.size]? = some (Obj.cells #[Value.int .i64 (lo : Int), .int .i64 (hi : Int), .func (.func g0) #[] e0.toArray, .func (.func g1) #[] e1.toArray, .func (.func g2) #[] e2.toArray] 43) := (hb.block _ (by simp)).trans (heap_alloc_new _ _)); (have c0 := cell_of_blk (k := 0) hs6 rfl); (have c1 := cell_of_blk (k := 1) hs6 rfl); (have c2 := cell_of_blk (k := 2) hs6 rfl); (have c3 := cell_of_blk (k := 3) hs6 rfl); (have c4 := cell_of_blk (k := 4) hs6 rfl); (have HF6 := Lib.hid ((HF5.out.alloc (Obj.cells #[Value.int .i64 (lo : Int), .int .i64 (hi : Int), .func (.func g0) #[] e0.toArray, .func (.func g1) #[] e1.toArray, .func (.func g2) #[] e2.toArray] 43)).step hb)); (have HB56 : Hid (Below w5.heap.size w5 w6) := Lib.hid (((Below.refl _ _).alloc (Nat.le_refl _) _).trans (hb.mono (by simp)))); (have HA6 := Lib.hid (HA5.out.below hb)); clear hb hs6)
    | (go_at_call 20; refine (effect_any (.func (.func g0) #[] e0.toArray) lo hi (.func (.func g0) #[] e0.toArray) (.func (.func g1) #[] e1.toArray) (.func (.func g2) #[] e2.toArray) 0 _ (.inl ⟨rfl, rfl⟩)).mono ?_; rintro e w8 ⟨rfl, hb⟩; (have HF8 := Lib.hid (HF6.out.step hb)); (have HA8 := Lib.hid (HA6.out.below hb)); (have HB58 : Hid (Below w5.heap.size w5 w8) := Lib.hid (HB56.out.trans (hb.mono HB56.out.size))); clear hb)
    | (go_at_call 21; refine (HCL.out _ HA8.out).mono ?_; rintro e w9 ⟨v9, rfl, ho, hb⟩; (have HF9 := Lib.hid (HF8.out.step hb)); (have HA9 := Lib.hid (HA8.out.below hb)); (have HO9 := Lib.hid ho); (have HB59 : Hid (Below w5.heap.size w5 w9) := Lib.hid (HB58.out.trans (hb.mono HB58.out.size))); (have HC : Hid (Calls Try.prog g0 (v9 :: .int .u64 (a : Int) :: e0).toArray w9 (EffP w8.heap.size w9 (l, 0, er))) := Lib.hid (by rw [← HD.out]; exact HK0.out.2 w9 w8.heap.size v9 l a HB59.out HB58.out.size hb.size ho HOK.out HX.out ha)); (have hlt8 := HF8.out.lt); (have HB89 := Lib.hid hb); (have hsz := hb.size); clear hb ho)
    | (refine HC.out.mono ?_; rintro e wz ⟨vz, rfl, ho, hb⟩; (have HFz := Lib.hid (HF9.out.step' hb hlt8)); (have HAz := Lib.hid (HA8.out.keep (fun b hb2 => (hb.block b hb2).trans (HB89.out.block b hb2)))); clear hb ho)
    | (go_at_call 19; refine (HRF.out er _ HAz.out).mono ?_; rintro e w7 ⟨v7, rfl, ho, hb⟩; (have HF7 := Lib.hid (HFz.out.step hb)); (have HO7 := Lib.hid ho); (have hlt := HFz.out.lt); (obtain ⟨k0, k1, k2⟩ := HF7.out.cells); (have z0 := HF7.out.free 0); (have z1 := HF7.out.free 1); (have z2 := HF7.out.free 2); clear hb ho))
    refine bodyPost_ret (v := .tuple #[v7, .agg #[.int .i64 (er : Int), .int .u64 0, .slice none 0 0]]) (by simp [results, Try.results14, go_sem, k0, k1, k2]) rfl ⟨_, rfl, HF7.out.own HO7.out hlt _ _ _, HF7.out.put _ _ _⟩

set_option maxHeartbeats 1000000 in
theorem apply3_1 (n : Nat) (v : Value) (l : List Nat) (a : Nat) (w : World) (hA : ArgW w v l) (hl : l.length ≤ 4294967296) (hn : n ≤ 7) (hN : sqN n = 3) (hr : (decide (sqLo n ≤ l.length) && decide (l.length ≤ sqHi n)) = true) (hx : ∀ x ∈ l, x < 18446744073709551616) (ha : a < 18446744073709551616) :
    Calls Try.prog 14 #[.int .i64 (n : Int), v, .int .i64 1, .int .u64 (a : Int)] w (ApP w (sqDo n 1 l a)) := by
  have HA : Hid (ArgW (w.alloc ansO) v l) := Lib.hid (hA.alloc _)
  have HRF : Hid (∀ k W, ArgW W v l → Calls Try.prog 19 #[v, .int .i64 ((k : Nat) : Int)] W (ApP W (l, 0, k))) := Lib.hid (fun k W h => refuse_any v l k W h hl)
  have HF := Lib.hid (fun w => find3_any n hn hN w)
  have HR := Lib.hid (fun lo hi f0 f1 f2 W (h : ArgW W v l) => right_any lo hi f0 f1 f2 v l W h (Nat.le_trans hl (by decide)))
  unfold Find3 at HF
  have qF := run_eql_func
  have qN := run_eql_nilF
  have HCL : Hid (∀ W, ArgW W v l → Calls Try.prog 21 #[v] W (GivesW l W)) := Lib.hid (fun W h => clone_own v l W h hl)
  have HOK : Hid (sqOk n l.length) := Lib.hid (by simpa [sqOk] using hr)
  have HX := Lib.hid hx
  generalize sqLo n = lo at *
  generalize sqHi n = hi at *
  replace HR := Lib.hid (HR.out lo hi)
  rw [hr] at HR
  have hE := sqDo_err n 1 l a
  have hE2 := sqDo_err_lt n 1 l a
  obtain ⟨l', val, er, hD⟩ : ∃ l' val er, sqDo n 1 l a = (l', val, er) := ⟨_, _, _, rfl⟩
  rw [hD] at hE hE2 ⊢
  have HD := Lib.hid hD
  dsimp only at hE hE2
  clear hr hA hl hx hD
  by_cases he : er = 0
  · subst he
    clear hE hE2
    go_enter Try.func14, Try.ntmps14
    go_wp2_with (first
    | (go_at_call 16; refine (HF.out _).mono ?_; rintro e w5 ⟨g0, e0, g1, e1, g2, e2, rfl, hk0, hk1, hk2, hb⟩; (have HF5 := Lib.hid ((Fr.init w).step hb)); (have HA5 : Hid (ArgW (w5.alloc (Obj.cells #[Value.int .i64 (lo : Int), .int .i64 (hi : Int), .func (.func g0) #[] e0.toArray, .func (.func g1) #[] e1.toArray, .func (.func g2) #[] e2.toArray] 43)) v l) := Lib.hid (ArgW.alloc (HA.out.below hb) _)); (have hen := hk1.1); (have HK0 := Lib.hid hk0); (have HK1 := Lib.hid hk1); (have HK2 := Lib.hid hk2); clear hb hk0 hk1 hk2)
    | (go_at_call 18; refine (HR.out _ _ _ _ HA5.out).mono ?_; rintro e w6 ⟨rfl, hb⟩; (have hs6 : w6.heap[w5.heap.size]? = some (Obj.cells #[Value.int .i64 (lo : Int), .int .i64 (hi : Int), .func (.func g0) #[] e0.toArray, .func (.func g1) #[] e1.toArray, .func (.func g2) #[] e2.toArray] 43) := (hb.block _ (by simp)).trans (heap_alloc_new _ _)); (have c0 := cell_of_blk (k := 0) hs6 rfl); (have c1 := cell_of_blk (k := 1) hs6 rfl); (have c2 := cell_of_blk (k := 2) hs6 rfl); (have c3 := cell_of_blk (k := 3) hs6 rfl); (have c4 := cell_of_blk (k := 4) hs6 rfl); (have HF6 := Lib.hid ((HF5.out.alloc (Obj.cells #[Value.int .i64 (lo : Int), .int .i64 (hi : Int), .func (.func g0) #[] e0.toArray, .func (.func g1) #[] e1.toArray, .func (.func g2) #[] e2.toArray] 43)).step hb)); (have HB56 : Hid (Below w5.heap.size w5 w6) := Lib.hid (((Below.refl _ _).alloc (Nat.le_refl _) _).trans (hb.mono (by simp)))); (have HA6 := Lib.hid (HA5.out.below hb)); clear hb hs6)
    | (go_at_call 20; refine (effect_any (.func (.func g1) #[] e1.toArray) lo hi (.func (.func g0) #[] e0.toArray) (.func (.func g1) #[] e1.toArray) (.func (.func g2) #[] e2.toArray) 1 _ (.inr (.inl ⟨rfl, rfl⟩))).mono ?_; rintro e w8 ⟨rfl, hb⟩; (have HF8 := Lib.hid (HF6.out.step hb)); (have HA8 := Lib.hid (HA6.out.below hb)); (have HB58 : Hid (Below w5.heap.size w5 w8) := Lib.hid (HB56.out.trans (hb.mono HB56.out.size))); clear hb)
    | (go_at_call 21; refine (HCL.out _ HA8.out).mono ?_; rintro e w9 ⟨v9, rfl, ho, hb⟩; (have HF9 := Lib.hid (HF8.out.step hb)); (have HA9 := Lib.hid (HA8.out.below hb)); (have HO9 := Lib.hid ho); (have HB59 : Hid (Below w5.heap.size w5 w9) := Lib.hid (HB58.out.trans (hb.mono HB58.out.size))); (have HC : Hid (Calls Try.prog g1 (v9 :: .int .u64 (a : Int) :: e1).toArray w9 (EffP w8.heap.size w9 (l', val, 0))) := Lib.hid (by rw [← HD.out]; exact HK1.out.2 w9 w8.heap.size v9 l a HB59.out HB58.out.size hb.size ho HOK.out HX.out ha)); (have hlt8 := HF8.out.lt); (have HB89 := Lib.hid hb); (have hsz := hb.size); clear hb ho)
    | (refine HC.out.mono ?_; rintro e wz ⟨vz, rfl, ho, hb⟩; (have HF7 := Lib.hid (HF9.out.step' hb hlt8)); (have HO7 := Lib.hid ho); (obtain ⟨k0, k1, k2⟩ := HF7.out.cells); (have z0 := HF7.out.free 0); (have z1 := HF7.out.free 1); (have z2 := HF7.out.free 2); clear hb ho))
    refine bodyPost_ret (v := .tuple #[vz, .agg #[.int .i64 0, .int .u64 (val : Int), .slice none 0 0]]) (by simp [results, Try.results14, go_sem, k0, k1, k2]) rfl ⟨_, rfl, HF7.out.own HO7.out hlt8 _ _ _, HF7.out.put _ _ _⟩
  · obtain ⟨rfl, rfl⟩ : l = l' ∧ 0 = val := by
      rcases hE with h | h
      · exact absurd h he
      · simp at h; exact ⟨h.1.symm, h.2.symm⟩
    clear hE
    go_enter Try.func14, Try.ntmps14
    go_wp2_with (first
    | (go_at_call 16; refine (HF.out _).mono ?_; rintro e w5 ⟨g0, e0, g1, e1, g2, e2, rfl, hk0, hk1, hk2, hb⟩; (have HF5 := Lib.hid ((Fr.init w).step hb)); (have HA5 : Hid (ArgW (w5.alloc (Obj.cells #[Value.int .i64 (lo : Int), .int .i64 (hi : Int), .func (.func g0) #[] e0.toArray, .func (.func g1) #[] e1.toArray, .func (.func g2) #[] e2.toArray] 43)) v l) := Lib.hid (ArgW.alloc (HA.out.below hb) _)); (have hen := hk1.1); (have HK0 := Lib.hid hk0); (have HK1 := Lib.hid hk1); (have HK2 := Lib.hid hk2); clear hb hk0 hk1 hk2)
    | (go_at_call 18; refine (HR.out _ _ _ _ HA5.out).mono ?_; rintro e w6 ⟨rfl, hb⟩; (have hs6 : w6.heap[w5.heap.size]? = some (Obj.cells #[Value.int .i64 (lo : Int), .int .i64 (hi : Int), .func (.func g0) #[] e0.toArray, .func (.func g1) #[] e1.toArray, .func (.func g2) #[] e2.toArray] 43) := (hb.block _ (by simp)).trans (heap_alloc_new _ _)); (have c0 := cell_of_blk (k := 0) hs6 rfl); (have c1 := cell_of_blk (k := 1) hs6 rfl); (have c2 := cell_of_blk (k := 2) hs6 rfl); (have c3 := cell_of_blk (k := 3) hs6 rfl); (have c4 := cell_of_blk (k := 4) hs6 rfl); (have HF6 := Lib.hid ((HF5.out.alloc (Obj.cells #[Value.int .i64 (lo : Int), .int .i64 (hi : Int), .func (.func g0) #[] e0.toArray, .func (.func g1) #[] e1.toArray, .func (.func g2) #[] e2.toArray] 43)).step hb)); (have HB56 : Hid (Below w5.heap.size w5 w6) := Lib.hid (((Below.refl _ _).alloc (Nat.le_refl _) _).trans (hb.mono (by simp)))); (have HA6 := Lib.hid (HA5.out.below hb)); clear hb hs6)
    | (go_at_call 20; refine (effect_any (.func (.func g1) #[] e1.toArray) lo hi (.func (.func g0) #[] e0.toArray) (.func (.func g1) #[] e1.toArray) (.func (.func g2) #[] e2.toArray) 1 _ (.inr (.inl ⟨rfl, rfl⟩))).mono ?_; rintro e w8 ⟨rfl, hb⟩; (have HF8 := Lib.hid (HF6.out.step hb)); (have HA8 := Lib.hid (HA6.out.below hb)); (have HB58 : Hid (Below w5.heap.size w5 w8) := Lib.hid (HB56.out.trans (hb.mono HB56.out.size))); clear hb)
    | (go_at_call 21; refine (HCL.out _ HA8.out).mono ?_; rintro e w9 ⟨v9, rfl, ho, hb⟩; (have HF9 := Lib.hid (HF8.out.step hb)); (have HA9 := Lib.hid (HA8.out.below hb)); (have HO9 := Lib.hid ho); (have HB59 : Hid (Below w5.heap.size w5 w9) := Lib.hid (HB58.out.trans (hb.mono HB58.out.size))); (have HC : Hid (Calls Try.prog g1 (v9 :: .int .u64 (a : Int) :: e1).toArray w9 (EffP w8.heap.size w9 (l, 0, er))) := Lib.hid (by rw [← HD.out]; exact HK1.out.2 w9 w8.heap.size v9 l a HB59.out HB58.out.size hb.size ho HOK.out HX.out ha)); (have hlt8 := HF8.out.lt); (have HB89 := Lib.hid hb); (have hsz := hb.size); clear hb ho)
    | (refine HC.out.mono ?_; rintro e wz ⟨vz, rfl, ho, hb⟩; (have HFz := Lib.hid (HF9.out.step' hb hlt8)); (have HAz := Lib.hid (HA8.out.keep (fun b hb2 => (hb.block b hb2).trans (HB89.out.block b hb2)))); clear hb ho)
    | (go_at_call 19; refine (HRF.out er _ HAz.out).mono ?_; rintro e w7 ⟨v7, rfl, ho, hb⟩; (have HF7 := Lib.hid (HFz.out.step hb)); (have HO7 := Lib.hid ho); (have hlt := HFz.out.lt); (obtain ⟨k0, k1, k2⟩ := HF7.out.cells); (have z0 := HF7.out.free 0); (have z1 := HF7.out.free 1); (have z2 := HF7.out.free 2); clear hb ho))
    refine bodyPost_ret (v := .tuple #[v7, .agg #[.int .i64 (er : Int), .int .u64 0, .slice none 0 0]]) (by simp [results, Try.results14, go_sem, k0, k1, k2]) rfl ⟨_, rfl, HF7.out.own HO7.out hlt _ _ _, HF7.out.put _ _ _⟩

set_option maxHeartbeats 1000000 in
theorem apply3_2 (n : Nat) (v : Value) (l : List Nat) (a : Nat) (w : World) (hA : ArgW w v l) (hl : l.length ≤ 4294967296) (hn : n ≤ 7) (hN : sqN n = 3) (hr : (decide (sqLo n ≤ l.length) && decide (l.length ≤ sqHi n)) = true) (hx : ∀ x ∈ l, x < 18446744073709551616) (ha : a < 18446744073709551616) :
    Calls Try.prog 14 #[.int .i64 (n : Int), v, .int .i64 2, .int .u64 (a : Int)] w (ApP w (sqDo n 2 l a)) := by
  have HA : Hid (ArgW (w.alloc ansO) v l) := Lib.hid (hA.alloc _)
  have HRF : Hid (∀ k W, ArgW W v l → Calls Try.prog 19 #[v, .int .i64 ((k : Nat) : Int)] W (ApP W (l, 0, k))) := Lib.hid (fun k W h => refuse_any v l k W h hl)
  have HF := Lib.hid (fun w => find3_any n hn hN w)
  have HR := Lib.hid (fun lo hi f0 f1 f2 W (h : ArgW W v l) => right_any lo hi f0 f1 f2 v l W h (Nat.le_trans hl (by decide)))
  unfold Find3 at HF
  have qF := run_eql_func
  have qN := run_eql_nilF
  have HCL : Hid (∀ W, ArgW W v l → Calls Try.prog 21 #[v] W (GivesW l W)) := Lib.hid (fun W h => clone_own v l W h hl)
  have HOK : Hid (sqOk n l.length) := Lib.hid (by simpa [sqOk] using hr)
  have HX := Lib.hid hx
  generalize sqLo n = lo at *
  generalize sqHi n = hi at *
  replace HR := Lib.hid (HR.out lo hi)
  rw [hr] at HR
  have hE := sqDo_err n 2 l a
  have hE2 := sqDo_err_lt n 2 l a
  obtain ⟨l', val, er, hD⟩ : ∃ l' val er, sqDo n 2 l a = (l', val, er) := ⟨_, _, _, rfl⟩
  rw [hD] at hE hE2 ⊢
  have HD := Lib.hid hD
  dsimp only at hE hE2
  clear hr hA hl hx hD
  by_cases he : er = 0
  · subst he
    clear hE hE2
    go_enter Try.func14, Try.ntmps14
    go_wp2_with (first
    | (go_at_call 16; refine (HF.out _).mono ?_; rintro e w5 ⟨g0, e0, g1, e1, g2, e2, rfl, hk0, hk1, hk2, hb⟩; (have HF5 := Lib.hid ((Fr.init w).step hb)); (have HA5 : Hid (ArgW (w5.alloc (Obj.cells #[Value.int .i64 (lo : Int), .int .i64 (hi : Int), .func (.func g0) #[] e0.toArray, .func (.func g1) #[] e1.toArray, .func (.func g2) #[] e2.toArray] 43)) v l) := Lib.hid (ArgW.alloc (HA.out.below hb) _)); (have hen := hk2.1); (have HK0 := Lib.hid hk0); (have HK1 := Lib.hid hk1); (have HK2 := Lib.hid hk2); clear hb hk0 hk1 hk2)
    | (go_at_call 18; refine (HR.out _ _ _ _ HA5.out).mono ?_; rintro e w6 ⟨rfl, hb⟩; (have hs6 : w6.heap[w5.heap.size]? = some (Obj.cells #[Value.int .i64 (lo : Int), .int .i64 (hi : Int), .func (.func g0) #[] e0.toArray, .func (.func g1) #[] e1.toArray, .func (.func g2) #[] e2.toArray] 43) := (hb.block _ (by simp)).trans (heap_alloc_new _ _)); (have c0 := cell_of_blk (k := 0) hs6 rfl); (have c1 := cell_of_blk (k := 1) hs6 rfl); (have c2 := cell_of_blk (k := 2) hs6 rfl); (have c3 := cell_of_blk (k := 3) hs6 rfl); (have c4 := cell_of_blk (k := 4) hs6 rfl); (have HF6 := Lib.hid ((HF5.out.alloc (Obj.cells #[Value.int .i64 (lo : Int), .int .i64 (hi : Int), .func (.func g0) #[] e0.toArray, .func (.func g1) #[] e1.toArray, .func (.func g2) #[] e2.toArray] 43)).step hb)); (have HB56 : Hid (Below w5.heap.size w5 w6) := Lib.hid (((Below.refl _ _).alloc (Nat.le_refl _) _).trans (hb.mono (by simp)))); (have HA6 := Lib.hid (HA5.out.below hb)); clear hb hs6)
    | (go_at_call 20; refine (effect_any (.func (.func g2) #[] e2.toArray) lo hi (.func (.func g0) #[] e0.toArray) (.func (.func g1) #[] e1.toArray) (.func (.func g2) #[] e2.toArray) 2 _ (.inr (.inr (.inl ⟨rfl, rfl⟩)))).mono ?_; rintro e w8 ⟨rfl, hb⟩; (have HF8 := Lib.hid (HF6.out.step hb)); (have HA8 := Lib.hid (HA6.out.below hb)); (have HB58 : Hid (Below w5.heap.size w5 w8) := Lib.hid (HB56.out.trans (hb.mono HB56.out.size))); clear hb)
    | (go_at_call 21; refine (HCL.out _ HA8.out).mono ?_; rintro e w9 ⟨v9, rfl, ho, hb⟩; (have HF9 := Lib.hid (HF8.out.step hb)); (have HA9 := Lib.hid (HA8.out.below hb)); (have HO9 := Lib.hid ho); (have HB59 : Hid (Below w5.heap.size w5 w9) := Lib.hid (HB58.out.trans (hb.mono HB58.out.size))); (have HC : Hid (Calls Try.prog g2 (v9 :: .int .u64 (a : Int) :: e2).toArray w9 (EffP w8.heap.size w9 (l', val, 0))) := Lib.hid (by rw [← HD.out]; exact HK2.out.2 w9 w8.heap.size v9 l a HB59.out HB58.out.size hb.size ho HOK.out HX.out ha)); (have hlt8 := HF8.out.lt); (have HB89 := Lib.hid hb); (have hsz := hb.size); clear hb ho)
    | (refine HC.out.mono ?_; rintro e wz ⟨vz, rfl, ho, hb⟩; (have HF7 := Lib.hid (HF9.out.step' hb hlt8)); (have HO7 := Lib.hid ho); (obtain ⟨k0, k1, k2⟩ := HF7.out.cells); (have z0 := HF7.out.free 0); (have z1 := HF7.out.free 1); (have z2 := HF7.out.free 2); clear hb ho))
    refine bodyPost_ret (v := .tuple #[vz, .agg #[.int .i64 0, .int .u64 (val : Int), .slice none 0 0]]) (by simp [results, Try.results14, go_sem, k0, k1, k2]) rfl ⟨_, rfl, HF7.out.own HO7.out hlt8 _ _ _, HF7.out.put _ _ _⟩
  · obtain ⟨rfl, rfl⟩ : l = l' ∧ 0 = val := by
      rcases hE with h | h
      · exact absurd h he
      · simp at h; exact ⟨h.1.symm, h.2.symm⟩
    clear hE
    go_enter Try.func14, Try.ntmps14
    go_wp2_with (first
    | (go_at_call 16; refine (HF.out _).mono ?_; rintro e w5 ⟨g0, e0, g1, e1, g2, e2, rfl, hk0, hk1, hk2, hb⟩; (have HF5 := Lib.hid ((Fr.init w).step hb)); (have HA5 : Hid (ArgW (w5.alloc (Obj.cells #[Value.int .i64 (lo : Int), .int .i64 (hi : Int), .func (.func g0) #[] e0.toArray, .func (.func g1) #[] e1.toArray, .func (.func g2) #[] e2.toArray] 43)) v l) := Lib.hid (ArgW.alloc (HA.out.below hb) _)); (have hen := hk2.1); (have HK0 := Lib.hid hk0); (have HK1 := Lib.hid hk1); (have HK2 := Lib.hid hk2); clear hb hk0 hk1 hk2)
    | (go_at_call 18; refine (HR.out _ _ _ _ HA5.out).mono ?_; rintro e w6 ⟨rfl, hb⟩; (have hs6 : w6.heap[w5.heap.size]? = some (Obj.cells #[Value.int .i64 (lo : Int), .int .i64 (hi : Int), .func (.func g0) #[] e0.toArray, .func (.func g1) #[] e1.toArray, .func (.func g2) #[] e2.toArray] 43) := (hb.block _ (by simp)).trans (heap_alloc_new _ _)); (have c0 := cell_of_blk (k := 0) hs6 rfl); (have c1 := cell_of_blk (k := 1) hs6 rfl); (have c2 := cell_of_blk (k := 2) hs6 rfl); (have c3 := cell_of_blk (k := 3) hs6 rfl); (have c4 := cell_of_blk (k := 4) hs6 rfl); (have HF6 := Lib.hid ((HF5.out.alloc (Obj.cells #[Value.int .i64 (lo : Int), .int .i64 (hi : Int), .func (.func g0) #[] e0.toArray, .func (.func g1) #[] e1.toArray, .func (.func g2) #[] e2.toArray] 43)).step hb)); (have HB56 : Hid (Below w5.heap.size w5 w6) := Lib.hid (((Below.refl _ _).alloc (Nat.le_refl _) _).trans (hb.mono (by simp)))); (have HA6 := Lib.hid (HA5.out.below hb)); clear hb hs6)
    | (go_at_call 20; refine (effect_any (.func (.func g2) #[] e2.toArray) lo hi (.func (.func g0) #[] e0.toArray) (.func (.func g1) #[] e1.toArray) (.func (.func g2) #[] e2.toArray) 2 _ (.inr (.inr (.inl ⟨rfl, rfl⟩)))).mono ?_; rintro e w8 ⟨rfl, hb⟩; (have HF8 := Lib.hid (HF6.out.step hb)); (have HA8 := Lib.hid (HA6.out.below hb)); (have HB58 : Hid (Below w5.heap.size w5 w8) := Lib.hid (HB56.out.trans (hb.mono HB56.out.size))); clear hb)
    | (go_at_call 21; refine (HCL.out _ HA8.out).mono ?_; rintro e w9 ⟨v9, rfl, ho, hb⟩; (have HF9 := Lib.hid (HF8.out.step hb)); (have HA9 := Lib.hid (HA8.out.below hb)); (have HO9 := Lib.hid ho); (have HB59 : Hid (Below w5.heap.size w5 w9) := Lib.hid (HB58.out.trans (hb.mono HB58.out.size))); (have HC : Hid (Calls Try.prog g2 (v9 :: .int .u64 (a : Int) :: e2).toArray w9 (EffP w8.heap.size w9 (l, 0, er))) := Lib.hid (by rw [← HD.out]; exact HK2.out.2 w9 w8.heap.size v9 l a HB59.out HB58.out.size hb.size ho HOK.out HX.out ha)); (have hlt8 := HF8.out.lt); (have HB89 := Lib.hid hb); (have hsz := hb.size); clear hb ho)
    | (refine HC.out.mono ?_; rintro e wz ⟨vz, rfl, ho, hb⟩; (have HFz := Lib.hid (HF9.out.step' hb hlt8)); (have HAz := Lib.hid (HA8.out.keep (fun b hb2 => (hb.block b hb2).trans (HB89.out.block b hb2)))); clear hb ho)
    | (go_at_call 19; refine (HRF.out er _ HAz.out).mono ?_; rintro e w7 ⟨v7, rfl, ho, hb⟩; (have HF7 := Lib.hid (HFz.out.step hb)); (have HO7 := Lib.hid ho); (have hlt := HFz.out.lt); (obtain ⟨k0, k1, k2⟩ := HF7.out.cells); (have z0 := HF7.out.free 0); (have z1 := HF7.out.free 1); (have z2 := HF7.out.free 2); clear hb ho))
    refine bodyPost_ret (v := .tuple #[v7, .agg #[.int .i64 (er : Int), .int .u64 0, .slice none 0 0]]) (by simp [results, Try.results14, go_sem, k0, k1, k2]) rfl ⟨_, rfl, HF7.out.own HO7.out hlt _ _ _, HF7.out.put _ _ _⟩

end Go.Proofs.Ytlcnhmijagddgaa
