/- Apply. | Apply, whatever it is given; the reference's Kinds, New and Right. | The reference's set, row and Apply. -/
import Derived.Test.YtjjleghalajidaaGreatGS1
namespace Go.Proofs.YtjjleghalajidaaGreat
section
set_option maxRecDepth 100000
open Go.ChangeShapes Go.WideShapes Go.ChangeAt Go.RowKit
set_option linter.unusedVariables false
set_option linter.unusedSimpArgs false

def sqAp (t k : Int) (l : List Nat) (a : Nat) : List Nat × Nat × Nat :=
  if sqRight t l = true then (if 0 ≤ k ∧ k < (sqN t.toNat : Int) then sqDo t.toNat k.toNat l a else (l, 0, 9)) else (l, 0, 1)
theorem sqDo_err (t k : Nat) (l : List Nat) (a : Nat) : (sqDo t k l a).2.2 = 0 ∨ sqDo t k l a = (l, 0, (sqDo t k l a).2.2) := by
  unfold sqDo
  split <;> (try split) <;> (try split) <;> first | exact .inl rfl | exact .inr rfl
theorem sqDo_err_lt (t k : Nat) (l : List Nat) (a : Nat) : (sqDo t k l a).2.2 ≤ 10 := by
  unfold sqDo
  split <;> (try split) <;> (try split) <;> simp

def ansO : Obj := .cells #[.int .i64 0, .int .u64 0, .slice none 0 0] 57
/-- a world behind w, in which the answer's cell lies right above what there was -/
structure Fr (w wx : World) : Prop where
  ans : wx.heap[w.heap.size]? = some ansO
  bel : Below w.heap.size w wx
theorem Fr.init (w : World) : Fr w (w.alloc ansO) := ⟨heap_alloc_new _ _, (Below.refl _ _).alloc (Nat.le_refl _) _⟩
theorem Fr.lt {w wx : World} (h : Fr w wx) : w.heap.size < wx.heap.size := blk_lt h.ans
theorem Fr.step {w wx wy : World} (h : Fr w wx) (hb : Below wx.heap.size wx wy) : Fr w wy := ⟨(hb.block _ h.lt).trans h.ans, h.bel.trans (hb.mono (by have := h.lt; omega))⟩
theorem Fr.step' {w wx wy : World} {B : Nat} (h : Fr w wx) (hb : Below B wx wy) (hB : w.heap.size < B) : Fr w wy := ⟨(hb.block _ hB).trans h.ans, h.bel.trans (hb.mono (by omega))⟩
theorem Fr.alloc {w wx : World} (h : Fr w wx) (o : Obj) : Fr w (wx.alloc o) := ⟨(Below.heap_alloc wx o _ h.lt).trans h.ans, h.bel.alloc (by have := h.lt; omega) o⟩
theorem Fr.cells {w wx : World} (h : Fr w wx) : wx.cell? ⟨w.heap.size, 0, none⟩ = some (.int .i64 0) ∧ wx.cell? ⟨w.heap.size, 1, none⟩ = some (.int .u64 0) ∧ wx.cell? ⟨w.heap.size, 2, none⟩ = some (.slice none 0 0) :=
  ⟨cell_of_blk h.ans rfl, cell_of_blk h.ans rfl, cell_of_blk h.ans rfl⟩
theorem Fr.free {w wx : World} (h : Fr w wx) (k : Nat) : wx.frozen? ⟨w.heap.size, k, none⟩ = false := free_of_blk h.ans
theorem Fr.own {w wx : World} (h : Fr w wx) {v : Value} {l : List Nat} {B : Nat} (ho : OwnW wx B v l) (hB : w.heap.size < B) (a b c : Value) : OwnW (((wx.setCell ⟨w.heap.size, 0, none⟩ a).setCell ⟨w.heap.size, 1, none⟩ b).setCell ⟨w.heap.size, 2, none⟩ c) w.heap.size v l :=
  (((ho.other _ (ho.lt (a := ⟨w.heap.size, 0, none⟩) hB)).other _ (ho.lt (a := ⟨w.heap.size, 1, none⟩) hB)).other _ (ho.lt (a := ⟨w.heap.size, 2, none⟩) hB)).mono (by omega)
theorem Fr.put {w wx : World} (h : Fr w wx) (a b c : Value) : Below w.heap.size w (((wx.setCell ⟨w.heap.size, 0, none⟩ a).setCell ⟨w.heap.size, 1, none⟩ b).setCell ⟨w.heap.size, 2, none⟩ c) :=
  ((h.bel.setCell (p := ⟨w.heap.size, 0, none⟩) (Nat.le_refl _) _).setCell (p := ⟨w.heap.size, 1, none⟩) (Nat.le_refl _) _).setCell (p := ⟨w.heap.size, 2, none⟩) (Nat.le_refl _) _

set_option maxHeartbeats 1000000 in
theorem apply_none (t k : Int) (v : Value) (l : List Nat) (a : Nat) (w : World) (hA : ArgW w v l) (hl : l.length ≤ 4294967296) (ht : ¬ (0 ≤ t ∧ t ≤ 7)) :
    Calls Tryz.prog 157 #[.int .i64 t, v, .int .i64 k, .int .u64 (a : Int)] w (ApP w (l, 0, 1)) := by
  have HA : Hid (ArgW (w.alloc ansO) v l) := Lib.hid (hA.alloc _)
  have HRF : Hid (∀ k W, ArgW W v l → Calls Tryz.prog 177 #[v, .int .i64 ((k : Nat) : Int)] W (ApP W (l, 0, k))) := Lib.hid (fun k W h => refuse_any v l k W h hl)
  have HF := Lib.hid (fun w => find_none t w ht)
  clear ht hA hl
  go_enter Tryz.func157, Tryz.ntmps157
  go_wp2_with (first
    | (go_at_call 109; refine (HF.out _).mono ?_; rintro e w5 ⟨rfl, hb⟩; (have HF5 := Lib.hid (((Fr.init w).step hb).alloc (.cells #[.int .i64 0, .int .i64 0, .nilFunc, .nilFunc, .nilFunc] 161))); (have HA5 : Hid (ArgW (w5.alloc (.cells #[.int .i64 0, .int .i64 0, .nilFunc, .nilFunc, .nilFunc] 161)) v l) := Lib.hid (ArgW.alloc (HA.out.below hb) _)); clear hb)
    | (go_at_call 177; refine (HRF.out 1 _ HA5.out).mono ?_; rintro e w7 ⟨v7, rfl, ho, hb⟩; (have HF7 := Lib.hid (HF5.out.step hb)); (have HO7 := Lib.hid ho); (have hlt := HF5.out.lt); (obtain ⟨k0, k1, k2⟩ := HF7.out.cells); (have z0 := HF7.out.free 0); (have z1 := HF7.out.free 1); (have z2 := HF7.out.free 2); clear hb ho))
  refine bodyPost_ret (v := .tuple #[v7, .agg #[.int .i64 1, .int .u64 0, .slice none 0 0]]) (by simp [results, Tryz.results157, go_sem, k0, k1, k2]) rfl ⟨_, rfl, HF7.out.own HO7.out hlt _ _ _, HF7.out.put _ _ _⟩

set_option maxHeartbeats 1000000 in
theorem apply2_wrong (n : Nat) (k : Int) (v : Value) (l : List Nat) (a : Nat) (w : World) (hA : ArgW w v l) (hl : l.length ≤ 4294967296) (hn : n ≤ 7) (hN : sqN n = 2) (hr : (decide (sqLo n ≤ l.length) && decide (l.length ≤ sqHi n)) = false) :
    Calls Tryz.prog 157 #[.int .i64 (n : Int), v, .int .i64 k, .int .u64 (a : Int)] w (ApP w (l, 0, 1)) := by
  have HA : Hid (ArgW (w.alloc ansO) v l) := Lib.hid (hA.alloc _)
  have HRF : Hid (∀ k W, ArgW W v l → Calls Tryz.prog 177 #[v, .int .i64 ((k : Nat) : Int)] W (ApP W (l, 0, k))) := Lib.hid (fun k W h => refuse_any v l k W h hl)
  have HF := Lib.hid (fun w => find2_any n hn hN w)
  have HR := Lib.hid (fun lo hi f0 f1 f2 W (h : ArgW W v l) => right_any lo hi f0 f1 f2 v l W h (Nat.le_trans hl (by decide)))
  unfold Find2 at HF
  generalize sqLo n = lo at *
  generalize sqHi n = hi at *
  replace HR := Lib.hid (HR.out lo hi)
  rw [hr] at HR
  clear hr hA hl
  go_enter Tryz.func157, Tryz.ntmps157
  go_wp2_with (first
    | (go_at_call 109; refine (HF.out _).mono ?_; rintro e w5 ⟨g0, e0, g1, e1, rfl, hk0, hk1, hb⟩; (have HF5 := Lib.hid ((Fr.init w).step hb)); (have HA5 : Hid (ArgW (w5.alloc (Obj.cells #[Value.int .i64 (lo : Int), .int .i64 (hi : Int), .func (.func g0) #[] e0.toArray, .func (.func g1) #[] e1.toArray, .nilFunc] 161)) v l) := Lib.hid (ArgW.alloc (HA.out.below hb) _)); (have HK0 := Lib.hid hk0); (have HK1 := Lib.hid hk1); clear hb hk0 hk1)
    | (go_at_call 145; refine (HR.out _ _ _ _ HA5.out).mono ?_; rintro e w6 ⟨rfl, hb⟩; (have hs6 : w6.heap[w5.heap.size]? = some (Obj.cells #[Value.int .i64 (lo : Int), .int .i64 (hi : Int), .func (.func g0) #[] e0.toArray, .func (.func g1) #[] e1.toArray, .nilFunc] 161) := (hb.block _ (by simp)).trans (heap_alloc_new _ _)); (have c0 := cell_of_blk (k := 0) hs6 rfl); (have c1 := cell_of_blk (k := 1) hs6 rfl); (have c2 := cell_of_blk (k := 2) hs6 rfl); (have c3 := cell_of_blk (k := 3) hs6 rfl); (have c4 := cell_of_blk (k := 4) hs6 rfl); (have HF6 := Lib.hid ((HF5.out.alloc (Obj.cells #[Value.int .i64 (lo : Int), .int .i64 (hi : Int), .func (.func g0) #[] e0.toArray, .func (.func g1) #[] e1.toArray, .nilFunc] 161)).step hb)); (have HB56 : Hid (Below w5.heap.size w5 w6) := Lib.hid (((Below.refl _ _).alloc (Nat.le_refl _) _).trans (hb.mono (by simp)))); (have HA6 := Lib.hid (HA5.out.below hb)); clear hb hs6)
    | (go_at_call 177; refine (HRF.out 1 _ HA6.out).mono ?_; rintro e w7 ⟨v7, rfl, ho, hb⟩; (have HF7 := Lib.hid (HF6.out.step hb)); (have HO7 := Lib.hid ho); (have hlt := HF6.out.lt); (obtain ⟨k0, k1, k2⟩ := HF7.out.cells); (have z0 := HF7.out.free 0); (have z1 := HF7.out.free 1); (have z2 := HF7.out.free 2); clear hb ho))
  refine bodyPost_ret (v := .tuple #[v7, .agg #[.int .i64 1, .int .u64 0, .slice none 0 0]]) (by simp [results, Tryz.results157, go_sem, k0, k1, k2]) rfl ⟨_, rfl, HF7.out.own HO7.out hlt _ _ _, HF7.out.put _ _ _⟩

set_option maxHeartbeats 1000000 in
theorem apply2_kind (n : Nat) (k : Int) (v : Value) (l : List Nat) (a : Nat) (w : World) (hA : ArgW w v l) (hl : l.length ≤ 4294967296) (hn : n ≤ 7) (hN : sqN n = 2) (hr : (decide (sqLo n ≤ l.length) && decide (l.length ≤ sqHi n)) = true) (hk : ¬ (0 ≤ k ∧ k < 2)) :
    Calls Tryz.prog 157 #[.int .i64 (n : Int), v, .int .i64 k, .int .u64 (a : Int)] w (ApP w (l, 0, 9)) := by
  have HA : Hid (ArgW (w.alloc ansO) v l) := Lib.hid (hA.alloc _)
  have HRF : Hid (∀ k W, ArgW W v l → Calls Tryz.prog 177 #[v, .int .i64 ((k : Nat) : Int)] W (ApP W (l, 0, k))) := Lib.hid (fun k W h => refuse_any v l k W h hl)
  have HF := Lib.hid (fun w => find2_any n hn hN w)
  have HR := Lib.hid (fun lo hi f0 f1 f2 W (h : ArgW W v l) => right_any lo hi f0 f1 f2 v l W h (Nat.le_trans hl (by decide)))
  unfold Find2 at HF
  have qF := run_eql_func
  have qN := run_eql_nilF
  have HE : Hid (∀ (lo hi : Int) (f0 f1 : Value) (_f2 : Value) W, Calls Tryz.prog 178 #[.agg #[.int .i64 lo, .int .i64 hi, f0, f1, .nilFunc], .int .i64 k] W fun e w' => e = .returned .nilFunc ∧ Below W.heap.size W w') := Lib.hid (fun lo hi f0 f1 f2 W => effect_any .nilFunc lo hi f0 f1 .nilFunc k W (by by_cases h2 : k = 2; exact .inr (.inr (.inl ⟨h2, rfl⟩)); exact .inr (.inr (.inr ⟨by omega, rfl⟩))))
  generalize sqLo n = lo at *
  generalize sqHi n = hi at *
  replace HR := Lib.hid (HR.out lo hi)
  rw [hr] at HR
  clear hr hA hl hk
  go_enter Tryz.func157, Tryz.ntmps157
  go_wp2_with (first
    | (go_at_call 109; refine (HF.out _).mono ?_; rintro e w5 ⟨g0, e0, g1, e1, rfl, hk0, hk1, hb⟩; (have HF5 := Lib.hid ((Fr.init w).step hb)); (have HA5 : Hid (ArgW (w5.alloc (Obj.cells #[Value.int .i64 (lo : Int), .int .i64 (hi : Int), .func (.func g0) #[] e0.toArray, .func (.func g1) #[] e1.toArray, .nilFunc] 161)) v l) := Lib.hid (ArgW.alloc (HA.out.below hb) _)); (have HK0 := Lib.hid hk0); (have HK1 := Lib.hid hk1); clear hb hk0 hk1)
    | (go_at_call 145; refine (HR.out _ _ _ _ HA5.out).mono ?_; rintro e w6 ⟨rfl, hb⟩; (have hs6 : w6.heap[w5.heap.size]? = some (Obj.cells #[Value.int .i64 (lo : Int), .int .i64 (hi : Int), .func (.func g0) #[] e0.toArray, .func (.func g1) #[] e1.toArray, .nilFunc] 161) := (hb.block _ (by simp)).trans (heap_alloc_new _ _)); (have c0 := cell_of_blk (k := 0) hs6 rfl); (have c1 := cell_of_blk (k := 1) hs6 rfl); (have c2 := cell_of_blk (k := 2) hs6 rfl); (have c3 := cell_of_blk (k := 3) hs6 rfl); (have c4 := cell_of_blk (k := 4) hs6 rfl); (have HF6 := Lib.hid ((HF5.out.alloc (Obj.cells #[Value.int .i64 (lo : Int), .int .i64 (hi : Int), .func (.func g0) #[] e0.toArray, .func (.func g1) #[] e1.toArray, .nilFunc] 161)).step hb)); (have HB56 : Hid (Below w5.heap.size w5 w6) := Lib.hid (((Below.refl _ _).alloc (Nat.le_refl _) _).trans (hb.mono (by simp)))); (have HA6 := Lib.hid (HA5.out.below hb)); clear hb hs6)
    | (go_at_call 178; refine (HE.out _ _ _ _ .nilFunc _).mono ?_; rintro e w8 ⟨rfl, hb⟩; (have HF8 := Lib.hid (HF6.out.step hb)); (have HA8 := Lib.hid (HA6.out.below hb)); clear hb)
    | (go_at_call 177; refine (HRF.out 9 _ HA8.out).mono ?_; rintro e w7 ⟨v7, rfl, ho, hb⟩; (have HF7 := Lib.hid (HF8.out.step hb)); (have HO7 := Lib.hid ho); (have hlt := HF8.out.lt); (obtain ⟨k0, k1, k2⟩ := HF7.out.cells); (have z0 := HF7.out.free 0); (have z1 := HF7.out.free 1); (have z2 := HF7.out.free 2); clear hb ho))
  refine bodyPost_ret (v := .tuple #[v7, .agg #[.int .i64 9, .int .u64 0, .slice none 0 0]]) (by simp [results, Tryz.results157, go_sem, k0, k1, k2]) rfl ⟨_, rfl, HF7.out.own HO7.out hlt _ _ _, HF7.out.put _ _ _⟩

set_option maxHeartbeats 1000000 in
theorem apply2_0 (n : Nat) (v : Value) (l : List Nat) (a : Nat) (w : World) (hA : ArgW w v l) (hl : l.length ≤ 4294967296) (hn : n ≤ 7) (hN : sqN n = 2) (hr : (decide (sqLo n ≤ l.length) && decide (l.length ≤ sqHi n)) = true) (hx : ∀ x ∈ l, x < 18446744073709551616) (ha : a < 18446744073709551616) :
    Calls Tryz.prog 157 #[.int .i64 (n : Int), v, .int .i64 0, .int .u64 (a : Int)] w (ApP w (sqDo n 0 l a)) := by
  have HA : Hid (ArgW (w.alloc ansO) v l) := Lib.hid (hA.alloc _)
  have HRF : Hid (∀ k W, ArgW W v l → Calls Tryz.prog 177 #[v, .int .i64 ((k : Nat) : Int)] W (ApP W (l, 0, k))) := Lib.hid (fun k W h => refuse_any v l k W h hl)
  have HF := Lib.hid (fun w => find2_any n hn hN w)
  have HR := Lib.hid (fun lo hi f0 f1 f2 W (h : ArgW W v l) => right_any lo hi f0 f1 f2 v l W h (Nat.le_trans hl (by decide)))
  unfold Find2 at HF
  have qF := run_eql_func
  have qN := run_eql_nilF
  have HCL : Hid (∀ W, ArgW W v l → Calls Tryz.prog 92 #[v] W (GivesW l W)) := Lib.hid (fun W h => clone_own v l W h hl)
  have HOK : Hid (sqOk n l.length) := Lib.hid (by simpa [sqOk] using hr)
  have HX := Lib.hid hx
  generalize sqLo n = lo at *
  generalize sqHi n = hi at *
  replace HR := Lib.hid (HR.out lo hi)
  rw [hr] at HR
  have hE := sqDo_err n 0 l a
  have hE2 := sqDo_err_lt n 0 l a
  obtain ⟨l', val, er, hD⟩ : ∃ l' val er, sqDo n 0 l a = (l', val, er) := ⟨_, _, _, rfl⟩
  rw [hD] at hE hE2 ⊢
  have HD := Lib.hid hD
  dsimp only at hE hE2
  clear hr hA hl hx hD
  by_cases he : er = 0
  · subst he
    clear hE hE2
    go_enter Tryz.func157, Tryz.ntmps157
    go_wp2_with (first
    | (go_at_call 109; refine (HF.out _).mono ?_; rintro e w5 ⟨g0, e0, g1, e1, rfl, hk0, hk1, hb⟩; (have HF5 := Lib.hid ((Fr.init w).step hb)); (have HA5 : Hid (ArgW (w5.alloc (Obj.cells #[Value.int .i64 (lo : Int), .int .i64 (hi : Int), .func (.func g0) #[] e0.toArray, .func (.func g1) #[] e1.toArray, .nilFunc] 161)) v l) := Lib.hid (ArgW.alloc (HA.out.below hb) _)); (have hen := hk0.1); (have HK0 := Lib.hid hk0); (have HK1 := Lib.hid hk1); clear hb hk0 hk1)
    | (go_at_call 145; refine (HR.out _ _ _ _ HA5.out).mono ?_; rintro e w6 ⟨rfl, hb⟩; (have hs6 : w6.heap[w5.heap.size]? = some (Obj.cells #[Value.int .i64 (lo : Int), .int .i64 (hi : Int), .func (.func g0) #[] e0.toArray, .func (.func g1) #[] e1.toArray, .nilFunc] 161) := (hb.block _ (by simp)).trans (heap_alloc_new _ _)); (have c0 := cell_of_blk (k := 0) hs6 rfl); (have c1 := cell_of_blk (k := 1) hs6 rfl); (have c2 := cell_of_blk (k := 2) hs6 rfl); (have c3 := cell_of_blk (k := 3) hs6 rfl); (have c4 := cell_of_blk (k := 4) hs6 rfl); (have HF6 := Lib.hid ((HF5.out.alloc (Obj.cells #[Value.int .i64 (lo : Int), .int .i64 (hi : Int), .func (.func g0) #[] e0.toArray, .func (.func g1) #[] e1.toArray, .nilFunc] 161)).step hb)); (have HB56 : Hid (Below w5.heap.size w5 w6) := Lib.hid (((Below.refl _ _).alloc (Nat.le_refl _) _).trans (hb.mono (by simp)))); (have HA6 := Lib.hid (HA5.out.below hb)); clear hb hs6)
    | (go_at_call 178; refine (effect_any (.func (.func g0) #[] e0.toArray) lo hi (.func (.func g0) #[] e0.toArray) (.func (.func g1) #[] e1.toArray) (.nilFunc) 0 _ (.inl ⟨rfl, rfl⟩)).mono ?_; rintro e w8 ⟨rfl, hb⟩; (have HF8 := Lib.hid (HF6.out.step hb)); (have HA8 := Lib.hid (HA6.out.below hb)); (have HB58 : Hid (Below w5.heap.size w5 w8) := Lib.hid (HB56.out.trans (hb.mono HB56.out.size))); clear hb)
    | (go_at_call 92; refine (HCL.out _ HA8.out).mono ?_; rintro e w9 ⟨v9, rfl, ho, hb⟩; (have HF9 := Lib.hid (HF8.out.step hb)); (have HA9 := Lib.hid (HA8.out.below hb)); (have HO9 := Lib.hid ho); (have HB59 : Hid (Below w5.heap.size w5 w9) := Lib.hid (HB58.out.trans (hb.mono HB58.out.size))); (have HC : Hid (Calls Tryz.prog g0 (v9 :: .int .u64 (a : Int) :: e0).toArray w9 (EffP w8.heap.size w9 (l', val, 0))) := Lib.hid (by rw [← HD.out]; exact HK0.out.2 w9 w8.heap.size v9 l a HB59.out HB58.out.size hb.size ho HOK.out HX.out ha)); (have hlt8 := HF8.out.lt); (have HB89 := Lib.hid hb); (have hsz := hb.size); clear hb ho)
    | (refine HC.out.mono ?_; rintro e wz ⟨vz, rfl, ho, hb⟩; (have HF7 := Lib.hid (HF9.out.step' hb hlt8)); (have HO7 := Lib.hid ho); (obtain ⟨k0, k1, k2⟩ := HF7.out.cells); (have z0 := HF7.out.free 0); (have z1 := HF7.out.free 1); (have z2 := HF7.out.free 2); clear hb ho))
    refine bodyPost_ret (v := .tuple #[vz, .agg #[.int .i64 0, .int .u64 (val : Int), .slice none 0 0]]) (by simp [results, Tryz.results157, go_sem, k0, k1, k2]) rfl ⟨_, rfl, HF7.out.own HO7.out hlt8 _ _ _, HF7.out.put _ _ _⟩
  · obtain ⟨rfl, rfl⟩ : l = l' ∧ 0 = val := by
      rcases hE with h | h
      · exact absurd h he
      · simp at h; exact ⟨h.1.symm, h.2.symm⟩
    clear hE
    go_enter Tryz.func157, Tryz.ntmps157
    go_wp2_with (first
    | (go_at_call 109; refine (HF.out _).mono ?_; rintro e w5 ⟨g0, e0, g1, e1, rfl, hk0, hk1, hb⟩; (have HF5 := Lib.hid ((Fr.init w).step hb)); (have HA5 : Hid (ArgW (w5.alloc (Obj.cells #[Value.int .i64 (lo : Int), .int .i64 (hi : Int), .func (.func g0) #[] e0.toArray, .func (.func g1) #[] e1.toArray, .nilFunc] 161)) v l) := Lib.hid (ArgW.alloc (HA.out.below hb) _)); (have hen := hk0.1); (have HK0 := Lib.hid hk0); (have HK1 := Lib.hid hk1); clear hb hk0 hk1)
    | (go_at_call 145; refine (HR.out _ _ _ _ HA5.out).mono ?_; rintro e w6 ⟨rfl, hb⟩; (have hs6 : w6.heap[w5.heap.size]? = some (Obj.cells #[Value.int .i64 (lo : Int), .int .i64 (hi : Int), .func (.func g0) #[] e0.toArray, .func (.func g1) #[] e1.toArray, .nilFunc] 161) := (hb.block _ (by simp)).trans (heap_alloc_new _ _)); (have c0 := cell_of_blk (k := 0) hs6 rfl); (have c1 := cell_of_blk (k := 1) hs6 rfl); (have c2 := cell_of_blk (k := 2) hs6 rfl); (have c3 := cell_of_blk (k := 3) hs6 rfl); (have c4 := cell_of_blk (k := 4) hs6 rfl); (have HF6 := Lib.hid ((HF5.out.alloc (Obj.cells #[Value.int .i64 (lo : Int), .int .i64 (hi : Int), .func (.func g0) #[] e0.toArray, .func (.func g1) #[] e1.toArray, .nilFunc] 161)).step hb)); (have HB56 : Hid (Below w5.heap.size w5 w6) := Lib.hid (((Below.refl _ _).alloc (Nat.le_refl _) _).trans (hb.mono (by simp)))); (have HA6 := Lib.hid (HA5.out.below hb)); clear hb hs6)
    | (go_at_call 178; refine (effect_any (.func (.func g0) #[] e0.toArray) lo hi (.func (.func g0) #[] e0.toArray) (.func (.func g1) #[] e1.toArray) (.nilFunc) 0 _ (.inl ⟨rfl, rfl⟩)).mono ?_; rintro e w8 ⟨rfl, hb⟩; (have HF8 := Lib.hid (HF6.out.step hb)); (have HA8 := Lib.hid (HA6.out.below hb)); (have HB58 : Hid (Below w5.heap.size w5 w8) := Lib.hid (HB56.out.trans (hb.mono HB56.out.size))); clear hb)
    | (go_at_call 92; refine (HCL.out _ HA8.out).mono ?_; rintro e w9 ⟨v9, rfl, ho, hb⟩; (have HF9 := Lib.hid (HF8.out.step hb)); (have HA9 := Lib.hid (HA8.out.below hb)); (have HO9 := Lib.hid ho); (have HB59 : Hid (Below w5.heap.size w5 w9) := Lib.hid (HB58.out.trans (hb.mono HB58.out.size))); (have HC : Hid (Calls Tryz.prog g0 (v9 :: .int .u64 (a : Int) :: e0).toArray w9 (EffP w8.heap.size w9 (l, 0, er))) := Lib.hid (by rw [← HD.out]; exact HK0.out.2 w9 w8.heap.size v9 l a HB59.out HB58.out.size hb.size ho HOK.out HX.out ha)); (have hlt8 := HF8.out.lt); (have HB89 := Lib.hid hb); (have hsz := hb.size); clear hb ho)
    | (refine HC.out.mono ?_; rintro e wz ⟨vz, rfl, ho, hb⟩; (have HFz := Lib.hid (HF9.out.step' hb hlt8)); (have HAz := Lib.hid (HA8.out.keep (fun b hb2 => (hb.block b hb2).trans (HB89.out.block b hb2)))); clear hb ho)
    | (go_at_call 177; refine (HRF.out er _ HAz.out).mono ?_; rintro e w7 ⟨v7, rfl, ho, hb⟩; (have HF7 := Lib.hid (HFz.out.step hb)); (have HO7 := Lib.hid ho); (have hlt := HFz.out.lt); (obtain ⟨k0, k1, k2⟩ := HF7.out.cells); (have z0 := HF7.out.free 0); (have z1 := HF7.out.free 1); (have z2 := HF7.out.free 2); clear hb ho))
    refine bodyPost_ret (v := .tuple #[v7, .agg #[.int .i64 (er : Int), .int .u64 0, .slice none 0 0]]) (by simp [results, Tryz.results157, go_sem, k0, k1, k2]) rfl ⟨_, rfl, HF7.out.own HO7.out hlt _ _ _, HF7.out.put _ _ _⟩

set_option maxHeartbeats 1000000 in
theorem apply2_1 (n : Nat) (v : Value) (l : List Nat) (a : Nat) (w : World) (hA : ArgW w v l) (hl : l.length ≤ 4294967296) (hn : n ≤ 7) (hN : sqN n = 2) (hr : (decide (sqLo n ≤ l.length) && decide (l.length ≤ sqHi n)) = true) (hx : ∀ x ∈ l, x < 18446744073709551616) (ha : a < 18446744073709551616) :
    Calls Tryz.prog 157 #[.int .i64 (n : Int), v, .int .i64 1, .int .u64 (a : Int)] w (ApP w (sqDo n 1 l a)) := by
  have HA : Hid (ArgW (w.alloc ansO) v l) := Lib.hid (hA.alloc _)
  have HRF : Hid (∀ k W, ArgW W v l → Calls Tryz.prog 177 #[v, .int .i64 ((k : Nat) : Int)] W (ApP W (l, 0, k))) := Lib.hid (fun k W h => refuse_any v l k W h hl)
  have HF := Lib.hid (fun w => find2_any n hn hN w)
  have HR := Lib.hid (fun lo hi f0 f1 f2 W (h : ArgW W v l) => right_any lo hi f0 f1 f2 v l W h (Nat.le_trans hl (by decide)))
  unfold Find2 at HF
  have qF := run_eql_func
  have qN := run_eql_nilF
  have HCL : Hid (∀ W, ArgW W v l → Calls Tryz.prog 92 #[v] W (GivesW l W)) := Lib.hid (fun W h => clone_own v l W h hl)
  have HOK : Hid (sqOk n l.length) := Lib.hid (by simpa [sqOk] using hr)
  have HX := Lib.hid hx
  generalize sqLo n = lo at *
  generalize sqHi n = hi at *
  replace HR := Lib.hid (HR.out lo hi)
  rw [hr] at HR
  have hE := sqDo_err n 1 l a
  have hE2 := sqDo_err_lt n 1 l a
  obtain ⟨l', val, er, hD⟩ : ∃ l' val er, sqDo n 1 l a = (l', val, er) := ⟨_, _, _, rfl⟩
  rw [hD] at hE hE2 ⊢
  have HD := Lib.hid hD
  dsimp only at hE hE2
  clear hr hA hl hx hD
  by_cases he : er = 0
  · subst he
    clear hE hE2
    go_enter Tryz.func157, Tryz.ntmps157
    go_wp2_with (first
    | (go_at_call 109; refine (HF.out _).mono ?_; rintro e w5 ⟨g0, e0, g1, e1, rfl, hk0, hk1, hb⟩; (have HF5 := Lib.hid ((Fr.init w).step hb)); (have HA5 : Hid (ArgW (w5.alloc (Obj.cells #[Value.int .i64 (lo : Int), .int .i64 (hi : Int), .func (.func g0) #[] e0.toArray, .func (.func g1) #[] e1.toArray, .nilFunc] 161)) v l) := Lib.hid (ArgW.alloc (HA.out.below hb) _)); (have hen := hk1.1); (have HK0 := Lib.hid hk0); (have HK1 := Lib.hid hk1); clear hb hk0 hk1)
    | (go_at_call 145; refine (HR.out _ _ _ _ HA5.out).mono ?_; rintro e w6 ⟨rfl, hb⟩; (have hs6 : w6.heap[w5.heap.size]? = some (Obj.cells #[Value.int .i64 (lo : Int), .int .i64 (hi : Int), .func (.func g0) #[] e0.toArray, .func (.func g1) #[] e1.toArray, .nilFunc] 161) := (hb.block _ (by simp)).trans (heap_alloc_new _ _)); (have c0 := cell_of_blk (k := 0) hs6 rfl); (have c1 := cell_of_blk (k := 1) hs6 rfl); (have c2 := cell_of_blk (k := 2) hs6 rfl); (have c3 := cell_of_blk (k := 3) hs6 rfl); (have c4 := cell_of_blk (k := 4) hs6 rfl); (have HF6 := Lib.hid ((HF5.out.alloc (Obj.cells #[Value.int .i64 (lo : Int), .int .i64 (hi : Int), .func (.func g0) #[] e0.toArray, .func (.func g1) #[] e1.toArray, .nilFunc] 161)).step hb)); (have HB56 : Hid (Below w5.heap.size w5 w6) := Lib.hid (((Below.refl _ _).alloc (Nat.le_refl _) _).trans (hb.mono (by simp)))); (have HA6 := Lib.hid (HA5.out.below hb)); clear hb hs6)
    | (go_at_call 178; refine (effect_any (.func (.func g1) #[] e1.toArray) lo hi (.func (.func g0) #[] e0.toArray) (.func (.func g1) #[] e1.toArray) (.nilFunc) 1 _ (.inr (.inl ⟨rfl, rfl⟩))).mono ?_; rintro e w8 ⟨rfl, hb⟩; (have HF8 := Lib.hid (HF6.out.step hb)); (have HA8 := Lib.hid (HA6.out.below hb)); (have HB58 : Hid (Below w5.heap.size w5 w8) := Lib.hid (HB56.out.trans (hb.mono HB56.out.size))); clear hb)
    | (go_at_call 92; refine (HCL.out _ HA8.out).mono ?_; rintro e w9 ⟨v9, rfl, ho, hb⟩; (have HF9 := Lib.hid (HF8.out.step hb)); (have HA9 := Lib.hid (HA8.out.below hb)); (have HO9 := Lib.hid ho); (have HB59 : Hid (Below w5.heap.size w5 w9) := Lib.hid (HB58.out.trans (hb.mono HB58.out.size))); (have HC : Hid (Calls Tryz.prog g1 (v9 :: .int .u64 (a : Int) :: e1).toArray w9 (EffP w8.heap.size w9 (l', val, 0))) := Lib.hid (by rw [← HD.out]; exact HK1.out.2 w9 w8.heap.size v9 l a HB59.out HB58.out.size hb.size ho HOK.out HX.out ha)); (have hlt8 := HF8.out.lt); (have HB89 := Lib.hid hb); (have hsz := hb.size); clear hb ho)
    | (refine HC.out.mono ?_; rintro e wz ⟨vz, rfl, ho, hb⟩; (have HF7 := Lib.hid (HF9.out.step' hb hlt8)); (have HO7 := Lib.hid ho); (obtain ⟨k0, k1, k2⟩ := HF7.out.cells); (have z0 := HF7.out.free 0); (have z1 := HF7.out.free 1); (have z2 := HF7.out.free 2); clear hb ho))
    refine bodyPost_ret (v := .tuple #[vz, .agg #[.int .i64 0, .int .u64 (val : Int), .slice none 0 0]]) (by simp [results, Tryz.results157, go_sem, k0, k1, k2]) rfl ⟨_, rfl, HF7.out.own HO7.out hlt8 _ _ _, HF7.out.put _ _ _⟩
  · obtain ⟨rfl, rfl⟩ : l = l' ∧ 0 = val := by
      rcases hE with h | h
      · exact absurd h he
      · simp at h; exact ⟨h.1.symm, h.2.symm⟩
    clear hE
    go_enter Tryz.func157, Tryz.ntmps157
    go_wp2_with (first
    | (go_at_call 109; refine (HF.out _).mono ?_; rintro e w5 ⟨g0, e0, g1, e1, rfl, hk0, hk1, hb⟩; (have HF5 := Lib.hid ((Fr.init w).step hb)); (have HA5 : Hid (ArgW (w5.alloc (Obj.cells #[Value.int .i64 (lo : Int), .int .i64 (hi : Int), .func (.func g0) #[] e0.toArray, .func (.func g1) #[] e1.toArray, .nilFunc] 161)) v l) := Lib.hid (ArgW.alloc (HA.out.below hb) _)); (have hen := hk1.1); (have HK0 := Lib.hid hk0); (have HK1 := Lib.hid hk1); clear hb hk0 hk1)
    | (go_at_call 145; refine (HR.out _ _ _ _ HA5.out).mono ?_; rintro e w6 ⟨rfl, hb⟩; (have hs6 : w6.heap[w5.heap.size]? = some (Obj.cells #[Value.int .i64 (lo : Int), .int .i64 (hi : Int), .func (.func g0) #[] e0.toArray, .func (.func g1) #[] e1.toArray, .nilFunc] 161) := (hb.block _ (by simp)).trans (heap_alloc_new _ _)); (have c0 := cell_of_blk (k := 0) hs6 rfl); (have c1 := cell_of_blk (k := 1) hs6 rfl); (have c2 := cell_of_blk (k := 2) hs6 rfl); (have c3 := cell_of_blk (k := 3) hs6 rfl); (have c4 := cell_of_blk (k := 4) hs6 rfl); (have HF6 := Lib.hid ((HF5.out.alloc (Obj.cells #[Value.int .i64 (lo : Int), .int .i64 (hi : Int), .func (.func g0) #[] e0.toArray, .func (.func g1) #[] e1.toArray, .nilFunc] 161)).step hb)); (have HB56 : Hid (Below w5.heap.size w5 w6) := Lib.hid (((Below.refl _ _).alloc (Nat.le_refl _) _).trans (hb.mono (by simp)))); (have HA6 := Lib.hid (HA5.out.below hb)); clear hb hs6)
    | (go_at_call 178; refine (effect_any (.func (.func g1) #[] e1.toArray) lo hi (.func (.func g0) #[] e0.toArray) (.func (.func g1) #[] e1.toArray) (.nilFunc) 1 _ (.inr (.inl ⟨rfl, rfl⟩))).mono ?_; rintro e w8 ⟨rfl, hb⟩; (have HF8 := Lib.hid (HF6.out.step hb)); (have HA8 := Lib.hid (HA6.out.below hb)); (have HB58 : Hid (Below w5.heap.size w5 w8) := Lib.hid (HB56.out.trans (hb.mono HB56.out.size))); clear hb)
    | (go_at_call 92; refine (HCL.out _ HA8.out).mono ?_; rintro e w9 ⟨v9, rfl, ho, hb⟩; (have HF9 := Lib.hid (HF8.out.step hb)); (have HA9 := Lib.hid (HA8.out.below hb)); (have HO9 := Lib.hid ho); (have HB59 : Hid (Below w5.heap.size w5 w9) := Lib.hid (HB58.out.trans (hb.mono HB58.out.size))); (have HC : Hid (Calls Tryz.prog g1 (v9 :: .int .u64 (a : Int) :: e1).toArray w9 (EffP w8.heap.size w9 (l, 0, er))) := Lib.hid (by rw [← HD.out]; exact HK1.out.2 w9 w8.heap.size v9 l a HB59.out HB58.out.size hb.size ho HOK.out HX.out ha)); (have hlt8 := HF8.out.lt); (have HB89 := Lib.hid hb); (have hsz := hb.size); clear hb ho)
    | (refine HC.out.mono ?_; rintro e wz ⟨vz, rfl, ho, hb⟩; (have HFz := Lib.hid (HF9.out.step' hb hlt8)); (have HAz := Lib.hid (HA8.out.keep (fun b hb2 => (hb.block b hb2).trans (HB89.out.block b hb2)))); clear hb ho)
    | (go_at_call 177; refine (HRF.out er _ HAz.out).mono ?_; rintro e w7 ⟨v7, rfl, ho, hb⟩; (have HF7 := Lib.hid (HFz.out.step hb)); (have HO7 := Lib.hid ho); (have hlt := HFz.out.lt); (obtain ⟨k0, k1, k2⟩ := HF7.out.cells); (have z0 := HF7.out.free 0); (have z1 := HF7.out.free 1); (have z2 := HF7.out.free 2); clear hb ho))
    refine bodyPost_ret (v := .tuple #[v7, .agg #[.int .i64 (er : Int), .int .u64 0, .slice none 0 0]]) (by simp [results, Tryz.results157, go_sem, k0, k1, k2]) rfl ⟨_, rfl, HF7.out.own HO7.out hlt _ _ _, HF7.out.put _ _ _⟩

set_option maxHeartbeats 1000000 in
theorem apply3_wrong (n : Nat) (k : Int) (v : Value) (l : List Nat) (a : Nat) (w : World) (hA : ArgW w v l) (hl : l.length ≤ 4294967296) (hn : n ≤ 7) (hN : sqN n = 3) (hr : (decide (sqLo n ≤ l.length) && decide (l.length ≤ sqHi n)) = false) :
    Calls Tryz.prog 157 #[.int .i64 (n : Int), v, .int .i64 k, .int .u64 (a : Int)] w (ApP w (l, 0, 1)) := by
  have HA : Hid (ArgW (w.alloc ansO) v l) := Lib.hid (hA.alloc _)
  have HRF : Hid (∀ k W, ArgW W v l → Calls Tryz.prog 177 #[v, .int .i64 ((k : Nat) : Int)] W (ApP W (l, 0, k))) := Lib.hid (fun k W h => refuse_any v l k W h hl)
  have HF := Lib.hid (fun w => find3_any n hn hN w)
  have HR := Lib.hid (fun lo hi f0 f1 f2 W (h : ArgW W v l) => right_any lo hi f0 f1 f2 v l W h (Nat.le_trans hl (by decide)))
  unfold Find3 at HF
  generalize sqLo n = lo at *
  generalize sqHi n = hi at *
  replace HR := Lib.hid (HR.out lo hi)
  rw [hr] at HR
  clear hr hA hl
  go_enter Tryz.func157, Tryz.ntmps157
  go_wp2_with (first
    | (go_at_call 109; refine (HF.out _).mono ?_; rintro e w5 ⟨g0, e0, g1, e1, g2, e2, rfl, hk0, hk1, hk2, hb⟩; (have HF5 := Lib.hid ((Fr.init w).step hb)); (have HA5 : Hid (ArgW (w5.alloc (Obj.cells #[Value.int .i64 (lo : Int), .int .i64 (hi : Int), .func (.func g0) #[] e0.toArray, .func (.func g1) #[] e1.toArray, .func (.func g2) #[] e2.toArray] 161)) v l) := Lib.hid (ArgW.alloc (HA.out.below hb) _)); (have HK0 := Lib.hid hk0); (have HK1 := Lib.hid hk1); (have HK2 := Lib.hid hk2); clear hb hk0 hk1 hk2)
    | (go_at_call 145; refine (HR.out _ _ _ _ HA5.out).mono ?_; rintro e w6 ⟨rfl, hb⟩; (have hs6 : w6.heap[w5.heap.size]? = some (Obj.cells #[Value.int .i64 (lo : Int), .int .i64 (hi : Int), .func (.func g0) #[] e0.toArray, .func (.func g1) #[] e1.toArray, .func (.func g2) #[] e2.toArray] 161) := (hb.block _ (by simp)).trans (heap_alloc_new _ _)); (have c0 := cell_of_blk (k := 0) hs6 rfl); (have c1 := cell_of_blk (k := 1) hs6 rfl); (have c2 := cell_of_blk (k := 2) hs6 rfl); (have c3 := cell_of_blk (k := 3) hs6 rfl); (have c4 := cell_of_blk (k := 4) hs6 rfl); (have HF6 := Lib.hid ((HF5.out.alloc (Obj.cells #[Value.int .i64 (lo : Int), .int .i64 (hi : Int), .func (.func g0) #[] e0.toArray, .func (.func g1) #[] e1.toArray, .func (.func g2) #[] e2.toArray] 161)).step hb)); (have HB56 : Hid (Below w5.heap.size w5 w6) := Lib.hid (((Below.refl _ _).alloc (Nat.le_refl _) _).trans (hb.mono (by simp)))); (have HA6 := Lib.hid (HA5.out.below hb)); clear hb hs6)
    | (go_at_call 177; refine (HRF.out 1 _ HA6.out).mono ?_; rintro e w7 ⟨v7, rfl, ho, hb⟩; (have HF7 := Lib.hid (HF6.out.step hb)); (have HO7 := Lib.hid ho); (have hlt := HF6.out.lt); (obtain ⟨k0, k1, k2⟩ := HF7.out.cells); (have z0 := HF7.out.free 0); (have z1 := HF7.out.free 1); (have z2 := HF7.out.free 2); clear hb ho))
  refine bodyPost_ret (v := .tuple #[v7, .agg #[.int .i64 1, .int .u64 0, .slice none 0 0]]) (by simp [results, Tryz.results157, go_sem, k0, k1, k2]) rfl ⟨_, rfl, HF7.out.own HO7.out hlt _ _ _, HF7.out.put _ _ _⟩

set_option maxHeartbeats 1000000 in
theorem apply3_kind (n : Nat) (k : Int) (v : Value) (l : List Nat) (a : Nat) (w : World) (hA : ArgW w v l) (hl : l.length ≤ 4294967296) (hn : n ≤ 7) (hN : sqN n = 3) (hr : (decide (sqLo n ≤ l.length) && decide (l.length ≤ sqHi n)) = true) (hk : ¬ (0 ≤ k ∧ k < 3)) :
    Calls Tryz.prog 157 #[.int .i64 (n : Int), v, .int .i64 k, .int .u64 (a : Int)] w (ApP w (l, 0, 9)) := by
  have HA : Hid (ArgW (w.alloc ansO) v l) := Lib.hid (hA.alloc _)
  have HRF : Hid (∀ k W, ArgW W v l → Calls Tryz.prog 177 #[v, .int .i64 ((k : Nat) : Int)] W (ApP W (l, 0, k))) := Lib.hid (fun k W h => refuse_any v l k W h hl)
  have HF := Lib.hid (fun w => find3_any n hn hN w)
  have HR := Lib.hid (fun lo hi f0 f1 f2 W (h : ArgW W v l) => right_any lo hi f0 f1 f2 v l W h (Nat.le_trans hl (by decide)))
  unfold Find3 at HF
  have qF := run_eql_func
  have qN := run_eql_nilF
  have HE : Hid (∀ (lo hi : Int) (f0 f1 : Value) (f2 : Value) W, Calls Tryz.prog 178 #[.agg #[.int .i64 lo, .int .i64 hi, f0, f1, f2], .int .i64 k] W fun e w' => e = .returned .nilFunc ∧ Below W.heap.size W w') := Lib.hid (fun lo hi f0 f1 f2 W => effect_any .nilFunc lo hi f0 f1 f2 k W (by exact .inr (.inr (.inr ⟨by omega, rfl⟩))))
  generalize sqLo n = lo at *
  generalize sqHi n = hi at *
  replace HR := Lib.hid (HR.out lo hi)
  rw [hr] at HR
  clear hr hA hl hk
  go_enter Tryz.func157, Tryz.ntmps157
  go_wp2_with (first
    | (go_at_call 109; refine (HF.out _).mono ?_; rintro e w5 ⟨g0, e0, g1, e1, g2, e2, rfl, hk0, hk1, hk2, hb⟩; (have HF5 := Lib.hid ((Fr.init w).step hb)); (have HA5 : Hid (ArgW (w5.alloc (Obj.cells #[Value.int .i64 (lo : Int), .int .i64 (hi : Int), .func (.func g0) #[] e0.toArray, .func (.func g1) #[] e1.toArray, .func (.func g2) #[] e2.toArray] 161)) v l) := Lib.hid (ArgW.alloc (HA.out.below hb) _)); (have HK0 := Lib.hid hk0); (have HK1 := Lib.hid hk1); (have HK2 := Lib.hid hk2); clear hb hk0 hk1 hk2)
    | (go_at_call 145; refine (HR.out _ _ _ _ HA5.out).mono ?_; rintro e w6 ⟨rfl, hb⟩; (have hs6 : w6.heap[w5.heap.size]? = some (Obj.cells #[Value.int .i64 (lo : Int), .int .i64 (hi : Int), .func (.func g0) #[] e0.toArray, .func (.func g1) #[] e1.toArray, .func (.func g2) #[] e2.toArray] 161) := (hb.block _ (by simp)).trans (heap_alloc_new _ _)); (have c0 := cell_of_blk (k := 0) hs6 rfl); (have c1 := cell_of_blk (k := 1) hs6 rfl); (have c2 := cell_of_blk (k := 2) hs6 rfl); (have c3 := cell_of_blk (k := 3) hs6 rfl); (have c4 := cell_of_blk (k := 4) hs6 rfl); (have HF6 := Lib.hid ((HF5.out.alloc (Obj.cells #[Value.int .i64 (lo : Int), .int .i64 (hi : Int), .func (.func g0) #[] e0.toArray, .func (.func g1) #[] e1.toArray, .func (.func g2) #[] e2.toArray] 161)).step hb)); (have HB56 : Hid (Below w5.heap.size w5 w6) := Lib.hid (((Below.refl _ _).alloc (Nat.le_refl _) _).trans (hb.mono (by simp)))); (have HA6 := Lib.hid (HA5.out.below hb)); clear hb hs6)
    | (go_at_call 178; refine (HE.out _ _ _ _ _ _).mono ?_; rintro e w8 ⟨rfl, hb⟩; (have HF8 := Lib.hid (HF6.out.step hb)); (have HA8 := Lib.hid (HA6.out.below hb)); clear hb)
    | (go_at_call 177; refine (HRF.out 9 _ HA8.out).mono ?_; rintro e w7 ⟨v7, rfl, ho, hb⟩; (have HF7 := Lib.hid (HF8.out.step hb)); (have HO7 := Lib.hid ho); (have hlt := HF8.out.lt); (obtain ⟨k0, k1, k2⟩ := HF7.out.cells); (have z0 := HF7.out.free 0); (have z1 := HF7.out.free 1); (have z2 := HF7.out.free 2); clear hb ho))
  refine bodyPost_ret (v := .tuple #[v7, .agg #[.int .i64 9, .int .u64 0, .slice none 0 0]]) (by simp [results, Tryz.results157, go_sem, k0, k1, k2]) rfl ⟨_, rfl, HF7.out.own HO7.out hlt _ _ _, HF7.out.put _ _ _⟩

set_option maxHeartbeats 1000000 in
theorem apply3_0 (n : Nat) (v : Value) (l : List Nat) (a : Nat) (w : World) (hA : ArgW w v l) (hl : l.length ≤ 4294967296) (hn : n ≤ 7) (hN : sqN n = 3) (hr : (decide (sqLo n ≤ l.length) && decide (l.length ≤ sqHi n)) = true) (hx : ∀ x ∈ l, x < 18446744073709551616) (ha : a < 18446744073709551616) :
    Calls Tryz.prog 157 #[.int .i64 (n : Int), v, .int .i64 0, .int .u64 (a : Int)] w (ApP w (sqDo n 0 l a)) := by
  have HA : Hid (ArgW (w.alloc ansO) v l) := Lib.hid (hA.alloc _)
  have HRF : Hid (∀ k W, ArgW W v l → Calls Tryz.prog 177 #[v, .int .i64 ((k : Nat) : Int)] W (ApP W (l, 0, k))) := Lib.hid (fun k W h => refuse_any v l k W h hl)
  have HF := Lib.hid (fun w => find3_any n hn hN w)
  have HR := Lib.hid (fun lo hi f0 f1 f2 W (h : ArgW W v l) => right_any lo hi f0 f1 f2 v l W h (Nat.le_trans hl (by decide)))
  unfold Find3 at HF
  have qF := run_eql_func
  have qN := run_eql_nilF
  have HCL : Hid (∀ W, ArgW W v l → Calls Tryz.prog 92 #[v] W (GivesW l W)) := Lib.hid (fun W h => clone_own v l W h hl)
  have HOK : Hid (sqOk n l.length) := Lib.hid (by simpa [sqOk] using hr)
  have HX := Lib.hid hx
  generalize sqLo n = lo at *
  generalize sqHi n = hi at *
  replace HR := Lib.hid (HR.out lo hi)
  rw [hr] at HR
  have hE := sqDo_err n 0 l a
  have hE2 := sqDo_err_lt n 0 l a
  obtain ⟨l', val, er, hD⟩ : ∃ l' val er, sqDo n 0 l a = (l', val, er) := ⟨_, _, _, rfl⟩
  rw [hD] at hE hE2 ⊢
  have HD := Lib.hid hD
  dsimp only at hE hE2
  clear hr hA hl hx hD
  by_cases he : er = 0
  · subst he
    clear hE hE2
    go_enter Tryz.func157, Tryz.ntmps157
    go_wp2_with (first
    | (go_at_call 109; refine (HF.out _).mono ?_; rintro e w5 ⟨g0, e0, g1, e1, g2, e2, rfl, hk0, hk1, hk2, hb⟩; (have HF5 := Lib.hid ((Fr.init w).step hb)); (have HA5 : Hid (ArgW (w5.alloc (Obj.cells #[Value.int .i64 (lo : Int), .int .i64 (hi : Int), .func (.func g0) #[] e0.toArray, .func (.func g1) #[] e1.toArray, .func (.func g2) #[] e2.toArray] 161)) v l) := Lib.hid (ArgW.alloc (HA.out.below hb) _)); (have hen := hk0.1); (have HK0 := Lib.hid hk0); (have HK1 := Lib.hid hk1); (have HK2 := Lib.hid hk2); clear hb hk0 hk1 hk2)
    | (go_at_call 145; refine (HR.out _ _ _ _ HA5.out).mono ?_; rintro e w6 ⟨rfl, hb⟩; (have hs6 : w6.heap[w5.heap.size]? = some (Obj.cells #[Value.int .i64 (lo : Int), .int .i64 (hi : Int), .func (.func g0) #[] e0.toArray, .func (.func g1) #[] e1.toArray, .func (.func g2) #[] e2.toArray] 161) := (hb.block _ (by simp)).trans (heap_alloc_new _ _)); (have c0 := cell_of_blk (k := 0) hs6 rfl); (have c1 := cell_of_blk (k := 1) hs6 rfl); (have c2 := cell_of_blk (k := 2) hs6 rfl); (have c3 := cell_of_blk (k := 3) hs6 rfl); (have c4 := cell_of_blk (k := 4) hs6 rfl); (have HF6 := Lib.hid ((HF5.out.alloc (Obj.cells #[Value.int .i64 (lo : Int), .int .i64 (hi : Int), .func (.func g0) #[] e0.toArray, .func (.func g1) #[] e1.toArray, .func (.func g2) #[] e2.toArray] 161)).step hb)); (have HB56 : Hid (Below w5.heap.size w5 w6) := Lib.hid (((Below.refl _ _).alloc (Nat.le_refl _) _).trans (hb.mono (by simp)))); (have HA6 := Lib.hid (HA5.out.below hb)); clear hb hs6)
    | (go_at_call 178; refine (effect_any (.func (.func g0) #[] e0.toArray) lo hi (.func (.func g0) #[] e0.toArray) (.func (.func g1) #[] e1.toArray) (.func (.func g2) #[] e2.toArray) 0 _ (.inl ⟨rfl, rfl⟩)).mono ?_; rintro e w8 ⟨rfl, hb⟩; (have HF8 := Lib.hid (HF6.out.step hb)); (have HA8 := Lib.hid (HA6.out.below hb)); (have HB58 : Hid (Below w5.heap.size w5 w8) := Lib.hid (HB56.out.trans (hb.mono HB56.out.size))); clear hb)
    | (go_at_call 92; refine (HCL.out _ HA8.out).mono ?_; rintro e w9 ⟨v9, rfl, ho, hb⟩; (have HF9 := Lib.hid (HF8.out.step hb)); (have HA9 := Lib.hid (HA8.out.below hb)); (have HO9 := Lib.hid ho); (have HB59 : Hid (Below w5.heap.size w5 w9) := Lib.hid (HB58.out.trans (hb.mono HB58.out.size))); (have HC : Hid (Calls Tryz.prog g0 (v9 :: .int .u64 (a : Int) :: e0).toArray w9 (EffP w8.heap.size w9 (l', val, 0))) := Lib.hid (by rw [← HD.out]; exact HK0.out.2 w9 w8.heap.size v9 l a HB59.out HB58.out.size hb.size ho HOK.out HX.out ha)); (have hlt8 := HF8.out.lt); (have HB89 := Lib.hid hb); (have hsz := hb.size); clear hb ho)
    | (refine HC.out.mono ?_; rintro e wz ⟨vz, rfl, ho, hb⟩; (have HF7 := Lib.hid (HF9.out.step' hb hlt8)); (have HO7 := Lib.hid ho); (obtain ⟨k0, k1, k2⟩ := HF7.out.cells); (have z0 := HF7.out.free 0); (have z1 := HF7.out.free 1); (have z2 := HF7.out.free 2); clear hb ho))
    refine bodyPost_ret (v := .tuple #[vz, .agg #[.int .i64 0, .int .u64 (val : Int), .slice none 0 0]]) (by simp [results, Tryz.results157, go_sem, k0, k1, k2]) rfl ⟨_, rfl, HF7.out.own HO7.out hlt8 _ _ _, HF7.out.put _ _ _⟩
  · obtain ⟨rfl, rfl⟩ : l = l' ∧ 0 = val := by
      rcases hE with h | h
      · exact absurd h he
      · simp at h; exact ⟨h.1.symm, h.2.symm⟩
    clear hE
    go_enter Tryz.func157, Tryz.ntmps157
    go_wp2_with (first
    | (go_at_call 109; refine (HF.out _).mono ?_; rintro e w5 ⟨g0, e0, g1, e1, g2, e2, rfl, hk0, hk1, hk2, hb⟩; (have HF5 := Lib.hid ((Fr.init w).step hb)); (have HA5 : Hid (ArgW (w5.alloc (Obj.cells #[Value.int .i64 (lo : Int), .int .i64 (hi : Int), .func (.func g0) #[] e0.toArray, .func (.func g1) #[] e1.toArray, .func (.func g2) #[] e2.toArray] 161)) v l) := Lib.hid (ArgW.alloc (HA.out.below hb) _)); (have hen := hk0.1); (have HK0 := Lib.hid hk0); (have HK1 := Lib.hid hk1); (have HK2 := Lib.hid hk2); clear hb hk0 hk1 hk2)
    | (go_at_call 145; refine (HR.out _ _ _ _ HA5.out).mono ?_; rintro e w6 ⟨rfl, hb⟩; (have hs6 : w6.heap[w5.heap.size]? = some (Obj.cells #[Value.int .i64 (lo : Int), .int .i64 (hi : Int), .func (.func g0) #[] e0.toArray, .func (.func g1) #[] e1.toArray, .func (.func g2) #[] e2.toArray] 161) := (hb.block _ (by simp)).trans (heap_alloc_new _ _)); (have c0 := cell_of_blk (k := 0) hs6 rfl); (have c1 := cell_of_blk (k := 1) hs6 rfl); (have c2 := cell_of_blk (k := 2) hs6 rfl); (have c3 := cell_of_blk (k := 3) hs6 rfl); (have c4 := cell_of_blk (k := 4) hs6 rfl); (have HF6 := Lib.hid ((HF5.out.alloc (Obj.cells #[Value.int .i64 (lo : Int), .int .i64 (hi : Int), .func (.func g0) #[] e0.toArray, .func (.func g1) #[] e1.toArray, .func (.func g2) #[] e2.toArray] 161)).step hb)); (have HB56 : Hid (Below w5.heap.size w5 w6) := Lib.hid (((Below.refl _ _).alloc (Nat.le_refl _) _).trans (hb.mono (by simp)))); (have HA6 := Lib.hid (HA5.out.below hb)); clear hb hs6)
    | (go_at_call 178; refine (effect_any (.func (.func g0) #[] e0.toArray) lo hi (.func (.func g0) #[] e0.toArray) (.func (.func g1) #[] e1.toArray) (.func (.func g2) #[] e2.toArray) 0 _ (.inl ⟨rfl, rfl⟩)).mono ?_; rintro e w8 ⟨rfl, hb⟩; (have HF8 := Lib.hid (HF6.out.step hb)); (have HA8 := Lib.hid (HA6.out.below hb)); (have HB58 : Hid (Below w5.heap.size w5 w8) := Lib.hid (HB56.out.trans (hb.mono HB56.out.size))); clear hb)
    | (go_at_call 92; refine (HCL.out _ HA8.out).mono ?_; rintro e w9 ⟨v9, rfl, ho, hb⟩; (have HF9 := Lib.hid (HF8.out.step hb)); (have HA9 := Lib.hid (HA8.out.below hb)); (have HO9 := Lib.hid ho); (have HB59 : Hid (Below w5.heap.size w5 w9) := Lib.hid (HB58.out.trans (hb.mono HB58.out.size))); (have HC : Hid (Calls Tryz.prog g0 (v9 :: .int .u64 (a : Int) :: e0).toArray w9 (EffP w8.heap.size w9 (l, 0, er))) := Lib.hid (by rw [← HD.out]; exact HK0.out.2 w9 w8.heap.size v9 l a HB59.out HB58.out.size hb.size ho HOK.out HX.out ha)); (have hlt8 := HF8.out.lt); (have HB89 := Lib.hid hb); (have hsz := hb.size); clear hb ho)
    | (refine HC.out.mono ?_; rintro e wz ⟨vz, rfl, ho, hb⟩; (have HFz := Lib.hid (HF9.out.step' hb hlt8)); (have HAz := Lib.hid (HA8.out.keep (fun b hb2 => (hb.block b hb2).trans (HB89.out.block b hb2)))); clear hb ho)
    | (go_at_call 177; refine (HRF.out er _ HAz.out).mono ?_; rintro e w7 ⟨v7, rfl, ho, hb⟩; (have HF7 := Lib.hid (HFz.out.step hb)); (have HO7 := Lib.hid ho); (have hlt := HFz.out.lt); (obtain ⟨k0, k1, k2⟩ := HF7.out.cells); (have z0 := HF7.out.free 0); (have z1 := HF7.out.free 1); (have z2 := HF7.out.free 2); clear hb ho))
    refine bodyPost_ret (v := .tuple #[v7, .agg #[.int .i64 (er : Int), .int .u64 0, .slice none 0 0]]) (by simp [results, Tryz.results157, go_sem, k0, k1, k2]) rfl ⟨_, rfl, HF7.out.own HO7.out hlt _ _ _, HF7.out.put _ _ _⟩

set_option maxHeartbeats 1000000 in
theorem apply3_1 (n : Nat) (v : Value) (l : List Nat) (a : Nat) (w : World) (hA : ArgW w v l) (hl : l.length ≤ 4294967296) (hn : n ≤ 7) (hN : sqN n = 3) (hr : (decide (sqLo n ≤ l.length) && decide (l.length ≤ sqHi n)) = true) (hx : ∀ x ∈ l, x < 18446744073709551616) (ha : a < 18446744073709551616) :
    Calls Tryz.prog 157 #[.int .i64 (n : Int), v, .int .i64 1, .int .u64 (a : Int)] w (ApP w (sqDo n 1 l a)) := by
  have HA : Hid (ArgW (w.alloc ansO) v l) := Lib.hid (hA.alloc _)
  have HRF : Hid (∀ k W, ArgW W v l → Calls Tryz.prog 177 #[v, .int .i64 ((k : Nat) : Int)] W (ApP W (l, 0, k))) := Lib.hid (fun k W h => refuse_any v l k W h hl)
  have HF := Lib.hid (fun w => find3_any n hn hN w)
  have HR := Lib.hid (fun lo hi f0 f1 f2 W (h : ArgW W v l) => right_any lo hi f0 f1 f2 v l W h (Nat.le_trans hl (by decide)))
  unfold Find3 at HF
  have qF := run_eql_func
  have qN := run_eql_nilF
  have HCL : Hid (∀ W, ArgW W v l → Calls Tryz.prog 92 #[v] W (GivesW l W)) := Lib.hid (fun W h => clone_own v l W h hl)
  have HOK : Hid (sqOk n l.length) := Lib.hid (by simpa [sqOk] using hr)
  have HX := Lib.hid hx
  generalize sqLo n = lo at *
  generalize sqHi n = hi at *
  replace HR := Lib.hid (HR.out lo hi)
  rw [hr] at HR
  have hE := sqDo_err n 1 l a
  have hE2 := sqDo_err_lt n 1 l a
  obtain ⟨l', val, er, hD⟩ : ∃ l' val er, sqDo n 1 l a = (l', val, er) := ⟨_, _, _, rfl⟩
  rw [hD] at hE hE2 ⊢
  have HD := Lib.hid hD
  dsimp only at hE hE2
  clear hr hA hl hx hD
  by_cases he : er = 0
  · subst he
    clear hE hE2
    go_enter Tryz.func157, Tryz.ntmps157
    go_wp2_with (first
    | (go_at_call 109; refine (HF.out _).mono ?_; rintro e w5 ⟨g0, e0, g1, e1, g2, e2, rfl, hk0, hk1, hk2, hb⟩; (have HF5 := Lib.hid ((Fr.init w).step hb)); (have HA5 : Hid (ArgW (w5.alloc (Obj.cells #[Value.int .i64 (lo : Int), .int .i64 (hi : Int), .func (.func g0) #[] e0.toArray, .func (.func g1) #[] e1.toArray, .func (.func g2) #[] e2.toArray] 161)) v l) := Lib.hid (ArgW.alloc (HA.out.below hb) _)); (have hen := hk1.1); (have HK0 := Lib.hid hk0); (have HK1 := Lib.hid hk1); (have HK2 := Lib.hid hk2); clear hb hk0 hk1 hk2)
    | (go_at_call 145; refine (HR.out _ _ _ _ HA5.out).mono ?_; rintro e w6 ⟨rfl, hb⟩; (have hs6 : w6.heap[w5.heap.size]? = some (Obj.cells #[Value.int .i64 (lo : Int), .int .i64 (hi : Int), .func (.func g0) #[] e0.toArray, .func (.func g1) #[] e1.toArray, .func (.func g2) #[] e2.toArray] 161) := (hb.block _ (by simp)).trans (heap_alloc_new _ _)); (have c0 := cell_of_blk (k := 0) hs6 rfl); (have c1 := cell_of_blk (k := 1) hs6 rfl); (have c2 := cell_of_blk (k := 2) hs6 rfl); (have c3 := cell_of_blk (k := 3) hs6 rfl); (have c4 := cell_of_blk (k := 4) hs6 rfl); (have HF6 := Lib.hid ((HF5.out.alloc (Obj.cells #[Value.int .i64 (lo : Int), .int .i64 (hi : Int), .func (.func g0) #[] e0.toArray, .func (.func g1) #[] e1.toArray, .func (.func g2) #[] e2.toArray] 161)).step hb)); (have HB56 : Hid (Below w5.heap.size w5 w6) := Lib.hid (((Below.refl _ _).alloc (Nat.le_refl _) _).trans (hb.mono (by simp)))); (have HA6 := Lib.hid (HA5.out.below hb)); clear hb hs6)
    | (go_at_call 178; refine (effect_any (.func (.func g1) #[] e1.toArray) lo hi (.func (.func g0) #[] e0.toArray) (.func (.func g1) #[] e1.toArray) (.func (.func g2) #[] e2.toArray) 1 _ (.inr (.inl ⟨rfl, rfl⟩))).mono ?_; rintro e w8 ⟨rfl, hb⟩; (have HF8 := Lib.hid (HF6.out.step hb)); (have HA8 := Lib.hid (HA6.out.below hb)); (have HB58 : Hid (Below w5.heap.size w5 w8) := Lib.hid (HB56.out.trans (hb.mono HB56.out.size))); clear hb)
    | (go_at_call 92; refine (HCL.out _ HA8.out).mono ?_; rintro e w9 ⟨v9, rfl, ho, hb⟩; (have HF9 := Lib.hid (HF8.out.step hb)); (have HA9 := Lib.hid (HA8.out.below hb)); (have HO9 := Lib.hid ho); (have HB59 : Hid (Below w5.heap.size w5 w9) := Lib.hid (HB58.out.trans (hb.mono HB58.out.size))); (have HC : Hid (Calls Tryz.prog g1 (v9 :: .int .u64 (a : Int) :: e1).toArray w9 (EffP w8.heap.size w9 (l', val, 0))) := Lib.hid (by rw [← HD.out]; exact HK1.out.2 w9 w8.heap.size v9 l a HB59.out HB58.out.size hb.size ho HOK.out HX.out ha)); (have hlt8 := HF8.out.lt); (have HB89 := Lib.hid hb); (have hsz := hb.size); clear hb ho)
    | (refine HC.out.mono ?_; rintro e wz ⟨vz, rfl, ho, hb⟩; (have HF7 := Lib.hid (HF9.out.step' hb hlt8)); (have HO7 := Lib.hid ho); (obtain ⟨k0, k1, k2⟩ := HF7.out.cells); (have z0 := HF7.out.free 0); (have z1 := HF7.out.free 1); (have z2 := HF7.out.free 2); clear hb ho))
    refine bodyPost_ret (v := .tuple #[vz, .agg #[.int .i64 0, .int .u64 (val : Int), .slice none 0 0]]) (by simp [results, Tryz.results157, go_sem, k0, k1, k2]) rfl ⟨_, rfl, HF7.out.own HO7.out hlt8 _ _ _, HF7.out.put _ _ _⟩
  · obtain ⟨rfl, rfl⟩ : l = l' ∧ 0 = val := by
      rcases hE with h | h
      · exact absurd h he
      · simp at h; exact ⟨h.1.symm, h.2.symm⟩
    clear hE
    go_enter Tryz.func157, Tryz.ntmps157
    go_wp2_with (first
    | (go_at_call 109; refine (HF.out _).mono ?_; rintro e w5 ⟨g0, e0, g1, e1, g2, e2, rfl, hk0, hk1, hk2, hb⟩; (have HF5 := Lib.hid ((Fr.init w).step hb)); (have HA5 : Hid (ArgW (w5.alloc (Obj.cells #[Value.int .i64 (lo : Int), .int .i64 (hi : Int), .func (.func g0) #[] e0.toArray, .func (.func g1) #[] e1.toArray, .func (.func g2) #[] e2.toArray] 161)) v l) := Lib.hid (ArgW.alloc (HA.out.below hb) _)); (have hen := hk1.1); (have HK0 := Lib.hid hk0); (have HK1 := Lib.hid hk1); (have HK2 := Lib.hid hk2); clear hb hk0 hk1 hk2)
    | (go_at_call 145; refine (HR.out _ _ _ _ HA5.out).mono ?_; rintro e w6 ⟨rfl, hb⟩; (have hs6 : w6.heap[w5.heap.size]? = some (Obj.cells #[Value.int .i64 (lo : Int), .int .i64 (hi : Int), .func (.func g0) #[] e0.toArray, .func (.func g1) #[] e1.toArray, .func (.func g2) #[] e2.toArray] 161) := (hb.block _ (by simp)).trans (heap_alloc_new _ _)); (have c0 := cell_of_blk (k := 0) hs6 rfl); (have c1 := cell_of_blk (k := 1) hs6 rfl); (have c2 := cell_of_blk (k := 2) hs6 rfl); (have c3 := cell_of_blk (k := 3) hs6 rfl); (have c4 := cell_of_blk (k := 4) hs6 rfl); (have HF6 := Lib.hid ((HF5.out.alloc (Obj.cells #[Value.int .i64 (lo : Int), .int .i64 (hi : Int), .func (.func g0) #[] e0.toArray, .func (.func g1) #[] e1.toArray, .func (.func g2) #[] e2.toArray] 161)).step hb)); (have HB56 : Hid (Below w5.heap.size w5 w6) := Lib.hid (((Below.refl _ _).alloc (Nat.le_refl _) _).trans (hb.mono (by simp)))); (have HA6 := Lib.hid (HA5.out.below hb)); clear hb hs6)
    | (go_at_call 178; refine (effect_any (.func (.func g1) #[] e1.toArray) lo hi (.func (.func g0) #[] e0.toArray) (.func (.func g1) #[] e1.toArray) (.func (.func g2) #[] e2.toArray) 1 _ (.inr (.inl ⟨rfl, rfl⟩))).mono ?_; rintro e w8 ⟨rfl, hb⟩; (have HF8 := Lib.hid (HF6.out.step hb)); (have HA8 := Lib.hid (HA6.out.below hb)); (have HB58 : Hid (Below w5.heap.size w5 w8) := Lib.hid (HB56.out.trans (hb.mono HB56.out.size))); clear hb)
    | (go_at_call 92; refine (HCL.out _ HA8.out).mono ?_; rintro e w9 ⟨v9, rfl, ho, hb⟩; (have HF9 := Lib.hid (HF8.out.step hb)); (have HA9 := Lib.hid (HA8.out.below hb)); (have HO9 := Lib.hid ho); (have HB59 : Hid (Below w5.heap.size w5 w9) := Lib.hid (HB58.out.trans (hb.mono HB58.out.size))); (have HC : Hid (Calls Tryz.prog g1 (v9 :: .int .u64 (a : Int) :: e1).toArray w9 (EffP w8.heap.size w9 (l, 0, er))) := Lib.hid (by rw [← HD.out]; exact HK1.out.2 w9 w8.heap.size v9 l a HB59.out HB58.out.size hb.size ho HOK.out HX.out ha)); (have hlt8 := HF8.out.lt); (have HB89 := Lib.hid hb); (have hsz := hb.size); clear hb ho)
    | (refine HC.out.mono ?_; rintro e wz ⟨vz, rfl, ho, hb⟩; (have HFz := Lib.hid (HF9.out.step' hb hlt8)); (have HAz := Lib.hid (HA8.out.keep (fun b hb2 => (hb.block b hb2).trans (HB89.out.block b hb2)))); clear hb ho)
    | (go_at_call 177; refine (HRF.out er _ HAz.out).mono ?_; rintro e w7 ⟨v7, rfl, ho, hb⟩; (have HF7 := Lib.hid (HFz.out.step hb)); (have HO7 := Lib.hid ho); (have hlt := HFz.out.lt); (obtain ⟨k0, k1, k2⟩ := HF7.out.cells); (have z0 := HF7.out.free 0); (have z1 := HF7.out.free 1); (have z2 := HF7.out.free 2); clear hb ho))
    refine bodyPost_ret (v := .tuple #[v7, .agg #[.int .i64 (er : Int), .int .u64 0, .slice none 0 0]]) (by simp [results, Tryz.results157, go_sem, k0, k1, k2]) rfl ⟨_, rfl, HF7.out.own HO7.out hlt _ _ _, HF7.out.put _ _ _⟩

set_option maxHeartbeats 1000000 in
theorem apply3_2 (n : Nat) (v : Value) (l : List Nat) (a : Nat) (w : World) (hA : ArgW w v l) (hl : l.length ≤ 4294967296) (hn : n ≤ 7) (hN : sqN n = 3) (hr : (decide (sqLo n ≤ l.length) && decide (l.length ≤ sqHi n)) = true) (hx : ∀ x ∈ l, x < 18446744073709551616) (ha : a < 18446744073709551616) :
    Calls Tryz.prog 157 #[.int .i64 (n : Int), v, .int .i64 2, .int .u64 (a : Int)] w (ApP w (sqDo n 2 l a)) := by
  have HA : Hid (ArgW (w.alloc ansO) v l) := Lib.hid (hA.alloc _)
  have HRF : Hid (∀ k W, ArgW W v l → Calls Tryz.prog 177 #[v, .int .i64 ((k : Nat) : Int)] W (ApP W (l, 0, k))) := Lib.hid (fun k W h => refuse_any v l k W h hl)
  have HF := Lib.hid (fun w => find3_any n hn hN w)
  have HR := Lib.hid (fun lo hi f0 f1 f2 W (h : ArgW W v l) => right_any lo hi f0 f1 f2 v l W h (Nat.le_trans hl (by decide)))
  unfold Find3 at HF
  have qF := run_eql_func
  have qN := run_eql_nilF
  have HCL : Hid (∀ W, ArgW W v l → Calls Tryz.prog 92 #[v] W (GivesW l W)) := Lib.hid (fun W h => clone_own v l W h hl)
  have HOK : Hid (sqOk n l.length) := Lib.hid (by simpa [sqOk] using hr)
  have HX := Lib.hid hx
  generalize sqLo n = lo at *
  generalize sqHi n = hi at *
  replace HR := Lib.hid (HR.out lo hi)
  rw [hr] at HR
  have hE := sqDo_err n 2 l a
  have hE2 := sqDo_err_lt n 2 l a
  obtain ⟨l', val, er, hD⟩ : ∃ l' val er, sqDo n 2 l a = (l', val, er) := ⟨_, _, _, rfl⟩
  rw [hD] at hE hE2 ⊢
  have HD := Lib.hid hD
  dsimp only at hE hE2
  clear hr hA hl hx hD
  by_cases he : er = 0
  · subst he
    clear hE hE2
    go_enter Tryz.func157, Tryz.ntmps157
    go_wp2_with (first
    | (go_at_call 109; refine (HF.out _).mono ?_; rintro e w5 ⟨g0, e0, g1, e1, g2, e2, rfl, hk0, hk1, hk2, hb⟩; (have HF5 := Lib.hid ((Fr.init w).step hb)); (have HA5 : Hid (ArgW (w5.alloc (Obj.cells #[Value.int .i64 (lo : Int), .int .i64 (hi : Int), .func (.func g0) #[] e0.toArray, .func (.func g1) #[] e1.toArray, .func (.func g2) #[] e2.toArray] 161)) v l) := Lib.hid (ArgW.alloc (HA.out.below hb) _)); (have hen := hk2.1); (have HK0 := Lib.hid hk0); (have HK1 := Lib.hid hk1); (have HK2 := Lib.hid hk2); clear hb hk0 hk1 hk2)
    | (go_at_call 145; refine (HR.out _ _ _ _ HA5.out).mono ?_; rintro e w6 ⟨rfl, hb⟩; (have hs6 : w6.heap[w5.heap.size]? = some (Obj.cells #[Value.int .i64 (lo : Int), .int .i64 (hi : Int), .func (.func g0) #[] e0.toArray, .func (.func g1) #[] e1.toArray, .func (.func g2) #[] e2.toArray] 161) := (hb.block _ (by simp)).trans (heap_alloc_new _ _)); (have c0 := cell_of_blk (k := 0) hs6 rfl); (have c1 := cell_of_blk (k := 1) hs6 rfl); (have c2 := cell_of_blk (k := 2) hs6 rfl); (have c3 := cell_of_blk (k := 3) hs6 rfl); (have c4 := cell_of_blk (k := 4) hs6 rfl); (have HF6 := Lib.hid ((HF5.out.alloc (Obj.cells #[Value.int .i64 (lo : Int), .int .i64 (hi : Int), .func (.func g0) #[] e0.toArray, .func (.func g1) #[] e1.toArray, .func (.func g2) #[] e2.toArray] 161)).step hb)); (have HB56 : Hid (Below w5.heap.size w5 w6) := Lib.hid (((Below.refl _ _).alloc (Nat.le_refl _) _).trans (hb.mono (by simp)))); (have HA6 := Lib.hid (HA5.out.below hb)); clear hb hs6)
    | (go_at_call 178; refine (effect_any (.func (.func g2) #[] e2.toArray) lo hi (.func (.func g0) #[] e0.toArray) (.func (.func g1) #[] e1.toArray) (.func (.func g2) #[] e2.toArray) 2 _ (.inr (.inr (.inl ⟨rfl, rfl⟩)))).mono ?_; rintro e w8 ⟨rfl, hb⟩; (have HF8 := Lib.hid (HF6.out.step hb)); (have HA8 := Lib.hid (HA6.out.below hb)); (have HB58 : Hid (Below w5.heap.size w5 w8) := Lib.hid (HB56.out.trans (hb.mono HB56.out.size))); clear hb)
    | (go_at_call 92; refine (HCL.out _ HA8.out).mono ?_; rintro e w9 ⟨v9, rfl, ho, hb⟩; (have HF9 := Lib.hid (HF8.out.step hb)); (have HA9 := Lib.hid (HA8.out.below hb)); (have HO9 := Lib.hid ho); (have HB59 : Hid (Below w5.heap.size w5 w9) := Lib.hid (HB58.out.trans (hb.mono HB58.out.size))); (have HC : Hid (Calls Tryz.prog g2 (v9 :: .int .u64 (a : Int) :: e2).toArray w9 (EffP w8.heap.size w9 (l', val, 0))) := Lib.hid (by rw [← HD.out]; exact HK2.out.2 w9 w8.heap.size v9 l a HB59.out HB58.out.size hb.size ho HOK.out HX.out ha)); (have hlt8 := HF8.out.lt); (have HB89 := Lib.hid hb); (have hsz := hb.size); clear hb ho)
    | (refine HC.out.mono ?_; rintro e wz ⟨vz, rfl, ho, hb⟩; (have HF7 := Lib.hid (HF9.out.step' hb hlt8)); (have HO7 := Lib.hid ho); (obtain ⟨k0, k1, k2⟩ := HF7.out.cells); (have z0 := HF7.out.free 0); (have z1 := HF7.out.free 1); (have z2 := HF7.out.free 2); clear hb ho))
    refine bodyPost_ret (v := .tuple #[vz, .agg #[.int .i64 0, .int .u64 (val : Int), .slice none 0 0]]) (by simp [results, Tryz.results157, go_sem, k0, k1, k2]) rfl ⟨_, rfl, HF7.out.own HO7.out hlt8 _ _ _, HF7.out.put _ _ _⟩
  · obtain ⟨rfl, rfl⟩ : l = l' ∧ 0 = val := by
      rcases hE with h | h
      · exact absurd h he
      · simp at h; exact ⟨h.1.symm, h.2.symm⟩
    clear hE
    go_enter Tryz.func157, Tryz.ntmps157
    go_wp2_with (first
    | (go_at_call 109; refine (HF.out _).mono ?_; rintro e w5 ⟨g0, e0, g1, e1, g2, e2, rfl, hk0, hk1, hk2, hb⟩; (have HF5 := Lib.hid ((Fr.init w).step hb)); (have HA5 : Hid (ArgW (w5.alloc (Obj.cells #[Value.int .i64 (lo : Int), .int .i64 (hi : Int), .func (.func g0) #[] e0.toArray, .func (.func g1) #[] e1.toArray, .func (.func g2) #[] e2.toArray] 161)) v l) := Lib.hid (ArgW.alloc (HA.out.below hb) _)); (have hen := hk2.1); (have HK0 := Lib.hid hk0); (have HK1 := Lib.hid hk1); (have HK2 := Lib.hid hk2); clear hb hk0 hk1 hk2)
    | (go_at_call 145; refine (HR.out _ _ _ _ HA5.out).mono ?_; rintro e w6 ⟨rfl, hb⟩; (have hs6 : w6.heap[w5.heap.size]? = some (Obj.cells #[Value.int .i64 (lo : Int), .int .i64 (hi : Int), .func (.func g0) #[] e0.toArray, .func (.func g1) #[] e1.toArray, .func (.func g2) #[] e2.toArray] 161) := (hb.block _ (by simp)).trans (heap_alloc_new _ _)); (have c0 := cell_of_blk (k := 0) hs6 rfl); (have c1 := cell_of_blk (k := 1) hs6 rfl); (have c2 := cell_of_blk (k := 2) hs6 rfl); (have c3 := cell_of_blk (k := 3) hs6 rfl); (have c4 := cell_of_blk (k := 4) hs6 rfl); (have HF6 := Lib.hid ((HF5.out.alloc (Obj.cells #[Value.int .i64 (lo : Int), .int .i64 (hi : Int), .func (.func g0) #[] e0.toArray, .func (.func g1) #[] e1.toArray, .func (.func g2) #[] e2.toArray] 161)).step hb)); (have HB56 : Hid (Below w5.heap.size w5 w6) := Lib.hid (((Below.refl _ _).alloc (Nat.le_refl _) _).trans (hb.mono (by simp)))); (have HA6 := Lib.hid (HA5.out.below hb)); clear hb hs6)
    | (go_at_call 178; refine (effect_any (.func (.func g2) #[] e2.toArray) lo hi (.func (.func g0) #[] e0.toArray) (.func (.func g1) #[] e1.toArray) (.func (.func g2) #[] e2.toArray) 2 _ (.inr (.inr (.inl ⟨rfl, rfl⟩)))).mono ?_; rintro e w8 ⟨rfl, hb⟩; (have HF8 := Lib.hid (HF6.out.step hb)); (have HA8 := Lib.hid (HA6.out.below hb)); (have HB58 : Hid (Below w5.heap.size w5 w8) := Lib.hid (HB56.out.trans (hb.mono HB56.out.size))); clear hb)
    | (go_at_call 92; refine (HCL.out _ HA8.out).mono ?_; rintro e w9 ⟨v9, rfl, ho, hb⟩; (have HF9 := Lib.hid (HF8.out.step hb)); (have HA9 := Lib.hid (HA8.out.below hb)); (have HO9 := Lib.hid ho); (have HB59 : Hid (Below w5.heap.size w5 w9) := Lib.hid (HB58.out.trans (hb.mono HB58.out.size))); (have HC : Hid (Calls Tryz.prog g2 (v9 :: .int .u64 (a : Int) :: e2).toArray w9 (EffP w8.heap.size w9 (l, 0, er))) := Lib.hid (by rw [← HD.out]; exact HK2.out.2 w9 w8.heap.size v9 l a HB59.out HB58.out.size hb.size ho HOK.out HX.out ha)); (have hlt8 := HF8.out.lt); (have HB89 := Lib.hid hb); (have hsz := hb.size); clear hb ho)
    | (refine HC.out.mono ?_; rintro e wz ⟨vz, rfl, ho, hb⟩; (have HFz := Lib.hid (HF9.out.step' hb hlt8)); (have HAz := Lib.hid (HA8.out.keep (fun b hb2 => (hb.block b hb2).trans (HB89.out.block b hb2)))); clear hb ho)
    | (go_at_call 177; refine (HRF.out er _ HAz.out).mono ?_; rintro e w7 ⟨v7, rfl, ho, hb⟩; (have HF7 := Lib.hid (HFz.out.step hb)); (have HO7 := Lib.hid ho); (have hlt := HFz.out.lt); (obtain ⟨k0, k1, k2⟩ := HF7.out.cells); (have z0 := HF7.out.free 0); (have z1 := HF7.out.free 1); (have z2 := HF7.out.free 2); clear hb ho))
    refine bodyPost_ret (v := .tuple #[v7, .agg #[.int .i64 (er : Int), .int .u64 0, .slice none 0 0]]) (by simp [results, Tryz.results157, go_sem, k0, k1, k2]) rfl ⟨_, rfl, HF7.out.own HO7.out hlt _ _ _, HF7.out.put _ _ _⟩

end
section
set_option maxRecDepth 100000
open Go.ChangeShapes Go.WideShapes Go.ChangeAt Go.RowKit
set_option linter.unusedVariables false

theorem apply_any (t k : Int) (v : Value) (l : List Nat) (a : Nat) (w : World) (hA : ArgW w v l) (hl : l.length ≤ 4294967296) (hx : ∀ x ∈ l, x < 18446744073709551616) (ha : a < 18446744073709551616) :
    Calls Tryz.prog 157 #[.int .i64 t, v, .int .i64 k, .int .u64 (a : Int)] w (ApP w (sqAp t k l a)) := by
  unfold sqAp sqRight
  by_cases h : 0 ≤ t ∧ t ≤ 7
  · rw [sqIs_yes h, Bool.true_and]
    obtain ⟨n, rfl⟩ : ∃ n : Nat, t = n := ⟨t.toNat, by omega⟩
    have hn : n ≤ 7 := by omega
    rw [Int.toNat_natCast]
    have hN : sqN n = 3 ∨ sqN n = 2 := by unfold sqN; split <;> omega
    cases hr : (decide (sqLo n ≤ l.length) && decide (l.length ≤ sqHi n)) with
    | false =>
      rw [if_neg (by decide)]
      rcases hN with hN | hN
      · exact apply3_wrong n k v l a w hA hl hn hN hr
      · exact apply2_wrong n k v l a w hA hl hn hN hr
    | true =>
      rw [if_pos rfl]
      rcases hN with hN | hN
      · rw [hN]
        by_cases hk : 0 ≤ k ∧ k < ((3 : Nat) : Int)
        · rw [if_pos hk]
          have : k = 0 ∨ k = 1 ∨ k = 2 := by omega
          rcases this with rfl | rfl | rfl
          · exact apply3_0 n v l a w hA hl hn hN hr hx ha
          · exact apply3_1 n v l a w hA hl hn hN hr hx ha
          · exact apply3_2 n v l a w hA hl hn hN hr hx ha
        · rw [if_neg hk]
          exact apply3_kind n k v l a w hA hl hn hN hr hk
      · rw [hN]
        by_cases hk : 0 ≤ k ∧ k < ((2 : Nat) : Int)
        · rw [if_pos hk]
          have : k = 0 ∨ k = 1 := by omega
          rcases this with rfl | rfl
          · exact apply2_0 n v l a w hA hl hn hN hr hx ha
          · exact apply2_1 n v l a w hA hl hn hN hr hx ha
        · rw [if_neg hk]
          exact apply2_kind n k v l a w hA hl hn hN hr hk
  · rw [sqIs_no h, Bool.false_and, if_neg (by decide)]
    exact apply_none t k v l a w hA hl h

set_option maxHeartbeats 400000 in
theorem refKinds_any (t : Int) (w : World) :
    Calls Tryz.prog 57 #[.int .i64 t] w fun e w' => e = .returned (.int .i64 (sqKinds t : Int)) ∧ Below w.heap.size w w' := by
  unfold sqKinds
  by_cases h : 0 ≤ t ∧ t ≤ 7
  · rw [sqIs_yes h, if_pos rfl]
    obtain ⟨n, rfl⟩ : ∃ n : Nat, t = n := ⟨t.toNat, by omega⟩
    have hn : n ≤ 7 := by omega
    rw [Int.toNat_natCast]
    clear h
    match n, hn with
    | 0, _ =>
      go_enter Tryz.func57, Tryz.ntmps57
      go_wp2_with fail
      go_ret
      exact ⟨rfl, (Below.refl _ _).alloc (Nat.le_refl _) _⟩
    | 1, _ =>
      go_enter Tryz.func57, Tryz.ntmps57
      go_wp2_with fail
      go_ret
      exact ⟨rfl, (Below.refl _ _).alloc (Nat.le_refl _) _⟩
    | 2, _ =>
      go_enter Tryz.func57, Tryz.ntmps57
      go_wp2_with fail
      go_ret
      exact ⟨rfl, (Below.refl _ _).alloc (Nat.le_refl _) _⟩
    | 3, _ =>
      go_enter Tryz.func57, Tryz.ntmps57
      go_wp2_with fail
      go_ret
      exact ⟨rfl, (Below.refl _ _).alloc (Nat.le_refl _) _⟩
    | 4, _ =>
      go_enter Tryz.func57, Tryz.ntmps57
      go_wp2_with fail
      go_ret
      exact ⟨rfl, (Below.refl _ _).alloc (Nat.le_refl _) _⟩
    | 5, _ =>
      go_enter Tryz.func57, Tryz.ntmps57
      go_wp2_with fail
      go_ret
      exact ⟨rfl, (Below.refl _ _).alloc (Nat.le_refl _) _⟩
    | 6, _ =>
      go_enter Tryz.func57, Tryz.ntmps57
      go_wp2_with fail
      go_ret
      exact ⟨rfl, (Below.refl _ _).alloc (Nat.le_refl _) _⟩
    | 7, _ =>
      go_enter Tryz.func57, Tryz.ntmps57
      go_wp2_with fail
      go_ret
      exact ⟨rfl, (Below.refl _ _).alloc (Nat.le_refl _) _⟩
  · rw [sqIs_no h, if_neg (by simp)]
    by_cases h0 : t < 0
    · clear h
      go_enter Tryz.func57, Tryz.ntmps57
      go_wp2_with fail
      go_ret
      exact ⟨rfl, Below.refl _ _⟩
    · have h7 : 7 < t := by omega
      clear h
      go_enter Tryz.func57, Tryz.ntmps57
      go_wp2_with fail
      go_ret
      exact ⟨rfl, Below.refl _ _⟩

def GivesN (l : List Nat) (w : World) (e : Ending) (w' : World) : Prop := ∃ v, e = .returned v ∧ ArgW w' v l ∧ Below w.heap.size w w'
theorem arg_new (w : World) (l : List Nat) (b : Nat) (hb : b = w.heap.size) (n : Nat) (hn : n = l.length) : ArgW (w.alloc (.cells (l.map wU).toArray 55)) (.slice (some ⟨b, 0, none⟩) n n) l := by
  subst hb; subst hn
  refine ⟨_, w.heap.size, 0, l.length, rfl, fun _ => rfl, (fun h => by cases h), fun i x hx => ?_⟩
  rw [Nat.zero_add]
  exact cell_of_blk (heap_alloc_new _ _) (by simp [hx])

set_option maxHeartbeats 400000 in
theorem refNew_any (t : Int) (w : World) :
    Calls Tryz.prog 60 #[.int .i64 t] w (GivesN (if sqIs t then List.replicate (sqLo t.toNat) 0 else []) w) := by
  have HM : ∀ w : World, (Instr.makeSlice 37 (.int .i64 8) (.int .i64 8)).run Tryz.prog w = .ok (.slice (some ⟨w.heap.size, 0, none⟩) 8 8) (w.alloc (.cells (Array.replicate 8 (wU 0)) 55)) := run_mkW 8 (by omega)
  by_cases h : 0 ≤ t ∧ t ≤ 7
  · rw [sqIs_yes h, if_pos rfl]
    obtain ⟨n, rfl⟩ : ∃ n : Nat, t = n := ⟨t.toNat, by omega⟩
    have hn : n ≤ 7 := by omega
    rw [Int.toNat_natCast]
    clear h
    match n, hn with
    | 0, _ =>
      go_enter Tryz.func60, Tryz.ntmps60
      go_wp2_with fail
      go_ret
      exact ⟨_, rfl, arg_new _ [0] _ rfl _ rfl, (Below.refl _ _).alloc (Nat.le_refl _) _⟩
    | 1, _ =>
      go_enter Tryz.func60, Tryz.ntmps60
      go_wp2_with fail
      go_ret
      exact ⟨_, rfl, arg_new _ [0] _ rfl _ rfl, (Below.refl _ _).alloc (Nat.le_refl _) _⟩
    | 2, _ =>
      go_enter Tryz.func60, Tryz.ntmps60
      go_wp2_with fail
      go_ret
      exact ⟨_, rfl, ArgW.nil _, Below.refl _ _⟩
    | 3, _ =>
      go_enter Tryz.func60, Tryz.ntmps60
      go_wp2_with fail
      go_ret
      exact ⟨_, rfl, ArgW.nil _, Below.refl _ _⟩
    | 4, _ =>
      go_enter Tryz.func60, Tryz.ntmps60
      go_wp2_with fail
      go_ret
      exact ⟨_, rfl, arg_new _ [0] _ rfl _ rfl, (Below.refl _ _).alloc (Nat.le_refl _) _⟩
    | 5, _ =>
      go_enter Tryz.func60, Tryz.ntmps60
      go_wp2_with fail
      go_ret
      exact ⟨_, rfl, arg_new _ [0] _ rfl _ rfl, (Below.refl _ _).alloc (Nat.le_refl _) _⟩
    | 6, _ =>
      go_enter Tryz.func60, Tryz.ntmps60
      go_wp2_with fail
      go_ret
      exact ⟨_, rfl, arg_new _ [0] _ rfl _ rfl, (Below.refl _ _).alloc (Nat.le_refl _) _⟩
    | 7, _ =>
      go_enter Tryz.func60, Tryz.ntmps60
      go_wp2_with fail
      go_ret
      exact ⟨_, rfl, (made_own _ 8 0 _ rfl (by omega) (by omega)).arg, (Below.refl _ _).alloc (Nat.le_refl _) _⟩
  · rw [sqIs_no h, if_neg (by simp)]
    have n0 : ¬ t = 0 := by omega
    have n1 : ¬ t = 1 := by omega
    have n2 : ¬ t = 2 := by omega
    have n3 : ¬ t = 3 := by omega
    have n4 : ¬ t = 4 := by omega
    have n5 : ¬ t = 5 := by omega
    have n6 : ¬ t = 6 := by omega
    have n7 : ¬ t = 7 := by omega
    clear h
    go_enter Tryz.func60, Tryz.ntmps60
    go_wp2_with fail
    go_ret
    exact ⟨_, rfl, ArgW.nil _, Below.refl _ _⟩

theorem cast_eq1 (n m : Nat) : ((n : Int) == (m : Int)) = decide (n = m) := by rw [Bool.eq_iff_iff, beq_iff_eq, decide_eq_true_eq]; omega
theorem cast_le1 (n m : Nat) : decide ((n : Int) ≤ (m : Int)) = decide (n ≤ m) := by rw [Bool.eq_iff_iff, decide_eq_true_eq, decide_eq_true_eq]; omega
end
section
set_option maxRecDepth 100000
open Go.ChangeShapes Go.WideShapes Go.ChangeAt Go.RowKit
set_option linter.unusedVariables false
set_option linter.unusedSimpArgs false

/-- a slice whose words are l, in a block from B on -/
def ArgB (w : World) (B : Nat) (v : Value) (l : List Nat) : Prop :=
  ∃ (ao : Option Addr) (b o cap : Nat), v = .slice ao l.length cap ∧ (0 < l.length → ao = some ⟨b, o, none⟩ ∧ B ≤ b) ∧ (ao = none → cap = 0) ∧ ∀ (i x : Nat), l[i]? = some x → w.cell? ⟨b, o + i, none⟩ = some (wU x)
theorem ArgB.arg {w : World} {B : Nat} {v : Value} {l : List Nat} (h : ArgB w B v l) : ArgW w v l := by
  obtain ⟨ao, b, o, cap, rfl, h1, h2, h3⟩ := h; exact ⟨ao, b, o, cap, rfl, fun h => (h1 h).1, h2, h3⟩
theorem ArgB.mono {w : World} {B B' : Nat} {v : Value} {l : List Nat} (h : ArgB w B v l) (hB : B' ≤ B) : ArgB w B' v l := by
  obtain ⟨ao, b, o, cap, rfl, h1, h2, h3⟩ := h; exact ⟨ao, b, o, cap, rfl, fun h => ⟨(h1 h).1, Nat.le_trans hB (h1 h).2⟩, h2, h3⟩
theorem ArgB.below {w w' : World} {B : Nat} {v : Value} {l : List Nat} (h : ArgB w B v l) (hb : Below w.heap.size w w') : ArgB w' B v l := by
  obtain ⟨ao, b, o, cap, rfl, h1, h2, h3⟩ := h
  refine ⟨ao, b, o, cap, rfl, h1, h2, fun i x hx => ?_⟩
  have := h3 i x hx
  exact (hb.cell (World.block_lt_of_cell? w _ this)).trans this
theorem ArgB.drew {w : World} {B : Nat} {v : Value} {l : List Nat} (h : ArgB w B v l) : ArgB w.drew B v l := h
theorem ArgB.other {w : World} {B b : Nat} {v : Value} {l : List Nat} (h : ArgB w B v l) (hb : b < B) (k : Nat) (u : Value) : ArgB (w.setCell ⟨b, k, none⟩ u) B v l := by
  obtain ⟨ao, b', o, cap, rfl, h1, h2, h3⟩ := h
  refine ⟨ao, b', o, cap, rfl, h1, h2, fun i x hx => ?_⟩
  have hB := (h1 (by have := (List.getElem?_eq_some_iff.1 hx).1; omega)).2
  have := h3 i x hx
  rw [← this]
  unfold World.cell?
  rw [Below.heap_setCell w ⟨b, k, none⟩ u b' (by show b' ≠ b; omega)]
theorem ArgB.put3 {w : World} {B b : Nat} {v : Value} {l : List Nat} (h : ArgB w B v l) (hb : b < B) (x y z : Value) : ArgB (((w.setCell ⟨b, 0, none⟩ x).setCell ⟨b, 1, none⟩ y).setCell ⟨b, 2, none⟩ z) B v l :=
  ((h.other hb 0 x).other hb 1 y).other hb 2 z
theorem ArgB.nil (w : World) (B : Nat) : ArgB w B (.slice none 0 0) [] := ⟨none, 0, 0, 0, rfl, fun h => absurd h (by simp), fun _ => rfl, fun i x h => by simp at h⟩
theorem OwnW.argB {w : World} {B : Nat} {v : Value} {l : List Nat} (h : OwnW w B v l) : ArgB w B v l := by
  have h' := h
  obtain ⟨_, ⟨rfl, h0⟩ | ⟨g, cap, cur, rfl, hg, hb, h1, h2, h3, h4⟩⟩ := h
  · rw [List.length_eq_zero_iff.1 h0]; exact ArgB.nil w B
  · refine ⟨_, g, 0, cap, rfl, fun _ => ⟨rfl, hg⟩, (fun h => by cases h), fun i x hx => ?_⟩
    have hi := (List.getElem?_eq_some_iff.1 hx).1
    rw [Nat.zero_add, World.ownsRow.cellAt h' i (by omega), List.getElem?_map, hx]; rfl
/-- what the reference leaves -/
def DnP (B : Nat) (W : World) (r : List Nat × Nat × Nat) (e : Ending) (w' : World) : Prop :=
  ∃ v', e = .returned (.agg #[v', .int .i64 (r.2.2 : Int), .int .u64 (r.2.1 : Int)]) ∧ ArgB w' B v' r.1 ∧ Below B W w'
theorem arg_one {w : World} {B b y : Nat} (hB : B ≤ b) (h : w.cell? ⟨b, 0, none⟩ = some (wU y)) : ArgB w B (.slice (some ⟨b, 0, none⟩) 1 1) [y] := by
  refine ⟨_, b, 0, 1, rfl, fun _ => ⟨rfl, hB⟩, (fun h => by cases h), fun i x hx => ?_⟩
  match i, hx with
  | 0, hx => simp at hx; subst hx; exact h
  | i + 1, hx => simp at hx


set_option maxHeartbeats 400000 in
theorem refSet_any (k : Nat) (v : Value) (x a B : Nat) (w : World) (h : ArgB w B v [x]) (hB : B ≤ w.heap.size) (hx : x < 18446744073709551616) (ha : a < 18446744073709551616) (hk : k ≤ 2) :
    Calls Tryz.prog 125 #[v, .int .i64 (k : Int), .int .u64 (a : Int)] w (DnP B w (sqDo 4 k [x] a)) := by
  have HA := Lib.hid h
  obtain ⟨ao, b, o, cap, rfl, h1, h2, h3⟩ := h
  obtain ⟨rfl, hBb⟩ := h1 (by simp)
  have d0 := h3 0 x rfl
  have hlt := World.block_lt_of_cell? w _ d0
  simp only [Nat.add_zero, List.length_singleton] at *
  unfold wU at d0
  clear h1 h2 h3
  by_cases h8 : 64 ≤ a
  · have HV : Hid (sqDo 4 k [x] a = ([x], 0, 10)) := Lib.hid (by
      match k, hk with
      | 0, _ => exact if_pos h8
      | 1, _ => exact if_pos h8
      | 2, _ => exact if_pos h8)
    rw [HV.out]
    clear hk
    go_enter Tryz.func125, Tryz.ntmps125
    go_wp2_with fail
    refine bodyPost_ret (v := .agg #[.slice (some ⟨b, o, none⟩) 1 cap, .int .i64 10, .int .u64 0]) (by simp [results, Tryz.results125, go_sem]) rfl ⟨_, rfl, HA.out.below ?_, ?_⟩
    all_goals (repeat (first | with_reducible exact Below.refl _ _ | with_reducible refine Below.setCell ?_ (by first | (simp; done) | (simp; omega)) _ | with_reducible refine Below.alloc ?_ (by first | omega | (simp; done) | (simp; omega)) _ | with_reducible refine below_drewN ?_ _))
  · have h9 : a < 64 := by omega
    have hb2 := bit_le a h9
    have hz1 := Nat.two_pow_pos a
    obtain ⟨z, hz⟩ : ∃ z, z = 2 ^ a := ⟨_, rfl⟩
    have hwz : IntKind.u64.wrap (2 ^ a) = (z : Int) := by
      have e : (2 : Int) ^ a = ((2 ^ a : Nat) : Int) := by rw [Int.natCast_pow]; rfl
      rw [e, ← hz]
      rw [← hz] at hb2
      exact IntWalk.u64_in _ (by omega)
    have HV : Hid (sqDo 4 k [x] a = if k = 0 then ([x], x / z % 2, 0) else if k = 1 then (if x / z % 2 = 0 then ([x + z], 1, 0) else ([x], 0, 0)) else (if x / z % 2 = 1 then ([x - z], 1, 0) else ([x], 0, 0))) := Lib.hid (by
      subst hz
      match k, hk with
      | 0, _ => exact if_neg h8
      | 1, _ => exact if_neg h8
      | 2, _ => exact if_neg h8)
    rw [HV.out]
    rw [← hz] at hb2 hz1
    have hq : (x : Int) / (z : Int) = ((x / z : Nat) : Int) := (Int.natCast_ediv x z).symm
    have hle : x / z ≤ x := Nat.div_le_self _ _
    have hdz : z ≤ x ∨ x / z % 2 = 0 := by
      rcases Nat.lt_or_ge x z with h2 | h2
      · right; rw [Nat.div_eq_of_lt h2]
      · exact .inl h2
    have HO : Hid (x / z % 2 = 0 → x + z < 18446744073709551616) := Lib.hid (fun h => by
      subst hz
      rw [← or_bit0 x a h]
      exact Nat.or_lt_two_pow (n := 64) hx (by omega))
    clear hz HV h8
    generalize x / z = y at *
    have hd : y % 2 = 0 ∨ y % 2 = 1 := by omega
    have hk3 : k = 0 ∨ k = 1 ∨ k = 2 := by omega
    clear hk
    rcases hk3 with rfl | rfl | rfl
    · rw [if_pos rfl]
      go_enter Tryz.func125, Tryz.ntmps125
      go_wp2_with fail
      refine bodyPost_ret (v := .agg #[.slice (some ⟨b, o, none⟩) 1 cap, .int .i64 0, .int .u64 ((y % 2 : Nat) : Int)]) (by simp [results, Tryz.results125, go_sem]) rfl ⟨_, rfl, HA.out.below ?_, ?_⟩
      all_goals (repeat (first | with_reducible exact Below.refl _ _ | with_reducible refine Below.setCell ?_ (by first | (simp; done) | (simp; omega)) _ | with_reducible refine Below.alloc ?_ (by first | omega | (simp; done) | (simp; omega)) _ | with_reducible refine below_drewN ?_ _))
    · rw [if_neg (by decide), if_pos rfl]
      by_cases h0 : y % 2 = 0
      · rw [if_pos h0]
        have hs := HO.out h0
        have hi0 : (y : Int) % 2 = 0 := by omega
        clear hd hdz
        go_enter Tryz.func125, Tryz.ntmps125
        go_wp2_with fail
        refine bodyPost_ret (v := .agg #[.slice (some ⟨w.heap.size + 1, 0, none⟩) 1 1, .int .i64 0, .int .u64 1]) (by simp [results, Tryz.results125, go_sem]) rfl ⟨_, rfl, arg_one (by omega) (by simp [wU]), ?_⟩
        all_goals (repeat (first | with_reducible exact Below.refl _ _ | with_reducible refine Below.setCell ?_ (by first | (simp; done) | (simp; omega)) _ | with_reducible refine Below.alloc ?_ (by first | omega | (simp; done) | (simp; omega)) _ | with_reducible refine below_drewN ?_ _))
      · rw [if_neg h0]
        have hi0 : (y : Int) % 2 = 1 := by omega
        clear hd hdz
        go_enter Tryz.func125, Tryz.ntmps125
        go_wp2_with fail
        refine bodyPost_ret (v := .agg #[.slice (some ⟨b, o, none⟩) 1 cap, .int .i64 0, .int .u64 0]) (by simp [results, Tryz.results125, go_sem]) rfl ⟨_, rfl, HA.out.below ?_, ?_⟩
        all_goals (repeat (first | with_reducible exact Below.refl _ _ | with_reducible refine Below.setCell ?_ (by first | (simp; done) | (simp; omega)) _ | with_reducible refine Below.alloc ?_ (by first | omega | (simp; done) | (simp; omega)) _ | with_reducible refine below_drewN ?_ _))
    · rw [if_neg (by decide), if_neg (by decide)]
      by_cases h0 : y % 2 = 1
      · rw [if_pos h0]
        have hs : z ≤ x := by omega
        have hi0 : (y : Int) % 2 = 1 := by omega
        have hsub : ((x - z : Nat) : Int) = (x : Int) - (z : Int) := by omega
        clear hd hdz
        go_enter Tryz.func125, Tryz.ntmps125
        go_wp2_with fail
        refine bodyPost_ret (v := .agg #[.slice (some ⟨w.heap.size + 1, 0, none⟩) 1 1, .int .i64 0, .int .u64 1]) (by simp [results, Tryz.results125, go_sem]) rfl ⟨_, rfl, arg_one (by omega) (by simp [wU, hsub]), ?_⟩
        all_goals (repeat (first | with_reducible exact Below.refl _ _ | with_reducible refine Below.setCell ?_ (by first | (simp; done) | (simp; omega)) _ | with_reducible refine Below.alloc ?_ (by first | omega | (simp; done) | (simp; omega)) _ | with_reducible refine below_drewN ?_ _))
      · rw [if_neg h0]
        have hi0 : (y : Int) % 2 = 0 := by omega
        clear hd hdz
        go_enter Tryz.func125, Tryz.ntmps125
        go_wp2_with fail
        refine bodyPost_ret (v := .agg #[.slice (some ⟨b, o, none⟩) 1 cap, .int .i64 0, .int .u64 0]) (by simp [results, Tryz.results125, go_sem]) rfl ⟨_, rfl, HA.out.below ?_, ?_⟩
        all_goals (repeat (first | with_reducible exact Below.refl _ _ | with_reducible refine Below.setCell ?_ (by first | (simp; done) | (simp; omega)) _ | with_reducible refine Below.alloc ?_ (by first | omega | (simp; done) | (simp; omega)) _ | with_reducible refine below_drewN ?_ _))
end
end Go.Proofs.YtjjleghalajidaaGreat
