/- What is known; SeqTypes' walk. -/
import Derived.Test.YtlcnhmijagddgaaSO
namespace Go.Proofs.Ytlcnhmijagddgaa
open Go.ChangeShapes Go.WideShapes Go.ChangeAt Go.RowKit
set_option linter.unusedVariables false
set_option linter.unusedSimpArgs false

abbrev ansA (e v : Int) : Obj := .cells #[.int .i64 e, .int .u64 v, .slice none 0 0] 32

set_option maxRecDepth 100000 in
set_option maxHeartbeats 2000000 in
theorem known_any (w : World) : Calls Try.prog 13 #[] w fun e w' => e = .returned (.bool true) ∧ Below w.heap.size w w' := by
  have HC1 : Hid (∀ W, Calls Try.prog 14 #[.int .i64 2, .slice none 0 0, .int .i64 0, .int .u64 5] W (ApP W ([5], 0, 0))) := Lib.hid (fun W => apply_any 2 0 _ [] 5 W (ArgW.nil W) (by simp) (by simp) (by decide))
  have HC2 : Hid (∀ v W, ArgW W v [5] → Calls Try.prog 14 #[.int .i64 2, v, .int .i64 0, .int .u64 6] W (ApP W ([5, 6], 0, 0))) := Lib.hid (fun v W h => apply_any 2 0 v [5] 6 W h (by simp) (by simp) (by decide))
  have HC3 : Hid (∀ v W, ArgW W v [5, 6] → Calls Try.prog 14 #[.int .i64 2, v, .int .i64 1, .int .u64 0] W (ApP W ([5], 6, 0))) := Lib.hid (fun v W h => apply_any 2 1 v [5, 6] 0 W h (by simp) (by simp) (by decide))
  have HC4 : Hid (∀ v W, ArgW W v [0] → Calls Try.prog 14 #[.int .i64 6, v, .int .i64 1, .int .u64 9] W (ApP W ([9], 1, 0))) := Lib.hid (fun v W h => apply_any 6 1 v [0] 9 W h (by simp) (by simp) (by decide))
  have HK2 : Hid (∀ W, Calls Try.prog 6 #[.int .i64 2] W fun e w' => e = .returned (.int .i64 3) ∧ Below W.heap.size W w') := Lib.hid (fun W => seqKinds_any 2 W)
  have HK8 : Hid (∀ W, Calls Try.prog 6 #[.int .i64 8] W fun e w' => e = .returned (.int .i64 0) ∧ Below W.heap.size W w') := Lib.hid (fun W => seqKinds_any 8 W)
  have HN7 : Hid (∀ W, Calls Try.prog 9 #[.int .i64 7] W (GivesW (List.replicate 8 0) W)) := Lib.hid (fun W => seqNew_any 7 W)
  go_enter Try.func13, Try.ntmps13
  go_wp2_with (first
    | (go_at_call 14; (with_reducible refine (HC1.out _).mono ?_); rintro e w1 ⟨v1, rfl, ho1, hb1⟩; (have HB1 := Lib.hid hb1); (have HO1 : Hid (OwnW (w1.alloc (ansA 0 0)) w.heap.size v1 [5]) := Lib.hid (ho1.alloc _)); clear hb1 ho1)
    | (go_at_call 14; (with_reducible refine (HC2.out _ _ HO1.out.arg).mono ?_); rintro e w2 ⟨v2, rfl, ho2, hb2⟩; (have HB2 : Hid (Below w.heap.size w w2) := Lib.hid ((HB1.out.alloc HB1.out.size (ansA 0 0)).trans (hb2.mono (by have := HB1.out.size; simp; omega)))); (have HO2 := Lib.hid ho2); clear hb2 ho2)
    | (go_at_call 14; (with_reducible refine (HC3.out _ _ HO2.out.arg).mono ?_); rintro e w3 ⟨v3, rfl, ho3, hb3⟩; (have HB3 : Hid (Below w.heap.size w w3) := Lib.hid (HB2.out.trans (hb3.mono HB2.out.size))); (have HO3 : Hid (OwnW ((w3.alloc (ansA 0 6)).alloc (.cells #[.int .u64 0] 29)) w2.heap.size v3 [5]) := Lib.hid ((ho3.alloc _).alloc _)); (have HA4 : Hid (ArgW ((w3.alloc (ansA 0 6)).alloc (.cells #[.int .u64 0] 29)) (.slice (some ⟨w3.heap.size + 1, 0, none⟩) 1 1) [0]) := Lib.hid (arg_one (B := 0) (by omega) (World.cell?_alloc_at _ _ _ _ (by simp))).arg); clear hb3 ho3)
    | (go_at_call 14; (with_reducible refine (HC4.out _ _ HA4.out).mono ?_); rintro e w4 ⟨v4, rfl, ho4, hb4⟩; (have HB4 : Hid (Below w.heap.size w w4) := Lib.hid (((HB3.out.alloc HB3.out.size _).alloc (by have := HB3.out.size; simp; omega) _).trans (hb4.mono (by have := HB3.out.size; simp; omega)))); (have HO34 := Lib.hid (HO3.out.below hb4)); (have HO4 := Lib.hid ho4); (have hbk : w4.heap[w3.heap.size]? = some (ansA 0 6) := (hb4.block _ (by simp; omega)).trans ((Below.heap_alloc _ _ _ (by simp)).trans (heap_alloc_new _ _))); (have k0 : w4.cell? ⟨w3.heap.size, 0, none⟩ = some (.int .i64 0) := cell_of_blk (k := 0) hbk rfl); (have k1 : w4.cell? ⟨w3.heap.size, 1, none⟩ = some (.int .u64 6) := cell_of_blk (k := 1) hbk rfl); (obtain ⟨g3, c3, rfl, hg3, hl3, hc3, _⟩ := HO34.out.opened (by simp)); (obtain ⟨g4, c4, rfl, hg4, hl4, hc4, _⟩ := HO4.out.opened (by simp)); (have d3 : w4.cell? ⟨g3, 0, none⟩ = some (.int .u64 5) := hc3 0 5 rfl); (have d4 : w4.cell? ⟨g4, 0, none⟩ = some (.int .u64 9) := hc4 0 9 rfl); (have hl5 := blk_lt hbk); clear hb4 ho4 hbk hc3 hc4)
    | (go_at_call 6; (with_reducible refine (HK2.out _).mono ?_); rintro e w5 ⟨rfl, hb5⟩; (have HB5 := Lib.hid hb5); clear hb5)
    | (go_at_call 6; (with_reducible refine (HK8.out _).mono ?_); rintro e w6 ⟨rfl, hb6⟩; (have HB6 := Lib.hid hb6); clear hb6)
    | (go_at_call 9; (with_reducible refine (HN7.out _).mono ?_); rintro e w7 ⟨v7, rfl, ho7, hb7⟩; (have HB7 := Lib.hid hb7); (obtain ⟨g7, c7, rfl, _, _, _, _⟩ := ho7.opened (by simp)); clear hb7 ho7))
  go_ret
  have s4 := HB4.out.size
  have h5 : Below w.heap.size w w5 := (HB4.out.alloc s4 (ansA 0 1)).trans (HB5.out.mono (by simp; omega))
  have h6 : Below w.heap.size w w6 := h5.trans (HB6.out.mono h5.size)
  exact ⟨rfl, h6.trans (HB7.out.mono h6.size)⟩

set_option maxRecDepth 100000 in
set_option maxHeartbeats 2000000 in
theorem types_walk (t : Int) (v : Value) (l : List Nat) (w : World) (hA : ArgW w v l) (hl : l.length ≤ 9223372036854775807) :
    Calls Try.prog 3 #[.int .i64 t, v] w fun e w' => e = .returned (.bool true) ∧ Below w.heap.size w w' := by
  obtain ⟨nw, hnw⟩ : ∃ nw, nw = (if sqIs t then List.replicate (sqLo t.toNat) 0 else []) := ⟨_, rfl⟩
  have hnl : nw.length ≤ 4294967296 := by
    rw [hnw]; split
    · rw [List.length_replicate]; have := sqLo_le t.toNat; omega
    · simp
  have H1 := Lib.hid (fun W => seqKinds_any t W)
  have H2 := Lib.hid (fun W => refKinds_any t W)
  have H3 := Lib.hid (fun W => seqNew_any t W)
  have H4 := Lib.hid (fun W => refNew_any t W)
  rw [← hnw] at H3 H4
  have H5 := Lib.hid (fun v1 v2 W (h1 : ArgW W v1 nw) (h2 : ArgW W v2 nw) => sameW v1 v2 nw W hnl h1 h2)
  have H6 := Lib.hid (fun W (h : ArgW W v l) => seqRight_any t v l W h hl)
  have H7 := Lib.hid (fun W (h : ArgW W v l) => refRight_any t v l W h hl)
  have HA := Lib.hid hA
  have hk : sqKinds t ≤ 3 := by
    unfold sqKinds; split
    · unfold sqN; split <;> omega
    · omega
  clear hnw hnl hA
  generalize sqKinds t = kk at *
  generalize sqRight t l = rr at *
  go_enter Try.func3, Try.ntmps3
  go_wp2_with (first
    | (go_at_call 6; refine (H1.out _).mono ?_; rintro e w1 ⟨rfl, hb⟩; (have HB1 := Lib.hid hb); clear hb)
    | (go_at_call 7; refine (H2.out _).mono ?_; rintro e w2 ⟨rfl, hb⟩; (have HB2 := Lib.hid (HB1.out.trans (hb.mono HB1.out.size))); clear hb)
    | (go_at_call 9; refine (H3.out _).mono ?_; rintro e w3 ⟨v3, rfl, ho, hb⟩; (have HB3 := Lib.hid (HB2.out.trans (hb.mono HB2.out.size))); (have HA3 := Lib.hid ho.arg); clear hb ho)
    | (go_at_call 10; refine (H4.out _).mono ?_; rintro e w4 ⟨v4, rfl, ho, hb⟩; (have HB4 := Lib.hid (HB3.out.trans (hb.mono HB3.out.size))); (have HA4 := Lib.hid ho); (have HA34 := Lib.hid (HA3.out.below hb)); clear hb ho)
    | (go_at_call 8; refine (H5.out _ _ _ HA34.out HA4.out).mono ?_; rintro e w5 ⟨rfl, m5, rfl⟩; (have HB5 : Hid (Below w.heap.size w (w4.drewN m5)) := Lib.hid (below_drewN HB4.out m5)); (have HA5 := Lib.hid (HA.out.below HB5.out)))
    | (go_at_call 11; refine (H6.out _ HA5.out).mono ?_; rintro e w6 ⟨rfl, hb⟩; (have HB6 := Lib.hid (HB5.out.trans (hb.mono HB5.out.size))); (have HA6 := Lib.hid (HA5.out.below hb)); clear hb)
    | (go_at_call 12; refine (H7.out _ HA6.out).mono ?_; rintro e w7 ⟨rfl, rfl⟩)
    | (go_at_call 13; refine (known_any _).mono ?_; rintro e w8 ⟨rfl, hb⟩; (have HB8 := Lib.hid (HB6.out.trans (hb.mono HB6.out.size))); clear hb))
  go_ret
  exact ⟨ret_bool (by simp), HB8.out⟩
end Go.Proofs.Ytlcnhmijagddgaa
