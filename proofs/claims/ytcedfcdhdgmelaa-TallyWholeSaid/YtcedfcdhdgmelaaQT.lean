/- The model of the tally, as Wrong wants it. -/
import Derived.Test.YtcedfcdhdgmelaaGM
import Derived.Test.YtcedfcdhdgmelaaG8a
namespace Go.Proofs.Ytcedfcdhdgmelaa
open Go.ChangeShapes Go.WideShapes Go.ChangeAt Go.RowKit
set_option linter.unusedVariables false
set_option linter.unusedSimpArgs false
set_option maxRecDepth 20000 in
theorem size_tally (n : Nat) (p q : Int) (W : World) : Calls Try.prog 38 #[.int .i64 (n : Int), specAgg 2 p q] W fun e w' => ∃ s : Int, e = .returned (.int .i64 s) ∧ 0 ≤ s ∧ Below W.heap.size W w' := by
  unfold specAgg
  go_enter Try.func38, Try.ntmps38
  go_wp2_with fail
  go_ret
  exact ⟨(n : Int), rfl, by omega, (Below.refl _ _).alloc (Nat.le_refl _) _⟩
set_option maxRecDepth 20000 in
theorem new_tally (n p q : Int) (W : World) : Calls Try.prog 39 #[.int .i64 n, specAgg 2 p q] W fun e w' => ∃ v, e = .returned v ∧ ListAt w' 43 mkU (fun b => W.heap.size ≤ b) v [0] ∧ Below W.heap.size W w' := by
  have hb1 : Below W.heap.size W (W.alloc (.cells #[.int .i64 2, .int .i64 p, .int .i64 q] 38)) := (Below.refl _ _).alloc (Nat.le_refl _) _
  obtain ⟨v, hv, hl, hb⟩ := new_one W _ hb1
  have hs : (W.alloc (.cells #[.int .i64 2, .int .i64 p, .int .i64 q] 38)).heap.size = W.heap.size + 1 := by simp
  rw [hs] at hv
  have HL := Lib.hid hl
  have HB := Lib.hid hb
  clear hl hb
  unfold specAgg
  go_enter Try.func39, Try.ntmps39
  go_wp2_with fail
  go_ret
  exact ⟨v, by rw [hv]; rfl, HL.out, HB.out⟩
set_option maxRecDepth 20000 in
set_option maxHeartbeats 2000000 in
theorem apply_tal0 (n p q : Int) (v : Value) (y : Nat) (x : CallV) (pr : Nat → Prop) (W : World) (hv : ListAt W 43 mkU pr v [y]) (hx : x.k = 0) :
    Calls Try.prog 42 #[.int .i64 n, specAgg 2 p q, v, callAgg x] W (ApplyPost ([(y + 1) % 18446744073709551616], ⟨0, 0, []⟩) W) := by
  have HK := Lib.hid hx
  clear hx
  obtain ⟨iU, ua, ub, uc, ud⟩ := info_parts info22
  have hvW : ListAt (applyW 2 p q x W) 43 mkU (fun b => b < W.heap.size) v [y] := hv.keep (fun b hb _ => ⟨(applyW_below 2 p q x W).block b hb.lt, hb.lt⟩)
  obtain ⟨vao, vcap, rfl⟩ := hv.isSlice
  have hz := applyW_size 2 p q x W
  have HB1 := Lib.hid (applyW_below 2 p q x W)
  have HS1 := Lib.hid (applyW_spec 2 p q x W)
  have HC1 := Lib.hid (applyW_call 2 p q x W)
  have HA1 := Lib.hid (applyW_ans 2 p q x W)
  unfold applyW at hvW hz HB1 HS1 HC1 HA1
  clear hv
  unfold specAgg callAgg at *
  go_enter Try.func42, Try.ntmps42
  go_wp2_with (at_builtin; refine append1 rfl _ _ 27 rfl iU 8 Try.underlying27 ua ub uc ud (by decide) (W.heap.size + 1 + 1 + 1) hz.symm rfl _ y rfl _ hvW ?_)
  intro g cap w1 hO hg hb1
  (try rw [hz] at hg)
  (try rw [hz] at hb1)
  have HB2 : Hid (Below W.heap.size W w1) := Lib.hid (HB1.out.trans (hb1.mono (by omega)))
  have hs2 := HS1.out.same (hb1.block _ (by omega))
  have hc2 := HC1.out.same (hb1.block _ (by omega))
  have ha2 := HA1.out.same (hb1.block _ (by omega))
  have s0 : w1.cell? ⟨W.heap.size, 0, none⟩ = some (.int .i64 2) := hs2.cell rfl
  have d2 : w1.cell? ⟨W.heap.size + 1, 2, none⟩ = some (.int .i64 x.k) := hc2.cell rfl
  rw [HK.out] at d2
  have a0 := ha2.cell (i := 0) rfl
  have a1 := ha2.cell (i := 1) rfl
  have a2 := ha2.cell (i := 2) rfl
  have z0 : w1.frozen? ⟨W.heap.size + 1 + 1, 0, none⟩ = false := ha2.free
  have z1 : w1.frozen? ⟨W.heap.size + 1 + 1, 1, none⟩ = false := ha2.free
  have z2 : w1.frozen? ⟨W.heap.size + 1 + 1, 2, none⟩ = false := ha2.free
  have hne : g ≠ W.heap.size + 1 + 1 := by omega
  have hn2 : W.heap.size + 1 + 1 ≠ g := by omega
  have hgl := hO.lt
  have hal := ha2.lt
  have c0 : w1.cell? ⟨g, 0, none⟩ = some (.int .u64 (y : Int)) := hO.cell
  have HA2 := Lib.hid ha2
  have HO := Lib.hid hO
  clear hvW hb1 hs2 hc2 ha2 hO HB1 HS1 HC1 HA1
  have hsz : ((((w1.setCell ⟨W.heap.size + 1 + 1, 0, none⟩ (.int .i64 ((0 : Nat) : Int))).setCell ⟨W.heap.size + 1 + 1, 1, none⟩ (.int .u64 ((0 : Nat) : Int))).setCell ⟨W.heap.size + 1 + 1, 2, none⟩ (.slice none 0 0))).heap.size = w1.heap.size := by simp [World.setCell]
  have HX : Hid (RowBlk 45 (((((w1.setCell ⟨W.heap.size + 1 + 1, 0, none⟩ (.int .i64 ((0 : Nat) : Int))).setCell ⟨W.heap.size + 1 + 1, 1, none⟩ (.int .u64 ((0 : Nat) : Int))).setCell ⟨W.heap.size + 1 + 1, 2, none⟩ (.slice none 0 0))).alloc (.cells #[.int .u64 (((y + 1) % 18446744073709551616 : Nat) : Int)] 43)) (W.heap.size + 1 + 1) [.int .i64 ((0 : Nat) : Int), .int .u64 ((0 : Nat) : Int), .slice none 0 0] ∧ Own1 (((((w1.setCell ⟨W.heap.size + 1 + 1, 0, none⟩ (.int .i64 ((0 : Nat) : Int))).setCell ⟨W.heap.size + 1 + 1, 1, none⟩ (.int .u64 ((0 : Nat) : Int))).setCell ⟨W.heap.size + 1 + 1, 2, none⟩ (.slice none 0 0))).alloc (.cells #[.int .u64 (((y + 1) % 18446744073709551616 : Nat) : Int)] 43)) w1.heap.size ((y + 1) % 18446744073709551616) ∧ Below W.heap.size W (((((w1.setCell ⟨W.heap.size + 1 + 1, 0, none⟩ (.int .i64 ((0 : Nat) : Int))).setCell ⟨W.heap.size + 1 + 1, 1, none⟩ (.int .u64 ((0 : Nat) : Int))).setCell ⟨W.heap.size + 1 + 1, 2, none⟩ (.slice none 0 0))).alloc (.cells #[.int .u64 (((y + 1) % 18446744073709551616 : Nat) : Int)] 43))) := Lib.hid
    ⟨(((HA2.out.put 0 _).put 1 _).put 2 _).alloc _, ⟨#[.int .u64 (((y + 1) % 18446744073709551616 : Nat) : Int)], by rw [← hsz]; exact heap_alloc_new _ _, rfl⟩,
     (((HB2.out.setCell (show W.heap.size ≤ W.heap.size + 1 + 1 by omega) _).setCell (show W.heap.size ≤ W.heap.size + 1 + 1 by omega) _).setCell (show W.heap.size ≤ W.heap.size + 1 + 1 by omega) _).alloc (by rw [hsz]; omega) _⟩
  clear hsz
  go_wp2_with fail
  rw [wrap_one]
  generalize (((w1.setCell ⟨W.heap.size + 1 + 1, 0, none⟩ (.int .i64 ((0 : Nat) : Int))).setCell ⟨W.heap.size + 1 + 1, 1, none⟩ (.int .u64 ((0 : Nat) : Int))).setCell ⟨W.heap.size + 1 + 1, 2, none⟩ (.slice none 0 0)).alloc (.cells #[.int .u64 (((y + 1) % 18446744073709551616 : Nat) : Int)] 43) = W5 at HX ⊢
  have q0 := HX.out.1.cell (i := 0) rfl
  have q1 := HX.out.1.cell (i := 1) rfl
  have q2 := HX.out.1.cell (i := 2) rfl
  exact bodyPost_ret (v := .tuple #[.slice (some ⟨w1.heap.size, 0, none⟩) 1 1, .agg #[.int .i64 ((0 : Nat) : Int), .int .u64 ((0 : Nat) : Int), .slice none 0 0]]) (by simp [results, Try.results42, go_sem, q0, q1, q2]) rfl ⟨_, _, rfl, HX.out.2.1, by omega, HX.out.2.2⟩
set_option maxRecDepth 20000 in
set_option maxHeartbeats 2000000 in
theorem apply_tal1 (n p q : Int) (v : Value) (y : Nat) (x : CallV) (pr : Nat → Prop) (W : World) (hv : ListAt W 43 mkU pr v [y]) (hx : x.k = 1) :
    Calls Try.prog 42 #[.int .i64 n, specAgg 2 p q, v, callAgg x] W (ApplyPost ([y], ⟨0, y, []⟩) W) := by
  have HK := Lib.hid hx
  clear hx
  obtain ⟨iU, ua, ub, uc, ud⟩ := info_parts info22
  have hvW : ListAt (applyW 2 p q x W) 43 mkU (fun b => b < W.heap.size) v [y] := hv.keep (fun b hb _ => ⟨(applyW_below 2 p q x W).block b hb.lt, hb.lt⟩)
  obtain ⟨vao, vcap, rfl⟩ := hv.isSlice
  have hz := applyW_size 2 p q x W
  have HB1 := Lib.hid (applyW_below 2 p q x W)
  have HS1 := Lib.hid (applyW_spec 2 p q x W)
  have HC1 := Lib.hid (applyW_call 2 p q x W)
  have HA1 := Lib.hid (applyW_ans 2 p q x W)
  unfold applyW at hvW hz HB1 HS1 HC1 HA1
  clear hv
  unfold specAgg callAgg at *
  go_enter Try.func42, Try.ntmps42
  go_wp2_with (at_builtin; refine append1 rfl _ _ 27 rfl iU 8 Try.underlying27 ua ub uc ud (by decide) (W.heap.size + 1 + 1 + 1) hz.symm rfl _ y rfl _ hvW ?_)
  intro g cap w1 hO hg hb1
  (try rw [hz] at hg)
  (try rw [hz] at hb1)
  have HB2 : Hid (Below W.heap.size W w1) := Lib.hid (HB1.out.trans (hb1.mono (by omega)))
  have hs2 := HS1.out.same (hb1.block _ (by omega))
  have hc2 := HC1.out.same (hb1.block _ (by omega))
  have ha2 := HA1.out.same (hb1.block _ (by omega))
  have s0 : w1.cell? ⟨W.heap.size, 0, none⟩ = some (.int .i64 2) := hs2.cell rfl
  have d2 : w1.cell? ⟨W.heap.size + 1, 2, none⟩ = some (.int .i64 x.k) := hc2.cell rfl
  rw [HK.out] at d2
  have a0 := ha2.cell (i := 0) rfl
  have a1 := ha2.cell (i := 1) rfl
  have a2 := ha2.cell (i := 2) rfl
  have z0 : w1.frozen? ⟨W.heap.size + 1 + 1, 0, none⟩ = false := ha2.free
  have z1 : w1.frozen? ⟨W.heap.size + 1 + 1, 1, none⟩ = false := ha2.free
  have z2 : w1.frozen? ⟨W.heap.size + 1 + 1, 2, none⟩ = false := ha2.free
  have hne : g ≠ W.heap.size + 1 + 1 := by omega
  have hn2 : W.heap.size + 1 + 1 ≠ g := by omega
  have hgl := hO.lt
  have hal := ha2.lt
  have c0 : w1.cell? ⟨g, 0, none⟩ = some (.int .u64 (y : Int)) := hO.cell
  have HA2 := Lib.hid ha2
  have HO := Lib.hid hO
  clear hvW hb1 hs2 hc2 ha2 hO HB1 HS1 HC1 HA1
  have HX : Hid (RowBlk 45 ((((w1.setCell ⟨W.heap.size + 1 + 1, 0, none⟩ (.int .i64 ((0 : Nat) : Int))).setCell ⟨W.heap.size + 1 + 1, 1, none⟩ (.int .u64 ((y : Nat) : Int))).setCell ⟨W.heap.size + 1 + 1, 2, none⟩ (.slice none 0 0)).drew) (W.heap.size + 1 + 1) [.int .i64 ((0 : Nat) : Int), .int .u64 ((y : Nat) : Int), .slice none 0 0] ∧ Own1 ((((w1.setCell ⟨W.heap.size + 1 + 1, 0, none⟩ (.int .i64 ((0 : Nat) : Int))).setCell ⟨W.heap.size + 1 + 1, 1, none⟩ (.int .u64 ((y : Nat) : Int))).setCell ⟨W.heap.size + 1 + 1, 2, none⟩ (.slice none 0 0)).drew) g y ∧ Below W.heap.size W ((((w1.setCell ⟨W.heap.size + 1 + 1, 0, none⟩ (.int .i64 ((0 : Nat) : Int))).setCell ⟨W.heap.size + 1 + 1, 1, none⟩ (.int .u64 ((y : Nat) : Int))).setCell ⟨W.heap.size + 1 + 1, 2, none⟩ (.slice none 0 0)).drew)) := Lib.hid
    ⟨(((HA2.out.put 0 _).put 1 _).put 2 _).drew, (((HO.out.other (a := ⟨W.heap.size + 1 + 1, 0, none⟩) hne _).other (a := ⟨W.heap.size + 1 + 1, 1, none⟩) hne _).other (a := ⟨W.heap.size + 1 + 1, 2, none⟩) hne _),
     (((HB2.out.setCell (show W.heap.size ≤ W.heap.size + 1 + 1 by omega) _).setCell (show W.heap.size ≤ W.heap.size + 1 + 1 by omega) _).setCell (show W.heap.size ≤ W.heap.size + 1 + 1 by omega) _).drew⟩
  go_wp2_with fail
  go_region_held3 (fun w' => w'.cell? ⟨g, 0, none⟩ = some (.int .u64 (y : Int))) (first | with_reducible exact c0 | (simp only [cell_far hne]; with_reducible exact c0) | go_keep) (first | fail)
  go_wp2_with fail
  generalize (((w1.setCell ⟨W.heap.size + 1 + 1, 0, none⟩ (.int .i64 ((0 : Nat) : Int))).setCell ⟨W.heap.size + 1 + 1, 1, none⟩ (.int .u64 ((y : Nat) : Int))).setCell ⟨W.heap.size + 1 + 1, 2, none⟩ (.slice none 0 0)).drew = W5 at HX ⊢
  have q0 := HX.out.1.cell (i := 0) rfl
  have q1 := HX.out.1.cell (i := 1) rfl
  have q2 := HX.out.1.cell (i := 2) rfl
  exact bodyPost_ret (v := .tuple #[.slice (some ⟨g, 0, none⟩) 1 cap, .agg #[.int .i64 ((0 : Nat) : Int), .int .u64 ((y : Nat) : Int), .slice none 0 0]]) (by simp [results, Try.results42, go_sem, q0, q1, q2]) rfl ⟨g, cap, rfl, HX.out.2.1, by omega, HX.out.2.2⟩
set_option maxRecDepth 20000 in
set_option maxHeartbeats 2000000 in
theorem apply_tal9 (n p q : Int) (v : Value) (y : Nat) (x : CallV) (pr : Nat → Prop) (W : World) (hv : ListAt W 43 mkU pr v [y]) (h0 : ¬ x.k = 0) (h1 : ¬ x.k = 1) :
    Calls Try.prog 42 #[.int .i64 n, specAgg 2 p q, v, callAgg x] W (ApplyPost ([y], ⟨9, 0, []⟩) W) := by
  obtain ⟨iU, ua, ub, uc, ud⟩ := info_parts info22
  have hvW : ListAt (applyW 2 p q x W) 43 mkU (fun b => b < W.heap.size) v [y] := hv.keep (fun b hb _ => ⟨(applyW_below 2 p q x W).block b hb.lt, hb.lt⟩)
  obtain ⟨vao, vcap, rfl⟩ := hv.isSlice
  have hz := applyW_size 2 p q x W
  have HB1 := Lib.hid (applyW_below 2 p q x W)
  have HS1 := Lib.hid (applyW_spec 2 p q x W)
  have HC1 := Lib.hid (applyW_call 2 p q x W)
  have HA1 := Lib.hid (applyW_ans 2 p q x W)
  unfold applyW at hvW hz HB1 HS1 HC1 HA1
  clear hv
  unfold specAgg callAgg at *
  go_enter Try.func42, Try.ntmps42
  go_wp2_with (at_builtin; refine append1 rfl _ _ 27 rfl iU 8 Try.underlying27 ua ub uc ud (by decide) (W.heap.size + 1 + 1 + 1) hz.symm rfl _ y rfl _ hvW ?_)
  intro g cap w1 hO hg hb1
  (try rw [hz] at hg)
  (try rw [hz] at hb1)
  have HB2 : Hid (Below W.heap.size W w1) := Lib.hid (HB1.out.trans (hb1.mono (by omega)))
  have hs2 := HS1.out.same (hb1.block _ (by omega))
  have hc2 := HC1.out.same (hb1.block _ (by omega))
  have ha2 := HA1.out.same (hb1.block _ (by omega))
  have s0 : w1.cell? ⟨W.heap.size, 0, none⟩ = some (.int .i64 2) := hs2.cell rfl
  have d2 : w1.cell? ⟨W.heap.size + 1, 2, none⟩ = some (.int .i64 x.k) := hc2.cell rfl
  have a0 := ha2.cell (i := 0) rfl
  have a1 := ha2.cell (i := 1) rfl
  have a2 := ha2.cell (i := 2) rfl
  have z0 : w1.frozen? ⟨W.heap.size + 1 + 1, 0, none⟩ = false := ha2.free
  have z1 : w1.frozen? ⟨W.heap.size + 1 + 1, 1, none⟩ = false := ha2.free
  have z2 : w1.frozen? ⟨W.heap.size + 1 + 1, 2, none⟩ = false := ha2.free
  have hne : g ≠ W.heap.size + 1 + 1 := by omega
  have hn2 : W.heap.size + 1 + 1 ≠ g := by omega
  have hgl := hO.lt
  have hal := ha2.lt
  have c0 : w1.cell? ⟨g, 0, none⟩ = some (.int .u64 (y : Int)) := hO.cell
  have HA2 := Lib.hid ha2
  have HO := Lib.hid hO
  clear hvW hb1 hs2 hc2 ha2 hO HB1 HS1 HC1 HA1
  have HX : Hid (RowBlk 45 ((((w1.setCell ⟨W.heap.size + 1 + 1, 0, none⟩ (.int .i64 ((9 : Nat) : Int))).setCell ⟨W.heap.size + 1 + 1, 1, none⟩ (.int .u64 ((0 : Nat) : Int))).setCell ⟨W.heap.size + 1 + 1, 2, none⟩ (.slice none 0 0))) (W.heap.size + 1 + 1) [.int .i64 ((9 : Nat) : Int), .int .u64 ((0 : Nat) : Int), .slice none 0 0] ∧ Own1 ((((w1.setCell ⟨W.heap.size + 1 + 1, 0, none⟩ (.int .i64 ((9 : Nat) : Int))).setCell ⟨W.heap.size + 1 + 1, 1, none⟩ (.int .u64 ((0 : Nat) : Int))).setCell ⟨W.heap.size + 1 + 1, 2, none⟩ (.slice none 0 0))) g y ∧ Below W.heap.size W ((((w1.setCell ⟨W.heap.size + 1 + 1, 0, none⟩ (.int .i64 ((9 : Nat) : Int))).setCell ⟨W.heap.size + 1 + 1, 1, none⟩ (.int .u64 ((0 : Nat) : Int))).setCell ⟨W.heap.size + 1 + 1, 2, none⟩ (.slice none 0 0)))) := Lib.hid
    ⟨(((HA2.out.put 0 _).put 1 _).put 2 _), (((HO.out.other (a := ⟨W.heap.size + 1 + 1, 0, none⟩) hne _).other (a := ⟨W.heap.size + 1 + 1, 1, none⟩) hne _).other (a := ⟨W.heap.size + 1 + 1, 2, none⟩) hne _),
     (((HB2.out.setCell (show W.heap.size ≤ W.heap.size + 1 + 1 by omega) _).setCell (show W.heap.size ≤ W.heap.size + 1 + 1 by omega) _).setCell (show W.heap.size ≤ W.heap.size + 1 + 1 by omega) _)⟩
  go_wp2_with fail
  generalize (((w1.setCell ⟨W.heap.size + 1 + 1, 0, none⟩ (.int .i64 ((9 : Nat) : Int))).setCell ⟨W.heap.size + 1 + 1, 1, none⟩ (.int .u64 ((0 : Nat) : Int))).setCell ⟨W.heap.size + 1 + 1, 2, none⟩ (.slice none 0 0)) = W5 at HX ⊢
  have q0 := HX.out.1.cell (i := 0) rfl
  have q1 := HX.out.1.cell (i := 1) rfl
  have q2 := HX.out.1.cell (i := 2) rfl
  exact bodyPost_ret (v := .tuple #[.slice (some ⟨g, 0, none⟩) 1 cap, .agg #[.int .i64 ((9 : Nat) : Int), .int .u64 ((0 : Nat) : Int), .slice none 0 0]]) (by simp [results, Try.results42, go_sem, q0, q1, q2]) rfl ⟨g, cap, rfl, HX.out.2.1, by omega, HX.out.2.2⟩
theorem apply_talD (n p q : Int) (W : World) (v : Value) (st : List Nat) (x : CallV) (pr : Nat → Prop) (hI : OneInv st) (ha : x.a < 18446744073709551616) (hv : ListAt W 43 mkU pr v st) :
    Calls Try.prog 42 #[.int .i64 n, specAgg 2 p q, v, callAgg x] W fun e w' =>
      ∃ v' lv, e = .returned (.tuple #[v', .agg #[.int .i64 ((talD.ap st x).2.err : Int), .int .u64 ((talD.ap st x).2.val : Int), lv]]) ∧ ListAt w' 43 mkU (fun b => W.heap.size ≤ b) v' (talD.ap st x).1 ∧ ListAt w' 43 mkU (fun b => W.heap.size ≤ b) lv (talD.ap st x).2.list ∧ Below W.heap.size W w' := by
  obtain ⟨y, rfl, hy⟩ := hI
  have key : (∃ z, (talD.ap [y] x).1 = [z]) ∧ (talD.ap [y] x).2.list = [] ∧ Calls Try.prog 42 #[.int .i64 n, specAgg 2 p q, v, callAgg x] W (ApplyPost (talD.ap [y] x) W) := by
    rw [talD_ap]
    by_cases k0 : x.k = 0
    · rw [if_pos k0]; exact ⟨⟨_, rfl⟩, rfl, apply_tal0 n p q v y x pr W hv k0⟩
    · rw [if_neg k0]
      by_cases k1 : x.k = 1
      · rw [if_pos k1]; exact ⟨⟨_, rfl⟩, rfl, apply_tal1 n p q v y x pr W hv k1⟩
      · rw [if_neg k1]; exact ⟨⟨_, rfl⟩, rfl, apply_tal9 n p q v y x pr W hv k0 k1⟩
  exact key.2.2.mono fun e w' h => h.gen key.1 key.2.1
theorem model_tally (n : Nat) (p q : Int) : ModelC talD OneInv (n : Int) 2 p q where
  size := size_tally n p q
  new := new_tally n p q
  apply := fun W v st x pr hI ha hv => apply_talD n p q W v st x pr hI ha hv
  legal := fun W v lv st x pr qr hI ha hv hl => legal_any (by omega) (fun W v st x pr hI ha hv => apply_talD n p q W v st x pr hI ha hv) W v lv st x pr qr hI ha hv hl
  inv0 := ⟨0, rfl, by omega⟩
  invS := fun st x hI ha => by
    obtain ⟨y, rfl, hy⟩ := hI
    rw [talD_ap]
    split
    · exact ⟨_, rfl, Nat.mod_lt _ (by omega)⟩
    · split
      · exact ⟨_, rfl, hy⟩
      · exact ⟨_, rfl, hy⟩
end Go.Proofs.Ytcedfcdhdgmelaa
