/- Apply and Legal. -/
import Derived.Test.YtmocjpcnohnfpaaGreatJE
namespace Go.Proofs.YtmocjpcnohnfpaaGreat
open Go.ChangeShapes Go.WideShapes Go.ChangeAt Go.RowKit
set_option linter.unusedVariables false
set_option linter.unusedSimpArgs false
set_option maxRecDepth 100000

/-- the boxes of Apply's parameters, and the answer's -/
structure ApBox (w W : World) (k p q t ob kd a b c : Int) (oA : Obj) : Prop where
  s0 : W.cell? ⟨w.heap.size, 0, none⟩ = some (.int .i64 k)
  s1 : W.cell? ⟨w.heap.size, 1, none⟩ = some (.int .i64 p)
  s2 : W.cell? ⟨w.heap.size, 2, none⟩ = some (.int .i64 q)
  c0 : W.cell? ⟨w.heap.size + 1, 0, none⟩ = some (.int .i64 t)
  c1 : W.cell? ⟨w.heap.size + 1, 1, none⟩ = some (.int .i64 ob)
  c2 : W.cell? ⟨w.heap.size + 1, 2, none⟩ = some (.int .i64 kd)
  c3 : W.cell? ⟨w.heap.size + 1, 3, none⟩ = some (.int .u64 a)
  c4 : W.cell? ⟨w.heap.size + 1, 4, none⟩ = some (.int .u64 b)
  c5 : W.cell? ⟨w.heap.size + 1, 5, none⟩ = some (.int .u64 c)
  ans : W.heap[w.heap.size + 1 + 1]? = some oA
  bel : Below w.heap.size w W
theorem ApBox.lt {w W : World} {k p q t ob kd a b c : Int} {oA : Obj} (h : ApBox w W k p q t ob kd a b c oA) : w.heap.size + 1 + 1 < W.heap.size := blk_lt h.ans
abbrev apW (w : World) (k p q t ob kd a b c : Int) (oA : Obj) : World := ((w.alloc (Tb.specO k p q)).alloc (callO t ob kd a b c)).alloc oA
theorem apBox (w : World) (k p q t ob kd a b c : Int) (oA : Obj) : ApBox w (apW w k p q t ob kd a b c oA) k p q t ob kd a b c oA := by
  have h := opBox w k p q t ob kd a b c
  have hs : (opW w k p q t ob kd a b c).heap.size = w.heap.size + 1 + 1 := by rw [World.size_alloc, World.size_alloc]
  have hb : Below (opW w k p q t ob kd a b c).heap.size (opW w k p q t ob kd a b c) (apW w k p q t ob kd a b c oA) := (Below.refl _ _).alloc (Nat.le_refl _) _
  have h2 := h.next hb
  have ha := heap_alloc_new (opW w k p q t ob kd a b c) oA
  rw [hs] at ha
  exact ⟨h2.s0, h2.s1, h2.s2, h2.c0, h2.c1, h2.c2, h2.c3, h2.c4, h2.c5, ha, h2.bel⟩
theorem ApBox.next {w W W' : World} {k p q t ob kd a b c : Int} {oA : Obj} (h : ApBox w W k p q t ob kd a b c oA) (hb : Below W.heap.size W W') : ApBox w W' k p q t ob kd a b c oA := by
  have hlt := h.lt
  have e : ∀ (j : Nat) (v : Value), W.cell? ⟨w.heap.size, j, none⟩ = some v → W'.cell? ⟨w.heap.size, j, none⟩ = some v := fun j v hv => (hb.cell (p := ⟨w.heap.size, j, none⟩) (by show w.heap.size < _; omega)).trans hv
  have e1 : ∀ (j : Nat) (v : Value), W.cell? ⟨w.heap.size + 1, j, none⟩ = some v → W'.cell? ⟨w.heap.size + 1, j, none⟩ = some v := fun j v hv => (hb.cell (p := ⟨w.heap.size + 1, j, none⟩) (by show w.heap.size + 1 < _; omega)).trans hv
  exact ⟨e _ _ h.s0, e _ _ h.s1, e _ _ h.s2, e1 _ _ h.c0, e1 _ _ h.c1, e1 _ _ h.c2, e1 _ _ h.c3, e1 _ _ h.c4, e1 _ _ h.c5, (hb.block _ hlt).trans h.ans, h.bel.trans (hb.mono (by omega))⟩

theorem put3R {w : World} {B b : Nat} {v : Value} {l : List Nat} (h : ArgB w B v l ∧ Room v) (hb : b < B) (x y z : Value) : ArgB (((w.setCell ⟨b, 0, none⟩ x).setCell ⟨b, 1, none⟩ y).setCell ⟨b, 2, none⟩ z) B v l ∧ Room v := ⟨h.1.put3 hb x y z, h.2⟩

set_option maxHeartbeats 2000000 in
theorem apply_ok (n k p q t ob kd a b c : Int) (m : List Nat) (r : MdR) (v : Value) (w : World) (hA : ArgW w v m) (hR : Room v) (hl : m.length ≤ 4294967296) (hr : mdRight n k p q m = true) (ht : 0 ≤ t ∧ t < n)
    (hS : ∀ W, Calls Tryz.prog 58 #[.int .i64 n, Tb.specV k p q, callV t ob kd a b c] W (OpP m r W)) :
    Calls Tryz.prog 25 #[.int .i64 n, Tb.specV k p q, v, callV t ob kd a b c] w (ChP w.heap.size w r) := by
  have HB0 := Lib.hid (apBox w k p q t ob kd a b c (ansC 0 0 (.slice none 0 0)))
  have HA0 : Hid (ArgW (apW w k p q t ob kd a b c (ansC 0 0 (.slice none 0 0))) v m) := Lib.hid (((hA.alloc _).alloc _).alloc _)
  unfold apW at HB0 HA0
  have HCL : Hid (∀ W, ArgW W v m → Calls Tryz.prog 57 #[v] W (GivesW m W)) := Lib.hid (fun W h => clone_own v m W h hl)
  have HRT : Hid (∀ W, ArgW W v m → Calls Tryz.prog 8 #[.int .i64 n, Tb.specV k p q, v] W fun e w' => e = .returned (.bool true) ∧ Below W.heap.size W w') := Lib.hid (fun W h => by have := mright_any n k p q v m W h hR (by omega); rw [hr] at this; exact this)
  have HS := Lib.hid hS
  obtain ⟨ao, cap, rfl⟩ := hA.isSlice
  have d1 : decide (t < 0) = false := decide_eq_false (by omega)
  have d2 : decide (n ≤ t) = false := decide_eq_false (by omega)
  clear hS hA hR hr ht
  generalize hW : (((w.alloc (Tb.specO k p q)).alloc (callO t ob kd a b c)).alloc (ansC 0 0 (.slice none 0 0))) = W at *
  unfold Tb.specV Tb.specO at *
  go_enter Tryz.func25, Tryz.ntmps25
  go_wp2_with (first
    | (go_at_call 57; refine (HCL.out _ HA0.out).mono ?_; rintro e w1 ⟨v1, rfl, ho1, hb1⟩; (have HO1 := Lib.hid ho1); (have HB1 := Lib.hid (HB0.out.next hb1)); (have HA1 := Lib.hid (HA0.out.below hb1)); (have HLT := Lib.hid HB0.out.lt); (have HZ1 := Lib.hid hb1.size); (have HC1 := Lib.hid hb1); (obtain ⟨s0, s1, s2, c0, c1, c2, c3, c4, c5, _, _⟩ := HB1.out); clear ho1 hb1)
    | (go_at_call 8; refine (HRT.out _ HA1.out).mono ?_; rintro e w2 ⟨rfl, hb2⟩; (have HO2 := Lib.hid (HO1.out.below hb2)); (have HB2 := Lib.hid (HB1.out.next hb2)); (have HZ2 := Lib.hid (Nat.le_trans HZ1.out hb2.size)); clear s0 s1 s2 c0 c1 c2 c3 c4 c5; (obtain ⟨s0, s1, s2, c0, c1, c2, c3, c4, c5, _, _⟩ := HB2.out); clear hb2)
    | (go_at_call 58; refine (HS.out _).mono ?_; rintro e w3 ⟨fid, ex, rfl, hk3, hb3⟩; (have HB3 := Lib.hid (HB2.out.next hb3)); (have hen := hk3.1); (have HK3 : Hid (Calls Tryz.prog fid (v1 :: ex).toArray w3 (ChP W.heap.size w3 r)) := Lib.hid (hk3.2 w3 W.heap.size v1 (Below.refl _ _) (Nat.le_trans HZ2.out hb3.size) (HO2.out.below hb3) (fun g hg => (World.ownsRow.lt HO2.out g hg).2))); clear hk3 hb3)
    | (refine HK3.out.mono ?_; rintro e w4 ⟨v4, lv, rfl, ha4, hl4, hb4⟩; (have hbk : w4.heap[w.heap.size + 1 + 1]? = some (.cells #[.int .i64 0, .int .u64 0, .slice none 0 0] 63) := (hb4.block _ HLT.out).trans HB3.out.ans); (have k0 := Tb.cell_of_blkT (k := 0) hbk rfl); (have k1 := Tb.cell_of_blkT (k := 1) hbk rfl); (have k2 := Tb.cell_of_blkT (k := 2) hbk rfl); (have z0 := Tb.free_of_blkT (k := 0) hbk); (have z1 := Tb.free_of_blkT (k := 1) hbk); (have z2 := Tb.free_of_blkT (k := 2) hbk); (have HA4 := Lib.hid ha4); (have HL4 := Lib.hid hl4); (obtain ⟨aol, capl, rfl⟩ := hl4.1.arg.isSlice); (have HB4 : Hid (Below w.heap.size w w4) := Lib.hid (HB3.out.bel.trans (hb4.mono (by have := HLT.out; omega)))); clear ha4 hl4 hb4 hbk))
  refine bodyPost_ret (v := .tuple #[v4, .agg #[.int .i64 (r.err : Int), .int .u64 (r.val : Int), .slice aol r.ls.length capl]]) (by simp [results, Tryz.results25, go_sem, k0, k1, k2]) rfl ⟨_, _, rfl, ?_, ?_, put3_below HB4.out (by omega) _ _ _⟩
  · have := put3R HA4.out HLT.out (.int .i64 (r.err : Int)) (.int .u64 (r.val : Int)) (.slice aol r.ls.length capl)
    exact ⟨this.1.mono (by have := HLT.out; omega), this.2⟩
  · have := put3R HL4.out HLT.out (.int .i64 (r.err : Int)) (.int .u64 (r.val : Int)) (.slice aol r.ls.length capl)
    exact ⟨this.1.mono (by have := HLT.out; omega), this.2⟩

/-- what Legal gives -/
def LgP (W : World) (st : List Nat) (ok : Bool) (e : Ending) (w' : World) : Prop :=
  ∃ v', e = .returned (.tuple #[v', .bool ok]) ∧ (ArgB w' W.heap.size v' st ∧ Room v') ∧ Below W.heap.size W w'
/-- is the answer legal though it is not the one that is to be -/
def lgFull (ea : Int) (va : Nat) (la : List Nat) (r : MdR) (lk : Bool) : Bool := ansEq ea va la 6 0 [] && (decide (r.err = 0) && lk)
set_option maxHeartbeats 2000000 in
theorem legal_yes (n k p q t ob kd a b c : Int) (m : List Nat) (r : MdR) (v : Value) (ea : Int) (va : Nat) (lv : Value) (la : List Nat) (w : World) (hA : ArgW w v m) (hL : ArgW w lv la) (hl : m.length ≤ 4294967296) (hla : la.length ≤ 4611686018427387904) (hrl : r.ls.length ≤ 4611686018427387904)
    (hS : ∀ W, ArgW W v m → Calls Tryz.prog 25 #[.int .i64 n, Tb.specV k p q, v, callV t ob kd a b c] W (ChP W.heap.size W r)) (hq1 : ansEq ea va la (r.err : Int) r.val r.ls = true) :
    Calls Tryz.prog 26 #[.int .i64 n, Tb.specV k p q, v, callV t ob kd a b c, ansV ea va lv] w (LgP w r.st true) := by
  obtain ⟨aol, capl, rfl⟩ := hL.isSlice
  have HB0 := Lib.hid (apBox w k p q t ob kd a b c (ansC ea va (.slice aol la.length capl)))
  have HA0 : Hid (ArgW (apW w k p q t ob kd a b c (ansC ea va (.slice aol la.length capl))) v m) := Lib.hid (((hA.alloc _).alloc _).alloc _)
  have HL0 : Hid (ArgW (apW w k p q t ob kd a b c (ansC ea va (.slice aol la.length capl))) (.slice aol la.length capl) la) := Lib.hid (((hL.alloc _).alloc _).alloc _)
  unfold apW at HB0 HA0 HL0
  have HCL : Hid (∀ W, ArgW W v m → Calls Tryz.prog 57 #[v] W (GivesW m W)) := Lib.hid (fun W h => clone_own v m W h hl)
  have HS := Lib.hid hS
  have HI : Hid (∀ (W : World) (v2 : Value), ArgW W (.slice aol la.length capl) la → ArgW W v2 r.ls → Calls Tryz.prog 59 #[ansV ea va (.slice aol la.length capl), ansV (r.err : Int) (r.val : Int) v2] W fun e w' => e = .returned (.bool true) ∧ Below W.heap.size W w') := Lib.hid (fun W v2 h1 h2 => by
    have := isSame_any ea (r.err : Int) va r.val _ v2 la r.ls W hla hrl h1 h2
    rw [hq1] at this; exact this)
  obtain ⟨ao, cap, rfl⟩ := hA.isSlice
  clear hS hA hL hq1
  generalize hW : (((w.alloc (Tb.specO k p q)).alloc (callO t ob kd a b c)).alloc (ansC ea va (.slice aol la.length capl))) = W at *
  unfold Tb.specV Tb.specO at *
  obtain ⟨s0, s1, s2, c0, c1, c2, c3, c4, c5, hba, _⟩ := HB0.out
  have g0 := Tb.cell_of_blkT (k := 0) hba rfl
  have g1 := Tb.cell_of_blkT (k := 1) hba rfl
  have g2 := Tb.cell_of_blkT (k := 2) hba rfl
  clear hba
  go_enter Tryz.func26, Tryz.ntmps26
  go_wp2_with (first
    | (go_at_call 25; refine (HS.out _ HA0.out).mono ?_; rintro e w1 ⟨v1, lv1, rfl, ha1, hl1, hb1⟩; (obtain ⟨aor, capr, rfl⟩ := hl1.1.arg.isSlice); (have HA1 := Lib.hid ha1); (have HLT := Lib.hid HB0.out.lt); (have hb1' : Below W.heap.size W (w1.alloc (ansC (r.err : Int) (r.val : Int) (.slice aor r.ls.length capr))) := hb1.alloc hb1.size _); (have HB1 := Lib.hid (HB0.out.next hb1')); (have hbs : (w1.alloc (ansC (r.err : Int) (r.val : Int) (.slice aor r.ls.length capr))).heap[w1.heap.size]? = some (ansC (r.err : Int) (r.val : Int) (.slice aor r.ls.length capr)) := heap_alloc_new _ _); (have HBS := Lib.hid hbs); (have HL1 : Hid (ArgW (w1.alloc (ansC (r.err : Int) (r.val : Int) (.slice aor r.ls.length capr))) (.slice aor r.ls.length capr) r.ls) := Lib.hid (hl1.1.arg.alloc _)); (have HLA1 := Lib.hid (HL0.out.below hb1')); (have HAA1 := Lib.hid (HA0.out.below hb1')); (have HST : Hid (ArgB (w1.alloc (ansC (r.err : Int) (r.val : Int) (.slice aor r.ls.length capr))) W.heap.size v1 r.st ∧ Room v1) := Lib.hid ⟨ha1.1.below ((Below.refl _ _).alloc (Nat.le_refl _) _), ha1.2⟩); (have HW1 := Lib.hid hb1'); clear s0 s1 s2 c0 c1 c2 c3 c4 c5 g0 g1 g2; (obtain ⟨s0, s1, s2, c0, c1, c2, c3, c4, c5, hba, _⟩ := HB1.out); (have g0 := Tb.cell_of_blkT (k := 0) hba rfl); (have g1 := Tb.cell_of_blkT (k := 1) hba rfl); (have g2 := Tb.cell_of_blkT (k := 2) hba rfl); clear ha1 hl1 hb1 hb1' hbs hba)
    | (go_at_call 59; (with_reducible refine (HI.out _ _ HLA1.out HL1.out).mono ?_); rintro e w2 ⟨rfl, hb2⟩; (have HB2 := Lib.hid (HB1.out.next hb2)); (have HW2 := Lib.hid (HW1.out.trans (hb2.mono HW1.out.size))); (have HAA2 := Lib.hid (HAA1.out.below hb2)); (have HLA2 := Lib.hid (HLA1.out.below hb2)); (have HST2 : Hid (ArgB w2 W.heap.size v1 r.st ∧ Room v1) := Lib.hid ⟨HST.out.1.below hb2, HST.out.2⟩); (have HBS2 := Lib.hid ((hb2.block _ (blk_lt HBS.out)).trans HBS.out)); clear s0 s1 s2 c0 c1 c2 c3 c4 c5 g0 g1 g2; (obtain ⟨s0, s1, s2, c0, c1, c2, c3, c4, c5, hba, _⟩ := HB2.out); (have g0 := Tb.cell_of_blkT (k := 0) hba rfl); (have g1 := Tb.cell_of_blkT (k := 1) hba rfl); (have g2 := Tb.cell_of_blkT (k := 2) hba rfl); clear hb2 hba)
    | fail)
  go_ret2
  exact ⟨_, rfl, ⟨HST2.out.1.mono HB0.out.bel.size, HST2.out.2⟩, HB0.out.bel.trans (HW2.out.mono HB0.out.bel.size)⟩

set_option maxHeartbeats 2000000 in
theorem legal_no (n k p q t ob kd a b c : Int) (m : List Nat) (r : MdR) (v : Value) (ea : Int) (va : Nat) (lv : Value) (la : List Nat) (w : World) (hA : ArgW w v m) (hL : ArgW w lv la) (hl : m.length ≤ 4294967296) (hla : la.length ≤ 4611686018427387904) (hrl : r.ls.length ≤ 4611686018427387904)
    (hS : ∀ W, ArgW W v m → Calls Tryz.prog 25 #[.int .i64 n, Tb.specV k p q, v, callV t ob kd a b c] W (ChP W.heap.size W r)) (lk : Bool) (hK : ∀ W, ArgW W v m → Calls Tryz.prog 60 #[.int .i64 n, Tb.specV k p q, v, callV t ob kd a b c] W fun e w' => e = .returned (.bool lk) ∧ Below W.heap.size W w') (hq1 : ansEq ea va la (r.err : Int) r.val r.ls = false) :
    Calls Tryz.prog 26 #[.int .i64 n, Tb.specV k p q, v, callV t ob kd a b c, ansV ea va lv] w (LgP w m (lgFull ea va la r lk)) := by
  obtain ⟨aol, capl, rfl⟩ := hL.isSlice
  have HB0 := Lib.hid (apBox w k p q t ob kd a b c (ansC ea va (.slice aol la.length capl)))
  have HA0 : Hid (ArgW (apW w k p q t ob kd a b c (ansC ea va (.slice aol la.length capl))) v m) := Lib.hid (((hA.alloc _).alloc _).alloc _)
  have HL0 : Hid (ArgW (apW w k p q t ob kd a b c (ansC ea va (.slice aol la.length capl))) (.slice aol la.length capl) la) := Lib.hid (((hL.alloc _).alloc _).alloc _)
  unfold apW at HB0 HA0 HL0
  have HCL : Hid (∀ W, ArgW W v m → Calls Tryz.prog 57 #[v] W (GivesW m W)) := Lib.hid (fun W h => clone_own v m W h hl)
  have HS := Lib.hid hS
  have HI : Hid (∀ (W : World) (v2 : Value), ArgW W (.slice aol la.length capl) la → ArgW W v2 r.ls → Calls Tryz.prog 59 #[ansV ea va (.slice aol la.length capl), ansV (r.err : Int) (r.val : Int) v2] W fun e w' => e = .returned (.bool false) ∧ Below W.heap.size W w') := Lib.hid (fun W v2 h1 h2 => by
    have := isSame_any ea (r.err : Int) va r.val _ v2 la r.ls W hla hrl h1 h2
    rw [hq1] at this; exact this)
  have HI2 : Hid (∀ (W : World), ArgW W (.slice aol la.length capl) la → Calls Tryz.prog 59 #[ansV ea va (.slice aol la.length capl), ansV 6 0 (.slice none 0 0)] W fun e w' => e = .returned (.bool (ansEq ea va la 6 0 [])) ∧ Below W.heap.size W w') := Lib.hid (fun W h1 => isSame_any ea 6 va 0 _ _ la [] W hla (by simp) h1 (ArgW.nil W))
  have HLK := Lib.hid hK
  unfold lgFull
  clear hK
  obtain ⟨ao, cap, rfl⟩ := hA.isSlice
  clear hS hA hL hq1
  generalize hW : (((w.alloc (Tb.specO k p q)).alloc (callO t ob kd a b c)).alloc (ansC ea va (.slice aol la.length capl))) = W at *
  unfold Tb.specV Tb.specO at *
  obtain ⟨s0, s1, s2, c0, c1, c2, c3, c4, c5, hba, _⟩ := HB0.out
  have g0 := Tb.cell_of_blkT (k := 0) hba rfl
  have g1 := Tb.cell_of_blkT (k := 1) hba rfl
  have g2 := Tb.cell_of_blkT (k := 2) hba rfl
  clear hba
  generalize ansEq ea va la 6 0 [] = d6 at *
  cases d6 with
  | false =>
    go_enter Tryz.func26, Tryz.ntmps26
    go_wp2_with (first
      | (go_at_call 25; refine (HS.out _ HA0.out).mono ?_; rintro e w1 ⟨v1, lv1, rfl, ha1, hl1, hb1⟩; (obtain ⟨aor, capr, rfl⟩ := hl1.1.arg.isSlice); (have HA1 := Lib.hid ha1); (have HLT := Lib.hid HB0.out.lt); (have hb1' : Below W.heap.size W (w1.alloc (ansC (r.err : Int) (r.val : Int) (.slice aor r.ls.length capr))) := hb1.alloc hb1.size _); (have HB1 := Lib.hid (HB0.out.next hb1')); (have hbs : (w1.alloc (ansC (r.err : Int) (r.val : Int) (.slice aor r.ls.length capr))).heap[w1.heap.size]? = some (ansC (r.err : Int) (r.val : Int) (.slice aor r.ls.length capr)) := heap_alloc_new _ _); (have HBS := Lib.hid hbs); (have HL1 : Hid (ArgW (w1.alloc (ansC (r.err : Int) (r.val : Int) (.slice aor r.ls.length capr))) (.slice aor r.ls.length capr) r.ls) := Lib.hid (hl1.1.arg.alloc _)); (have HLA1 := Lib.hid (HL0.out.below hb1')); (have HAA1 := Lib.hid (HA0.out.below hb1')); (have HST : Hid (ArgB (w1.alloc (ansC (r.err : Int) (r.val : Int) (.slice aor r.ls.length capr))) W.heap.size v1 r.st ∧ Room v1) := Lib.hid ⟨ha1.1.below ((Below.refl _ _).alloc (Nat.le_refl _) _), ha1.2⟩); (have HW1 := Lib.hid hb1'); clear s0 s1 s2 c0 c1 c2 c3 c4 c5 g0 g1 g2; (obtain ⟨s0, s1, s2, c0, c1, c2, c3, c4, c5, hba, _⟩ := HB1.out); (have g0 := Tb.cell_of_blkT (k := 0) hba rfl); (have g1 := Tb.cell_of_blkT (k := 1) hba rfl); (have g2 := Tb.cell_of_blkT (k := 2) hba rfl); clear ha1 hl1 hb1 hb1' hbs hba)
      | (go_at_call 59; (with_reducible refine (HI.out _ _ HLA1.out HL1.out).mono ?_); rintro e w2 ⟨rfl, hb2⟩; (have HB2 := Lib.hid (HB1.out.next hb2)); (have HW2 := Lib.hid (HW1.out.trans (hb2.mono HW1.out.size))); (have HAA2 := Lib.hid (HAA1.out.below hb2)); (have HLA2 := Lib.hid (HLA1.out.below hb2)); (have HST2 : Hid (ArgB w2 W.heap.size v1 r.st ∧ Room v1) := Lib.hid ⟨HST.out.1.below hb2, HST.out.2⟩); (have HBS2 := Lib.hid ((hb2.block _ (blk_lt HBS.out)).trans HBS.out)); clear s0 s1 s2 c0 c1 c2 c3 c4 c5 g0 g1 g2; (obtain ⟨s0, s1, s2, c0, c1, c2, c3, c4, c5, hba, _⟩ := HB2.out); (have g0 := Tb.cell_of_blkT (k := 0) hba rfl); (have g1 := Tb.cell_of_blkT (k := 1) hba rfl); (have g2 := Tb.cell_of_blkT (k := 2) hba rfl); clear hb2 hba)
      | (go_at_call 59; (with_reducible refine (HI2.out _ HLA2.out).mono ?_); rintro e w3 ⟨rfl, hb3⟩; (have HB3 := Lib.hid (HB2.out.next hb3)); (have HW3 := Lib.hid (HW2.out.trans (hb3.mono HW2.out.size))); (have HAA3 := Lib.hid (HAA2.out.below hb3)); (have HBS3 := Lib.hid ((hb3.block _ (blk_lt HBS2.out)).trans HBS2.out)); clear s0 s1 s2 c0 c1 c2 c3 c4 c5 g0 g1 g2; (obtain ⟨s0, s1, s2, c0, c1, c2, c3, c4, c5, hba, _⟩ := HB3.out); (have f0 := Tb.cell_of_blkT (k := 0) HBS3.out rfl); clear hb3 hba)
      | (go_at_call 57; refine (HCL.out _ HAA3.out).mono ?_; rintro e w4 ⟨v4, rfl, ho4, hb4⟩; (have HB4 := Lib.hid (HB3.out.next hb4)); (have HO4 : Hid (ArgB w4 w.heap.size v4 m ∧ Room v4) := Lib.hid ⟨ho4.argB.mono (Nat.le_trans HB0.out.bel.size HW3.out.size), ho4.room⟩); (have HW4 := Lib.hid (HW3.out.trans (hb4.mono HW3.out.size))); (have HAA4 := Lib.hid (HAA3.out.below hb4)); (have f1 := Tb.cell_of_blkT (k := 0) ((hb4.block _ (blk_lt HBS3.out)).trans HBS3.out) rfl); clear f0 s0 s1 s2 c0 c1 c2 c3 c4 c5; (obtain ⟨s0, s1, s2, c0, c1, c2, c3, c4, c5, hba, _⟩ := HB4.out); clear hb4 ho4 hba)
      | (go_at_call 60; refine (HLK.out _ HAA4.out).mono ?_; rintro e w5 ⟨rfl, hb5⟩; (have HO5 : Hid (ArgB w5 w.heap.size v4 m ∧ Room v4) := Lib.hid ⟨HO4.out.1.below hb5, HO4.out.2⟩); (have HW5 := Lib.hid (HW4.out.trans (hb5.mono HW4.out.size))); clear hb5))
    go_ret2
    exact ⟨_, rfl, HO4.out, HB0.out.bel.trans (HW4.out.mono HB0.out.bel.size)⟩
  | true =>
    by_cases he : r.err = 0
    · rw [decide_eq_true he]
      have hi0 : ((r.err : Int) == 0) = true := by rw [he]; rfl
      have hi1 : decide ((r.err : Int) = 0) = true := decide_eq_true (by omega)
      clear he
      go_enter Tryz.func26, Tryz.ntmps26
      go_wp2_with (first
        | (go_at_call 25; refine (HS.out _ HA0.out).mono ?_; rintro e w1 ⟨v1, lv1, rfl, ha1, hl1, hb1⟩; (obtain ⟨aor, capr, rfl⟩ := hl1.1.arg.isSlice); (have HA1 := Lib.hid ha1); (have HLT := Lib.hid HB0.out.lt); (have hb1' : Below W.heap.size W (w1.alloc (ansC (r.err : Int) (r.val : Int) (.slice aor r.ls.length capr))) := hb1.alloc hb1.size _); (have HB1 := Lib.hid (HB0.out.next hb1')); (have hbs : (w1.alloc (ansC (r.err : Int) (r.val : Int) (.slice aor r.ls.length capr))).heap[w1.heap.size]? = some (ansC (r.err : Int) (r.val : Int) (.slice aor r.ls.length capr)) := heap_alloc_new _ _); (have HBS := Lib.hid hbs); (have HL1 : Hid (ArgW (w1.alloc (ansC (r.err : Int) (r.val : Int) (.slice aor r.ls.length capr))) (.slice aor r.ls.length capr) r.ls) := Lib.hid (hl1.1.arg.alloc _)); (have HLA1 := Lib.hid (HL0.out.below hb1')); (have HAA1 := Lib.hid (HA0.out.below hb1')); (have HST : Hid (ArgB (w1.alloc (ansC (r.err : Int) (r.val : Int) (.slice aor r.ls.length capr))) W.heap.size v1 r.st ∧ Room v1) := Lib.hid ⟨ha1.1.below ((Below.refl _ _).alloc (Nat.le_refl _) _), ha1.2⟩); (have HW1 := Lib.hid hb1'); clear s0 s1 s2 c0 c1 c2 c3 c4 c5 g0 g1 g2; (obtain ⟨s0, s1, s2, c0, c1, c2, c3, c4, c5, hba, _⟩ := HB1.out); (have g0 := Tb.cell_of_blkT (k := 0) hba rfl); (have g1 := Tb.cell_of_blkT (k := 1) hba rfl); (have g2 := Tb.cell_of_blkT (k := 2) hba rfl); clear ha1 hl1 hb1 hb1' hbs hba)
        | (go_at_call 59; (with_reducible refine (HI.out _ _ HLA1.out HL1.out).mono ?_); rintro e w2 ⟨rfl, hb2⟩; (have HB2 := Lib.hid (HB1.out.next hb2)); (have HW2 := Lib.hid (HW1.out.trans (hb2.mono HW1.out.size))); (have HAA2 := Lib.hid (HAA1.out.below hb2)); (have HLA2 := Lib.hid (HLA1.out.below hb2)); (have HST2 : Hid (ArgB w2 W.heap.size v1 r.st ∧ Room v1) := Lib.hid ⟨HST.out.1.below hb2, HST.out.2⟩); (have HBS2 := Lib.hid ((hb2.block _ (blk_lt HBS.out)).trans HBS.out)); clear s0 s1 s2 c0 c1 c2 c3 c4 c5 g0 g1 g2; (obtain ⟨s0, s1, s2, c0, c1, c2, c3, c4, c5, hba, _⟩ := HB2.out); (have g0 := Tb.cell_of_blkT (k := 0) hba rfl); (have g1 := Tb.cell_of_blkT (k := 1) hba rfl); (have g2 := Tb.cell_of_blkT (k := 2) hba rfl); clear hb2 hba)
        | (go_at_call 59; (with_reducible refine (HI2.out _ HLA2.out).mono ?_); rintro e w3 ⟨rfl, hb3⟩; (have HB3 := Lib.hid (HB2.out.next hb3)); (have HW3 := Lib.hid (HW2.out.trans (hb3.mono HW2.out.size))); (have HAA3 := Lib.hid (HAA2.out.below hb3)); (have HBS3 := Lib.hid ((hb3.block _ (blk_lt HBS2.out)).trans HBS2.out)); clear s0 s1 s2 c0 c1 c2 c3 c4 c5 g0 g1 g2; (obtain ⟨s0, s1, s2, c0, c1, c2, c3, c4, c5, hba, _⟩ := HB3.out); (have f0 := Tb.cell_of_blkT (k := 0) HBS3.out rfl); clear hb3 hba)
        | (go_at_call 57; refine (HCL.out _ HAA3.out).mono ?_; rintro e w4 ⟨v4, rfl, ho4, hb4⟩; (have HB4 := Lib.hid (HB3.out.next hb4)); (have HO4 : Hid (ArgB w4 w.heap.size v4 m ∧ Room v4) := Lib.hid ⟨ho4.argB.mono (Nat.le_trans HB0.out.bel.size HW3.out.size), ho4.room⟩); (have HW4 := Lib.hid (HW3.out.trans (hb4.mono HW3.out.size))); (have HAA4 := Lib.hid (HAA3.out.below hb4)); (have f1 := Tb.cell_of_blkT (k := 0) ((hb4.block _ (blk_lt HBS3.out)).trans HBS3.out) rfl); clear f0 s0 s1 s2 c0 c1 c2 c3 c4 c5; (obtain ⟨s0, s1, s2, c0, c1, c2, c3, c4, c5, hba, _⟩ := HB4.out); clear hb4 ho4 hba)
        | (go_at_call 60; refine (HLK.out _ HAA4.out).mono ?_; rintro e w5 ⟨rfl, hb5⟩; (have HO5 : Hid (ArgB w5 w.heap.size v4 m ∧ Room v4) := Lib.hid ⟨HO4.out.1.below hb5, HO4.out.2⟩); (have HW5 := Lib.hid (HW4.out.trans (hb5.mono HW4.out.size))); clear hb5))
      go_ret2
      exact ⟨_, by simp, HO5.out, HB0.out.bel.trans (HW5.out.mono HB0.out.bel.size)⟩
    · rw [decide_eq_false he]
      have hi0 : ((r.err : Int) == 0) = false := by rw [beq_eq_false_iff_ne]; omega
      have hi1 : decide ((r.err : Int) = 0) = false := decide_eq_false (by omega)
      clear he
      go_enter Tryz.func26, Tryz.ntmps26
      go_wp2_with (first
        | (go_at_call 25; refine (HS.out _ HA0.out).mono ?_; rintro e w1 ⟨v1, lv1, rfl, ha1, hl1, hb1⟩; (obtain ⟨aor, capr, rfl⟩ := hl1.1.arg.isSlice); (have HA1 := Lib.hid ha1); (have HLT := Lib.hid HB0.out.lt); (have hb1' : Below W.heap.size W (w1.alloc (ansC (r.err : Int) (r.val : Int) (.slice aor r.ls.length capr))) := hb1.alloc hb1.size _); (have HB1 := Lib.hid (HB0.out.next hb1')); (have hbs : (w1.alloc (ansC (r.err : Int) (r.val : Int) (.slice aor r.ls.length capr))).heap[w1.heap.size]? = some (ansC (r.err : Int) (r.val : Int) (.slice aor r.ls.length capr)) := heap_alloc_new _ _); (have HBS := Lib.hid hbs); (have HL1 : Hid (ArgW (w1.alloc (ansC (r.err : Int) (r.val : Int) (.slice aor r.ls.length capr))) (.slice aor r.ls.length capr) r.ls) := Lib.hid (hl1.1.arg.alloc _)); (have HLA1 := Lib.hid (HL0.out.below hb1')); (have HAA1 := Lib.hid (HA0.out.below hb1')); (have HST : Hid (ArgB (w1.alloc (ansC (r.err : Int) (r.val : Int) (.slice aor r.ls.length capr))) W.heap.size v1 r.st ∧ Room v1) := Lib.hid ⟨ha1.1.below ((Below.refl _ _).alloc (Nat.le_refl _) _), ha1.2⟩); (have HW1 := Lib.hid hb1'); clear s0 s1 s2 c0 c1 c2 c3 c4 c5 g0 g1 g2; (obtain ⟨s0, s1, s2, c0, c1, c2, c3, c4, c5, hba, _⟩ := HB1.out); (have g0 := Tb.cell_of_blkT (k := 0) hba rfl); (have g1 := Tb.cell_of_blkT (k := 1) hba rfl); (have g2 := Tb.cell_of_blkT (k := 2) hba rfl); clear ha1 hl1 hb1 hb1' hbs hba)
        | (go_at_call 59; (with_reducible refine (HI.out _ _ HLA1.out HL1.out).mono ?_); rintro e w2 ⟨rfl, hb2⟩; (have HB2 := Lib.hid (HB1.out.next hb2)); (have HW2 := Lib.hid (HW1.out.trans (hb2.mono HW1.out.size))); (have HAA2 := Lib.hid (HAA1.out.below hb2)); (have HLA2 := Lib.hid (HLA1.out.below hb2)); (have HST2 : Hid (ArgB w2 W.heap.size v1 r.st ∧ Room v1) := Lib.hid ⟨HST.out.1.below hb2, HST.out.2⟩); (have HBS2 := Lib.hid ((hb2.block _ (blk_lt HBS.out)).trans HBS.out)); clear s0 s1 s2 c0 c1 c2 c3 c4 c5 g0 g1 g2; (obtain ⟨s0, s1, s2, c0, c1, c2, c3, c4, c5, hba, _⟩ := HB2.out); (have g0 := Tb.cell_of_blkT (k := 0) hba rfl); (have g1 := Tb.cell_of_blkT (k := 1) hba rfl); (have g2 := Tb.cell_of_blkT (k := 2) hba rfl); clear hb2 hba)
        | (go_at_call 59; (with_reducible refine (HI2.out _ HLA2.out).mono ?_); rintro e w3 ⟨rfl, hb3⟩; (have HB3 := Lib.hid (HB2.out.next hb3)); (have HW3 := Lib.hid (HW2.out.trans (hb3.mono HW2.out.size))); (have HAA3 := Lib.hid (HAA2.out.below hb3)); (have HBS3 := Lib.hid ((hb3.block _ (blk_lt HBS2.out)).trans HBS2.out)); clear s0 s1 s2 c0 c1 c2 c3 c4 c5 g0 g1 g2; (obtain ⟨s0, s1, s2, c0, c1, c2, c3, c4, c5, hba, _⟩ := HB3.out); (have f0 := Tb.cell_of_blkT (k := 0) HBS3.out rfl); clear hb3 hba)
        | (go_at_call 57; refine (HCL.out _ HAA3.out).mono ?_; rintro e w4 ⟨v4, rfl, ho4, hb4⟩; (have HB4 := Lib.hid (HB3.out.next hb4)); (have HO4 : Hid (ArgB w4 w.heap.size v4 m ∧ Room v4) := Lib.hid ⟨ho4.argB.mono (Nat.le_trans HB0.out.bel.size HW3.out.size), ho4.room⟩); (have HW4 := Lib.hid (HW3.out.trans (hb4.mono HW3.out.size))); (have HAA4 := Lib.hid (HAA3.out.below hb4)); (have f1 := Tb.cell_of_blkT (k := 0) ((hb4.block _ (blk_lt HBS3.out)).trans HBS3.out) rfl); clear f0 s0 s1 s2 c0 c1 c2 c3 c4 c5; (obtain ⟨s0, s1, s2, c0, c1, c2, c3, c4, c5, hba, _⟩ := HB4.out); clear hb4 ho4 hba)
        | (go_at_call 60; refine (HLK.out _ HAA4.out).mono ?_; rintro e w5 ⟨rfl, hb5⟩; (have HO5 : Hid (ArgB w5 w.heap.size v4 m ∧ Room v4) := Lib.hid ⟨HO4.out.1.below hb5, HO4.out.2⟩); (have HW5 := Lib.hid (HW4.out.trans (hb5.mono HW4.out.size))); clear hb5))
      go_ret2
      exact ⟨_, rfl, HO4.out, HB0.out.bel.trans (HW4.out.mono HB0.out.bel.size)⟩
end Go.Proofs.YtmocjpcnohnfpaaGreat
