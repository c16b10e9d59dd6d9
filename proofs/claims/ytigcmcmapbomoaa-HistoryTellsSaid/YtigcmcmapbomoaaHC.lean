/- history: the iterator over the numbers of events; what it is asked. -/
import Derived.RangeFuncNested
import Derived.RangeFuncBound
import Derived.RangeFuncCalls
import Derived.RangeFuncLeaves
import Derived.Shelf.Abstract
import Derived.Shelf.RegionOpen
import Derived.WalkKit
import Derived.OwnWalkIn
import Derived.TacticsInMore
import Derived.LoopNIn
import Derived.LoopIn
import Derived.Maps.AppendAt
import Derived.Test.YtigcmcmapbomoaaHB
namespace Go.Proofs.Ytigcmcmapbomoaa
open Go.RowKit Go.Shelf
set_option linter.unusedVariables false
set_option linter.unusedSimpArgs false
attribute [local go_sem] Oper.semAt_some

theorem below_grown {a w : World} (h : Below a.heap.size a w) : a.grownBy w none := ⟨h.os, h.tape, h.output, h.size, fun k hk _ => h.block k hk⟩
/-- the numbers of those that are asked for, among the first k -/
def sel (p : EvL → Bool) (l : List EvL) (k : Nat) : List Nat := (List.range k).filter fun i => (l[i]?).any p
theorem sel_hit {p : EvL → Bool} {l : List EvL} {k : Nat} {x : EvL} (hx : l[k]? = some x) (h : p x = true) : sel p l (k + 1) = sel p l k ++ [k] := by
  simp [sel, List.range_succ, hx, h]
theorem sel_miss {p : EvL → Bool} {l : List EvL} {k : Nat} {x : EvL} (hx : l[k]? = some x) (h : p x = false) : sel p l (k + 1) = sel p l k := by
  simp [sel, List.range_succ, hx, h]
theorem sel_len (p : EvL → Bool) (l : List EvL) (k : Nat) : (sel p l k).length ≤ k := by
  have := List.length_filter_le (fun i => (l[i]?).any p) (List.range k)
  simpa [sel] using this

set_option maxHeartbeats 400000 in
/-- Pending's question -/
theorem pend_ok (x : EvL) (w : World) : Calls Try.prog 21 #[x.v] w fun e w' => e = .returned (.bool (!done x)) ∧ Below w.heap.size w w' := by
  have HD : Hid (∀ w, Calls Try.prog 18 #[x.v] w fun e w' => e = .returned (.bool (done x)) ∧ Below w.heap.size w w') := Lib.hid (done_ok x)
  generalize done x = D at *
  unfold EvL.v at *
  obtain ⟨ca, iv, rs, st, er, vl, la, nl, cl, ka, nk, ck⟩ := x
  dsimp only at *
  go_enter Try.func21, Try.ntmps21
  go_wp2_with (go_at_call 18; refine (HD.out _).mono ?_; rintro e w1 ⟨rfl, hb1⟩)
  go_ret
  exact ⟨rfl, ((Below.refl _ _).alloc (Nat.le_refl _) _).trans (hb1.mono (by simp))⟩

/-- is it of this thread's? -/
def ofT (ts : List Int) (t : Int) (x : EvL) : Bool := (thr ts x).isSome && decide ((thr ts x).getD 0 = t)
set_option maxHeartbeats 1000000 in
/-- Of's question -/
theorem of1_ok (x : EvL) (Bc Bt : Nat) (ao : Option Addr) (b o c : Nat) (ts : List Int) (t : Int) (w : World) (hl : ts.length ≤ maxLen) (ha : 0 < ts.length → ao = some ⟨b, o, none⟩) (hb : 0 < ts.length → b < w.heap.size) (hc : ThsAt w b o ts) (hx : x.ok)
    (h1 : w.cell? ⟨Bc, 0, none⟩ = some (.slice ao ts.length c)) (h2 : w.cell? ⟨Bt, 0, none⟩ = some (.int .i64 t)) :
    Calls Try.prog 22 #[x.v, .pointer (some ⟨Bc, 0, none⟩), .pointer (some ⟨Bt, 0, none⟩)] w fun e w' => e = .returned (.bool (ofT ts t x)) ∧ Below w.heap.size w w' := by
  have HT : Hid (∀ W, Below w.heap.size w W → Calls Try.prog 16 #[.slice ao ts.length c, x.v] W fun e w' => e = .returned (.tuple #[.int .i64 ((thr ts x).getD 0), .bool (thr ts x).isSome]) ∧ Below W.heap.size W w') :=
    Lib.hid (fun W hW => thr_ok x ao b o c ts W hl ha (fun h => Nat.lt_of_lt_of_le (hb h) hW.size) (hc.stays hW hb) hx)
  have q1 : Bc < w.heap.size := World.block_lt_of_cell? w _ h1
  have q2 : Bt < w.heap.size := World.block_lt_of_cell? w _ h2
  unfold ofT
  generalize thr ts x = y at *
  clear hc ha hb hx
  unfold EvL.v at *
  obtain ⟨ca, iv, rs, st, er, vl, la, nl, cl, ka, nk, ck⟩ := x
  dsimp only at *
  generalize y.getD 0 = Y at *
  cases hS : y.isSome with
  | true =>
    rw [hS] at HT
    clear hS
    go_enter Try.func22, Try.ntmps22
    go_wp2_with (go_at_call 16; refine (HT.out _ ((Below.refl _ _).alloc (Nat.le_refl _) _)).mono ?_; rintro e w1 ⟨rfl, hb1⟩; (have l2 : w1.cell? ⟨Bt, 0, none⟩ = some (.int .i64 t) := (hb1.cell (by simp; omega)).trans ((((Below.refl _ _).alloc (Nat.le_refl _) _).cell q2).trans h2)))
    go_ret
    exact ⟨ret_bool (by rw [Bool.eq_iff_iff]; simp), ((Below.refl _ _).alloc (Nat.le_refl _) _).trans (hb1.mono (by simp))⟩
  | false =>
    rw [hS] at HT
    clear hS
    go_enter Try.func22, Try.ntmps22
    go_wp2_with (go_at_call 16; refine (HT.out _ ((Below.refl _ _).alloc (Nat.le_refl _) _)).mono ?_; rintro e w1 ⟨rfl, hb1⟩)
    go_ret
    exact ⟨rfl, ((Below.refl _ _).alloc (Nat.le_refl _) _).trans (hb1.mono (by simp))⟩

set_option maxRecDepth 100000 in
set_option maxHeartbeats 2000000 in
theorem pnums_in (n : Nat) (hn : 1 ≤ n) (lp Bs Bh n₀ b o cap : Nat) (ao : Option Addr) (l : List EvL) (p : EvL → Bool) (hl : l.length ≤ 100) (ha : 0 < l.length → ao = some ⟨b, o, none⟩) (hb : 0 < l.length → b < n₀) (W : World) (hs : Bs < n₀) (hh : Bh < n₀) (hnW : n₀ ≤ W.heap.size)
    (HP : ∀ (i : Nat) (x : EvL) (W' : World), l[i]? = some x → Below n₀ W W' → Calls Try.prog 21 #[x.v] W' fun e w' => e = .returned (.bool (p x)) ∧ Below W'.heap.size W' w')
    (J Jx : List Nat → World → Prop) (hJ : AbidesFrom W.heap.size J)
    (hY : ∀ pre (x : Nat) W1, J pre W1 → pre.length < l.length → YieldAt Fence.wide (n - 1) Try.prog lp #[.int .i64 (x : Int)] W1 fun e W' =>
      (e = .returned (.bool true) ∧ J (pre ++ [x]) W' ∧ Below n₀ W1 W') ∨ (e = .returned (.bool false) ∧ Jx (pre ++ [x]) W'))
    (hB : W.cell? ⟨Bs, 0, none⟩ = some (.slice ao l.length cap)) (hH : W.cell? ⟨Bh, 0, none⟩ = some (.func (.func 21) #[] #[])) (hc : EvsAt W b o l) (h0 : J [] W) :
    CallsIn Fence.wide n Try.prog 26 #[.func (.yield lp) #[] #[], .pointer (some ⟨Bs, 0, none⟩), .pointer (some ⟨Bh, 0, none⟩)] W fun e W' => (∃ v, e = .returned v) ∧
      ((∃ ys, ys = sel p l l.length ∧ J ys W') ∨ (∃ pre, (∃ k, k ≤ l.length ∧ pre = sel p l k) ∧ Jx pre W')) := by
  have HPh := Lib.hid HP
  have HJ := Lib.hid hJ
  have HC := Lib.hid hc
  have HA := Lib.hid ha
  have HB := Lib.hid hb
  have hfw : Fence.wide.fn 21 := trivial
  clear HP hJ hc ha hb
  refine callsIn_of_wp Try.func26 rfl trivial ?_ rfl
  simp only [Try.ntmps26, List.size_toArray, List.length_cons, List.length_nil, Nat.reduceAdd, Nat.reduceSub, Array.replicate_succ, Array.replicate_zero, List.push_toArray, List.append_toArray, List.nil_append, List.cons_append]
  gi_wp2
  gi_loopw [8] (fun i wr => ∃ k : Nat, k ≤ l.length ∧ i = .int .i64 k ∧ J (sel p l k) wr ∧ Below n₀ W wr ∧ W.heap.size ≤ wr.heap.size)
    (fun i _ => l.length - (intOf i).toNat)
  case atStart => exact ⟨0, Nat.zero_le _, rfl, h0, Below.refl _ _, Nat.le_refl _⟩
  case round =>
    obtain ⟨k, hk, rfl, hJs, hnx, hwz⟩ := hrel
    by_cases hlt : k < l.length
    · obtain rfl := HA.out (by omega)
      have hbb := HB.out (by omega)
      obtain ⟨x, hx⟩ : ∃ x, l[k]? = some x := ⟨l[k], List.getElem?_eq_getElem hlt⟩
      have hcw := HC.out.stays hnx HB.out
      obtain ⟨c0, c1, c2, c3, c4, c5, c6, c7⟩ := hcw.cells hx
      have hHr : wr.cell? ⟨Bh, 0, none⟩ = some (.func (.func 21) #[] #[]) := (hnx.cell (p := ⟨Bh, 0, none⟩) hh).trans hH
      have hBh : Bh < wr.heap.size := by omega
      have hlen : (sel p l k).length < l.length := Nat.lt_of_le_of_lt (sel_len p l k) hlt
      have HX := Lib.hid hx
      clear hcw hx
      have HPx := fun W' (h : Below n₀ W W') => HPh.out k x W' HX.out h
      have HPX := Lib.hid HPx
      have HJK : Hid (∀ W2, Below wr.heap.size wr W2 → J (sel p l k) W2) := Lib.hid (fun W2 h2 => HJ.out _ wr W2 none hJs (below_grown h2) (fun r e => by cases e))
      clear HPx
      cases hp : p x with
      | false =>
        rw [hp] at HPX
        gi_wp2_with (gi_at_call 21; refine (callsIn_wide.2 (HPX.out _ (hnx.trans ((Below.refl _ _).alloc (by omega) _)))).mono ?_; rintro e W2 ⟨rfl, hb2⟩)
        refine ⟨fun _ _ => trivial, ?_⟩
        gi_wp2
        have hb3 : Below wr.heap.size wr W2 := ((Below.refl _ _).alloc (Nat.le_refl _) _).trans (hb2.mono (by simp))
        go_roundw
        case rel => exact ⟨k + 1, by omega, by simp, by rw [sel_miss HX.out hp]; exact HJK.out _ hb3, hnx.trans (hb3.mono (by omega)), Nat.le_trans hwz hb3.size⟩
        case measure => simp [intOf]; omega
      | true =>
        rw [hp] at HPX
        gi_wp2_with (gi_at_call 21; refine (callsIn_wide.2 (HPX.out _ (hnx.trans ((Below.refl _ _).alloc (by omega) _)))).mono ?_; rintro e W2 ⟨rfl, hb2⟩; (have hb3 : Below wr.heap.size wr W2 := ((Below.refl _ _).alloc (Nat.le_refl _) _).trans (hb2.mono (by simp))); obtain ⟨fn, tmps, assign, body, hy, hR⟩ := hY _ k W2 (HJK.out _ hb3) hlen)
        refine hR.mono ?_
        rintro e W3 (⟨rfl, hJ3, hk3⟩ | ⟨rfl, hJx3⟩)
        · gi_wp2
          go_roundw
          case rel => exact ⟨k + 1, by omega, by simp, by rw [sel_hit HX.out hp]; exact hJ3, hnx.trans ((hb3.mono (by omega)).trans hk3), Nat.le_trans hwz (Nat.le_trans hb3.size hk3.size)⟩
          case measure => simp [intOf]; omega
        · gi_wp2
          refine bodyPost_ret (results_none rfl _ _ _) rfl ?_
          exact ⟨⟨_, rfl⟩, .inr ⟨_, ⟨k + 1, by omega, (sel_hit HX.out hp).symm⟩, hJx3⟩⟩
    · obtain rfl : k = l.length := by omega
      gi_wp2
      go_end0
      exact ⟨⟨_, rfl⟩, .inl ⟨_, rfl, hJs⟩⟩

set_option maxRecDepth 100000 in
set_option maxHeartbeats 2000000 in
theorem onums_in (n : Nat) (hn : 1 ≤ n) (lp Bs Bh n₀ b o cap : Nat) (ao : Option Addr) (l : List EvL) (p : EvL → Bool) (Bc Bt : Nat) (hl : l.length ≤ 100) (ha : 0 < l.length → ao = some ⟨b, o, none⟩) (hb : 0 < l.length → b < n₀) (W : World) (hs : Bs < n₀) (hh : Bh < n₀) (hnW : n₀ ≤ W.heap.size)
    (HP : ∀ (i : Nat) (x : EvL) (W' : World), l[i]? = some x → Below n₀ W W' → Calls Try.prog 22 #[x.v, .pointer (some ⟨Bc, 0, none⟩), .pointer (some ⟨Bt, 0, none⟩)] W' fun e w' => e = .returned (.bool (p x)) ∧ Below W'.heap.size W' w')
    (J Jx : List Nat → World → Prop) (hJ : AbidesFrom W.heap.size J)
    (hY : ∀ pre (x : Nat) W1, J pre W1 → pre.length < l.length → YieldAt Fence.wide (n - 1) Try.prog lp #[.int .i64 (x : Int)] W1 fun e W' =>
      (e = .returned (.bool true) ∧ J (pre ++ [x]) W' ∧ Below n₀ W1 W') ∨ (e = .returned (.bool false) ∧ Jx (pre ++ [x]) W'))
    (hB : W.cell? ⟨Bs, 0, none⟩ = some (.slice ao l.length cap)) (hH : W.cell? ⟨Bh, 0, none⟩ = some (.func (.func 22) #[] #[.pointer (some ⟨Bc, 0, none⟩), .pointer (some ⟨Bt, 0, none⟩)])) (hc : EvsAt W b o l) (h0 : J [] W) :
    CallsIn Fence.wide n Try.prog 26 #[.func (.yield lp) #[] #[], .pointer (some ⟨Bs, 0, none⟩), .pointer (some ⟨Bh, 0, none⟩)] W fun e W' => (∃ v, e = .returned v) ∧
      ((∃ ys, ys = sel p l l.length ∧ J ys W') ∨ (∃ pre, (∃ k, k ≤ l.length ∧ pre = sel p l k) ∧ Jx pre W')) := by
  have HPh := Lib.hid HP
  have HJ := Lib.hid hJ
  have HC := Lib.hid hc
  have HA := Lib.hid ha
  have HB := Lib.hid hb
  have hfw : Fence.wide.fn 22 := trivial
  clear HP hJ hc ha hb
  refine callsIn_of_wp Try.func26 rfl trivial ?_ rfl
  simp only [Try.ntmps26, List.size_toArray, List.length_cons, List.length_nil, Nat.reduceAdd, Nat.reduceSub, Array.replicate_succ, Array.replicate_zero, List.push_toArray, List.append_toArray, List.nil_append, List.cons_append]
  gi_wp2
  gi_loopw [8] (fun i wr => ∃ k : Nat, k ≤ l.length ∧ i = .int .i64 k ∧ J (sel p l k) wr ∧ Below n₀ W wr ∧ W.heap.size ≤ wr.heap.size)
    (fun i _ => l.length - (intOf i).toNat)
  case atStart => exact ⟨0, Nat.zero_le _, rfl, h0, Below.refl _ _, Nat.le_refl _⟩
  case round =>
    obtain ⟨k, hk, rfl, hJs, hnx, hwz⟩ := hrel
    by_cases hlt : k < l.length
    · obtain rfl := HA.out (by omega)
      have hbb := HB.out (by omega)
      obtain ⟨x, hx⟩ : ∃ x, l[k]? = some x := ⟨l[k], List.getElem?_eq_getElem hlt⟩
      have hcw := HC.out.stays hnx HB.out
      obtain ⟨c0, c1, c2, c3, c4, c5, c6, c7⟩ := hcw.cells hx
      have hHr : wr.cell? ⟨Bh, 0, none⟩ = some (.func (.func 22) #[] #[.pointer (some ⟨Bc, 0, none⟩), .pointer (some ⟨Bt, 0, none⟩)]) := (hnx.cell (p := ⟨Bh, 0, none⟩) hh).trans hH
      have hBh : Bh < wr.heap.size := by omega
      have hlen : (sel p l k).length < l.length := Nat.lt_of_le_of_lt (sel_len p l k) hlt
      have HX := Lib.hid hx
      clear hcw hx
      have HPx := fun W' (h : Below n₀ W W') => HPh.out k x W' HX.out h
      have HPX := Lib.hid HPx
      have HJK : Hid (∀ W2, Below wr.heap.size wr W2 → J (sel p l k) W2) := Lib.hid (fun W2 h2 => HJ.out _ wr W2 none hJs (below_grown h2) (fun r e => by cases e))
      clear HPx
      cases hp : p x with
      | false =>
        rw [hp] at HPX
        gi_wp2_with (gi_at_call 22; refine (callsIn_wide.2 (HPX.out _ (hnx.trans ((Below.refl _ _).alloc (by omega) _)))).mono ?_; rintro e W2 ⟨rfl, hb2⟩)
        refine ⟨fun _ _ => trivial, ?_⟩
        gi_wp2
        have hb3 : Below wr.heap.size wr W2 := ((Below.refl _ _).alloc (Nat.le_refl _) _).trans (hb2.mono (by simp))
        go_roundw
        case rel => exact ⟨k + 1, by omega, by simp, by rw [sel_miss HX.out hp]; exact HJK.out _ hb3, hnx.trans (hb3.mono (by omega)), Nat.le_trans hwz hb3.size⟩
        case measure => simp [intOf]; omega
      | true =>
        rw [hp] at HPX
        gi_wp2_with (gi_at_call 22; refine (callsIn_wide.2 (HPX.out _ (hnx.trans ((Below.refl _ _).alloc (by omega) _)))).mono ?_; rintro e W2 ⟨rfl, hb2⟩; (have hb3 : Below wr.heap.size wr W2 := ((Below.refl _ _).alloc (Nat.le_refl _) _).trans (hb2.mono (by simp))); obtain ⟨fn, tmps, assign, body, hy, hR⟩ := hY _ k W2 (HJK.out _ hb3) hlen)
        refine hR.mono ?_
        rintro e W3 (⟨rfl, hJ3, hk3⟩ | ⟨rfl, hJx3⟩)
        · gi_wp2
          go_roundw
          case rel => exact ⟨k + 1, by omega, by simp, by rw [sel_hit HX.out hp]; exact hJ3, hnx.trans ((hb3.mono (by omega)).trans hk3), Nat.le_trans hwz (Nat.le_trans hb3.size hk3.size)⟩
          case measure => simp [intOf]; omega
        · gi_wp2
          refine bodyPost_ret (results_none rfl _ _ _) rfl ?_
          exact ⟨⟨_, rfl⟩, .inr ⟨_, ⟨k + 1, by omega, (sel_hit HX.out hp).symm⟩, hJx3⟩⟩
    · obtain rfl : k = l.length := by omega
      gi_wp2
      go_end0
      exact ⟨⟨_, rfl⟩, .inl ⟨_, rfl, hJs⟩⟩

/-- numbers, called: its two arguments are boxed -/
theorem numbers_ok (n : Nat) (v : Value) (hv : Value) (g : Nat) (lb : Array Value) (ao : Option Addr) (m c : Nat) (hv1 : v = .slice ao m c) (hv2 : hv = .func (.func g) #[] lb) (w : World) :
    CallsIn Fence.wide n Try.prog 20 #[v, hv] w fun e w' => e = .returned (.func (.func 26) #[] #[.pointer (some ⟨w.heap.size, 0, none⟩), .pointer (some ⟨w.heap.size + 1, 0, none⟩)]) ∧
      w' = (w.alloc (.cells #[v] 24)).alloc (.cells #[hv] 53) := by
  subst hv1; subst hv2
  refine callsIn_of_wp Try.func20 rfl trivial ?_ rfl
  simp only [Try.ntmps20, List.size_toArray, List.length_cons, List.length_nil, Nat.reduceAdd, Nat.reduceSub, Array.replicate_succ, Array.replicate_zero, List.push_toArray, List.append_toArray, List.nil_append, List.cons_append]
  gi_wp2
  go_ret
  exact ⟨rfl, rfl⟩

theorem infoInt : (Try.prog.info? 3).map (fun i => (i.zero, i.size, i.bytes)) = some (some (.int .i64 0), 1, 8) := by kernel_rfl
/-- numbers as values -/
def ivs (xs : List Nat) : List Value := xs.map fun (x : Nat) => Value.int .i64 (x : Int)
set_option maxRecDepth 100000 in
set_option maxHeartbeats 2000000 in
/-- slices.AppendSeq, to nil: a new slice of all that comes -/
theorem appendSeq_ok (n : Nat) (hn : 4 ≤ n) (Bs Bh : Nat) (xs : List Nat) (Sp : List Nat → Prop) (N : Nat) (hN : N ≤ 100) (w : World)
    (hseq : SeqStopsK Fence.wide (n - 1) Try.prog 26 #[.pointer (some ⟨Bs, 0, none⟩), .pointer (some ⟨Bh, 0, none⟩)] (fun x : Nat => #[Value.int .i64 (x : Int)]) (Below w.heap.size) (fun ys => ys = xs) Sp N w) :
    CallsIn Fence.wide n Try.prog 25 #[.slice none 0 0, .func (.func 26) #[] #[.pointer (some ⟨Bs, 0, none⟩), .pointer (some ⟨Bh, 0, none⟩)]] w fun e W' =>
      ∃ v, e = .returned v ∧ W'.ownsRow w.heap.size 3 1 v xs.length (ivs xs) ∧ Below w.heap.size w W' := by
  have h1 : 1 ≤ n := by omega
  obtain ⟨i0, hi, hz0, hz1, hz2⟩ := info_parts infoInt
  refine callsIn_of_wp_marks Try.func25 rfl trivial ?_ rfl
  simp only [Try.ntmps25, List.size_toArray, List.length_cons, List.length_nil, Nat.reduceAdd, Nat.reduceSub, Array.replicate_succ, Array.replicate_zero, List.push_toArray, List.append_toArray, List.nil_append, List.cons_append]
  gi_wp2
  have bO := Boxed.new w 35 (.slice none 0 0)
  have hB0 : Below w.heap.size w (w.alloc (.cells #[.slice none 0 0] 35)) := (Below.refl _ w).alloc (Nat.le_refl _) _
  refine wpIn_rangeFunc_ownG (F := Fence.wide) rfl h1 (gf := 26) (lb := #[.pointer (some ⟨Bs, 0, none⟩), .pointer (some ⟨Bh, 0, none⟩)]) rfl trivial (enters_of Try.func26 (by kernel_rfl) rfl)
    hseq belowK_t (belowK_b (by simp)) hB0 (fun _ => rfl)
    (fun pre W => (∃ v, Boxed W w.heap.size 35 v ∧ W.ownsRow w.heap.size 3 1 v pre.length (ivs pre) ∧ True) ∧ Below w.heap.size w W)
    (fun _ _ _ => False)
    (OwnFrom.and (Own.from (holdsRow_own w.heap.size w.heap.size 35 3 1 (fun pre => pre.length) (fun pre => ivs pre) (fun pre v => True)) _) (ownFrom_below (Nat.le_refl _) (by simp)))
    (fun _ _ _ _ _ hs _ _ => hs)
    ⟨⟨_, bO, World.ownsRow_nil _ _ _ _, trivial⟩, hB0⟩
    (fun x => { tmps := #[.slice none 0 0, .func (.func 26) #[] #[.pointer (some ⟨Bs, 0, none⟩), .pointer (some ⟨Bh, 0, none⟩)], .pointer (some ⟨w.heap.size, 0, none⟩), undef, .slice none 0 0, .int .i64 (x : Int), .func (.func 26) #[] #[.pointer (some ⟨Bs, 0, none⟩), .pointer (some ⟨Bh, 0, none⟩)], .int .i64 (x : Int), undef, undef, undef, undef, undef], defers := [] }) ?assign ?body ?done ?stop
  case assign =>
    intro l x W K hK
    gi_wp2
    exact hK
  case body =>
    rintro l pre x W ⟨⟨v, hv, hrow, _⟩, hB⟩ hlt
    have hc := hv.cell
    gi_wp2_with (gi_at_builtin; refine wpListIn_append_own _ rfl _ _ 35 rfl w.heap.size 3 i0 (.int .i64 0) 1 8 Try.underlying35 hi hz0 hz1 hz2 rfl (by decide) _ _ _ rfl (hrow.alloc _) ⟨W.heap.size, 0, none⟩ 1 1 [.int .i64 (x : Int)] rfl rfl (cell_one_new _ _ _) (by simp [Value.oneCell']) (by unfold maxLen; omega) (by omega) (by have := hB.size; simp; omega) ?_; intro v' w1 hown' hgrow _; obtain ⟨g', cap', rfl⟩ := ownsRow_succ hown'; obtain ⟨hv1, hv2, hr2, hk2, hb2⟩ := hv.appended (by decide) hrow hB.size (Nat.le_refl _) hown' hgrow; have hc1 := hv1.cell; have hf1 := hv1.frozen)
    exact ⟨hk2.from _, hb2, ⟨_, hv2, by simpa [ivs] using hr2, trivial⟩, hB.trans hb2⟩
  case done =>
    rintro D ys W hD rfl ⟨⟨v, hv, hrow, _⟩, hB⟩ hK
    have hc := hv.cell
    gi_wp2
    refine ⟨by simp, .inl ⟨_, _, rfl, run_takeDeferred hK, ?_⟩⟩
    exact ⟨_, results_tmp rfl _ _ _, v, rfl, ownsRow_putObj hrow _ hK rfl, hB.trans (belowK_b (w := w) (Nat.le_refl _) W D _ _ (by simp at hD; omega) hK rfl rfl)⟩
  case stop =>
    rintro D c pre W _ _ h _
    exact h.elim
end Go.Proofs.Ytigcmcmapbomoaa
