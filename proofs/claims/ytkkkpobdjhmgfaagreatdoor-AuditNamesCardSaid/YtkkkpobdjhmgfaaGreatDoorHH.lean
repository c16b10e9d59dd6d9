/- history: slices.Backward over events. -/
import Derived.Test.YtkkkpobdjhmgfaaGreatDoorHC
namespace Go.Proofs.YtkkkpobdjhmgfaaGreatDoor
set_option maxRecDepth 100000
open Go.RowKit Go.Shelf
set_option linter.unusedVariables false
set_option linter.unusedSimpArgs false
attribute [local go_sem] Oper.semAt_some

/-- the last k indices below m, from the last one on -/
def dn (m k : Nat) : List (Fin m) := (List.range k).filterMap fun j => if h : j < m then some ⟨m - 1 - j, by omega⟩ else none
theorem dn_succ {m k : Nat} (h : k < m) {i : Fin m} (hi : i.val = m - 1 - k) : dn m (k + 1) = dn m k ++ [i] := by
  unfold dn
  rw [List.range_succ, List.filterMap_append]
  have : (⟨m - 1 - k, by omega⟩ : Fin m) = i := Fin.ext hi.symm
  simp [h, this]
theorem dn_len {m : Nat} : ∀ {k : Nat}, k ≤ m → (dn m k).length = k
  | 0, _ => rfl
  | k + 1, h => by rw [dn_succ (by omega) (i := ⟨m - 1 - k, by omega⟩) rfl, List.length_append, dn_len (by omega)]; rfl
def evAt (l : List EvL) (i : Fin l.length) : EvL := l[i.val]'i.isLt
def bwdE (l : List EvL) (i : Fin l.length) : Array Value := #[.int .i64 (i.val : Int), (evAt l i).v]

/-- what a round keeps: all below n₀, and the iterator's own box -/
def KpB (n₀ Bs : Nat) (W W' : World) : Prop := Below n₀ W W' ∧ W'.heap[Bs]? = W.heap[Bs]?
theorem KpB.t {n₀ Bs : Nat} {A B C : World} (h : KpB n₀ Bs A B) (k : KpB n₀ Bs B C) : KpB n₀ Bs A C := ⟨h.1.trans k.1, k.2.trans h.2⟩
theorem KpB.b {n₀ Bs : Nat} {w : World} (hn : n₀ ≤ w.heap.size) (hs : Bs < w.heap.size) (W : World) (l : Nat) (o o' : Obj) (hl : w.heap.size ≤ l) (h : W.heap[l]? = some o) (h1 : o.isCells = false) (h2 : o.isWalk = false) : KpB n₀ Bs W (W.putObj l o') :=
  ⟨belowK_b hn W l o o' hl h h1 h2, World.putObj_heap_other (by omega)⟩
theorem cell_same {W W' : World} {b i : Nat} (h : W'.heap[b]? = W.heap[b]?) : W'.cell? ⟨b, i, none⟩ = W.cell? ⟨b, i, none⟩ := by unfold World.cell?; rw [h]

set_option maxRecDepth 100000 in
set_option maxHeartbeats 2000000 in
theorem bwd1_in (n : Nat) (hn : 1 ≤ n) (lp Bs n₀ b o cap : Nat) (ao : Option Addr) (l : List EvL) (hl : l.length ≤ 100) (ha : 0 < l.length → ao = some ⟨b, o, none⟩) (hb : 0 < l.length → b < n₀) (W : World)
    (J Jx : List (Fin l.length) → World → Prop)
    (hY : ∀ pre (x : Fin l.length) W1, J pre W1 → pre.length < l.length → YieldAt Fence.wide (n - 1) Tryz.prog lp (bwdE l x) W1 fun e W' =>
      (e = .returned (.bool true) ∧ J (pre ++ [x]) W' ∧ KpB n₀ Bs W1 W') ∨ (e = .returned (.bool false) ∧ Jx (pre ++ [x]) W'))
    (hB : W.cell? ⟨Bs, 0, none⟩ = some (.slice ao l.length cap)) (hc : EvsAt W b o l) (h0 : J [] W) :
    CallsIn Fence.wide n Tryz.prog 42 #[.func (.yield lp) #[] #[], .pointer (some ⟨Bs, 0, none⟩)] W fun e W' => (∃ v, e = .returned v) ∧
      ((∃ ys, ys = dn l.length l.length ∧ J ys W') ∨ (∃ pre, (∃ k, k ≤ l.length ∧ pre = dn l.length k) ∧ Jx pre W')) := by
  have HC := Lib.hid hc
  have HA := Lib.hid ha
  have HB := Lib.hid hb
  have HBc := Lib.hid hB
  have HY := Lib.hid hY
  clear hc ha hb hY
  have hsub : IntKind.i64.wrap ((l.length : Int) - 1) = (l.length : Int) - 1 := IntWalk.i64_in _ (by omega)
  refine callsIn_of_wp Tryz.func42 rfl trivial ?_ rfl
  simp only [Tryz.ntmps42, List.size_toArray, List.length_cons, List.length_nil, Nat.reduceAdd, Nat.reduceSub, Array.replicate_succ, Array.replicate_zero, List.push_toArray, List.append_toArray, List.nil_append, List.cons_append]
  gi_wp2
  clear hsub
  gi_loopw [3] (fun i wr => ∃ (k : Nat) (z : Int), k ≤ l.length ∧ i = .int .i64 z ∧ z = (l.length : Int) - 1 - k ∧ J (dn l.length k) wr ∧ KpB n₀ Bs W wr)
    (fun i _ => (intOf i + 1).toNat)
  case atStart => exact ⟨0, _, Nat.zero_le _, rfl, by omega, h0, Below.refl _ _, rfl⟩
  case round =>
    obtain ⟨k, z, hk, rfl, hz, hJs, hnx⟩ := hrel
    by_cases hlt : k < l.length
    · obtain rfl := HA.out (by omega)
      have hbb := HB.out (by omega)
      obtain ⟨q, rfl⟩ : ∃ q : Nat, z = q := ⟨z.toNat, by omega⟩
      have hq : q < l.length := by omega
      have hqk : q = l.length - 1 - k := by omega
      obtain ⟨x, hx⟩ : ∃ x, l[q]? = some x := ⟨l[q], List.getElem?_eq_getElem hq⟩
      obtain ⟨c0, c1, c2, c3, c4, c5, c6, c7⟩ := (HC.out.stays hnx.1 HB.out).cells hx
      have hHr : wr.cell? ⟨Bs, 0, none⟩ = some (.slice (some ⟨b, o, none⟩) l.length cap) := (cell_same hnx.2).trans hB
      obtain ⟨fn, tmps, assign, body, hy, hR⟩ := HY.out (dn l.length k) ⟨q, hq⟩ wr hJs (by rw [dn_len hk]; exact hlt)
      have hev : evAt l ⟨q, hq⟩ = x := by unfold evAt; exact (List.getElem?_eq_some_iff.1 hx).2
      unfold bwdE at hy
      rw [hev] at hy
      unfold EvL.v at hy
      dsimp only at hy
      have hsn : Hid (dn l.length (k + 1) = dn l.length k ++ [⟨q, hq⟩]) := Lib.hid (dn_succ hlt hqk)
      have hsub : IntKind.i64.wrap ((q : Int) - 1) = (q : Int) - 1 := IntWalk.i64_in _ (by omega)
      have hz2 : Hid ((q : Int) = (l.length : Int) - 1 - k) := Lib.hid hz
      clear hx hev hz hqk
      have HN := Lib.hid hnx
      clear hnx
      gi_wp2
      refine hR.mono ?_
      rintro e W3 (⟨rfl, hJ3, hk3⟩ | ⟨rfl, hJx3⟩)
      · gi_wp2
        go_roundw
        case rel => exact ⟨k + 1, _, by omega, rfl, by have := hz2.out; omega, by rw [hsn.out]; exact hJ3, HN.out.t hk3⟩
        case measure => simp [intOf]
      · gi_wp2
        refine bodyPost_ret (results_none rfl _ _ _) rfl ?_
        exact ⟨⟨_, rfl⟩, .inr ⟨_, ⟨k + 1, by omega, hsn.out.symm⟩, hJx3⟩⟩
    · obtain rfl : k = l.length := by omega
      obtain rfl : z = -1 := by omega
      gi_wp2
      go_end0
      exact ⟨⟨_, rfl⟩, .inl ⟨_, rfl, hJs⟩⟩
end Go.Proofs.YtkkkpobdjhmgfaaGreatDoor
