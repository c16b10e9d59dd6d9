/- Plain: how events stood at a tick; eight cells at an offset. -/
import Derived.Test.YthacohejdpjjeaaCTD
import Derived.Test.YthacohejdpjjeaaCTF
namespace Go.Proofs.Ythacohejdpjjeaa
open Go.RowKit Go.Lib Go.Sort
set_option linter.unusedVariables false

/-- how many ticks a call has -/
def cntT (l : List Nat) (c : Int) : Nat := (l.filter (fun i : Nat => decide ((i : Int) = c))).length
theorem cntT_snoc (l : List Nat) (i : Nat) (c : Int) : cntT (l ++ [i]) c = cntT l c + (if (i : Int) = c then 1 else 0) := by
  unfold cntT
  rw [List.filter_append, List.length_append]
  by_cases h : (i : Int) = c
  · simp [h]
  · simp [h]
theorem cntT_le (l : List Nat) (c : Int) : cntT l c ≤ l.length := List.length_filter_le _ _
/-- what the map of steps has -/
def stG (l : List Nat) (c : Int) : Option Int := if cntT l c = 0 then none else some (cntT l c : Int)
theorem stG_nil : stG [] = fun _ => none := rfl
theorem stG_get (l : List Nat) (c : Int) : (stG l c).getD 0 = (cntT l c : Int) := by
  unfold stG
  by_cases h : cntT l c = 0
  · rw [if_pos h, h]; rfl
  · rw [if_neg h]; rfl
theorem stG_snoc (l : List Nat) (i : Nat) : stG (l ++ [i]) = updF (stG l) (i : Int) (some ((cntT l (i : Int) : Int) + 1)) := by
  funext c
  by_cases hc : c = (i : Int)
  · subst hc
    rw [updF_same]
    unfold stG
    rw [cntT_snoc, if_pos rfl, if_neg (by omega)]
    rfl
  · rw [updF_other _ _ hc]
    unfold stG
    have e : cntT (l ++ [i]) c = cntT l c := by rw [cntT_snoc, if_neg (show ¬ (i : Int) = c from fun e => hc e.symm)]; rfl
    rw [e]
/-- how events stood at a tick, whose calls had ticks so -/
def atGo (tick : Int) (T : List Nat) : List EvX → List EvX
  | [] => []
  | x :: l => if x.iv ≤ tick then evAtX x tick (cntT T x.ca : Int) :: atGo tick T l else atGo tick T l
theorem atGo_snoc (tick : Int) (T : List Nat) (x : EvX) : ∀ l, atGo tick T (l ++ [x]) = atGo tick T l ++ (if x.iv ≤ tick then [evAtX x tick (cntT T x.ca : Int)] else [])
  | [] => by
    by_cases h : x.iv ≤ tick
    · simp [atGo, h]
    · simp [atGo, h]
  | y :: l => by
    rw [List.cons_append, atGo, atGo, atGo_snoc tick T x l]
    split
    · rw [List.cons_append]
    · rfl
theorem atGo_len (tick : Int) (T : List Nat) : ∀ l, (atGo tick T l).length ≤ l.length
  | [] => Nat.le_refl _
  | x :: l => by
    have := atGo_len tick T l
    rw [atGo]
    split
    · simp only [List.length_cons]; omega
    · simp only [List.length_cons]; omega
/-- ticks up to a tick -/
def pastN (tick : Int) (n : Nat) : Nat := min tick.toNat n
def atOf (tick : Int) (T : List Nat) (l : List EvX) : List EvX := atGo tick (T.take (pastN tick T.length)) l
theorem evAtX_small {x : EvX} (h : EvSmall x) (tick st : Int) : EvSmall (evAtX x tick st) := by
  unfold evAtX
  split
  · exact ⟨by simp, by simp⟩
  · exact h
theorem evAtX_ok {x : EvX} (h : x.Ok) (tick st : Int) (hs : I63 st) : (evAtX x tick st).Ok := by
  have z : I63 0 := by unfold I63; omega
  unfold evAtX
  split
  · exact ⟨h.ca, h.iv, z, hs, z, by show 0 < _; omega, fun x hx => by simp at hx, fun x hx => by simp at hx⟩
  · exact ⟨h.ca, h.iv, h.rs, hs, h.er, h.vl, h.lw, h.kw⟩

/-- eight cells at an offset, written -/
def set8 (l : List Value) (o : Nat) (v0 v1 v2 v3 v4 v5 v6 v7 : Value) : List Value := (((((((l.set o v0).set (o + 1) v1).set (o + 2) v2).set (o + 3) v3).set (o + 4) v4).set (o + 5) v5).set (o + 6) v6).set (o + 7) v7
theorem set8_len (l : List Value) (o : Nat) (v0 v1 v2 v3 v4 v5 v6 v7 : Value) : (set8 l o v0 v1 v2 v3 v4 v5 v6 v7).length = l.length := by simp [set8]
theorem set8_in (l : List Value) (o : Nat) (v0 v1 v2 v3 v4 v5 v6 v7 : Value) (h : o + 7 < l.length) (k : Nat) (u : Value) (hu : [v0, v1, v2, v3, v4, v5, v6, v7][k]? = some u) : (set8 l o v0 v1 v2 v3 v4 v5 v6 v7)[o + k]? = some u := by
  have hk : k < 8 := (List.getElem?_eq_some_iff.1 hu).1
  unfold set8
  match k, hk, hu with
  | 0, _, hu => simp only [List.getElem?_set, List.length_set]; simp at hu; subst hu; simp; omega
  | 1, _, hu => simp only [List.getElem?_set, List.length_set]; simp at hu; subst hu; simp; omega
  | 2, _, hu => simp only [List.getElem?_set, List.length_set]; simp at hu; subst hu; simp; omega
  | 3, _, hu => simp only [List.getElem?_set, List.length_set]; simp at hu; subst hu; simp; omega
  | 4, _, hu => simp only [List.getElem?_set, List.length_set]; simp at hu; subst hu; simp; omega
  | 5, _, hu => simp only [List.getElem?_set, List.length_set]; simp at hu; subst hu; simp; omega
  | 6, _, hu => simp only [List.getElem?_set, List.length_set]; simp at hu; subst hu; simp; omega
  | 7, _, hu => simp only [List.getElem?_set, List.length_set]; simp at hu; subst hu; simp; omega
theorem set8_out (l : List Value) (o : Nat) (v0 v1 v2 v3 v4 v5 v6 v7 : Value) {j : Nat} (h : j < o ∨ o + 8 ≤ j) : (set8 l o v0 v1 v2 v3 v4 v5 v6 v7)[j]? = l[j]? := by
  unfold set8
  iterate 8 rw [List.getElem?_set_ne (by omega)]
def put8o (w : World) (g o : Nat) (v0 v1 v2 v3 v4 v5 v6 v7 : Value) : World := (((((((w.setCell ⟨g, o, none⟩ v0).setCell ⟨g, o + 1, none⟩ v1).setCell ⟨g, o + 2, none⟩ v2).setCell ⟨g, o + 3, none⟩ v3).setCell ⟨g, o + 4, none⟩ v4).setCell ⟨g, o + 5, none⟩ v5).setCell ⟨g, o + 6, none⟩ v6).setCell ⟨g, o + 7, none⟩ v7
theorem put8o_row {w : World} {t : TypeId} {g : Nat} {l : List Value} (h : RowBlk t w g l) (o : Nat) (v0 v1 v2 v3 v4 v5 v6 v7 : Value) : RowBlk t (put8o w g o v0 v1 v2 v3 v4 v5 v6 v7) g (set8 l o v0 v1 v2 v3 v4 v5 v6 v7) :=
  (((((((h.put o v0).put (o + 1) v1).put (o + 2) v2).put (o + 3) v3).put (o + 4) v4).put (o + 5) v5).put (o + 6) v6).put (o + 7) v7
theorem put8o_other (w : World) (g o : Nat) (v0 v1 v2 v3 v4 v5 v6 v7 : Value) {b : Nat} (hb : b ≠ g) : (put8o w g o v0 v1 v2 v3 v4 v5 v6 v7).heap[b]? = w.heap[b]? := by
  unfold put8o
  iterate 8 rw [Below.heap_setCell _ _ _ _ (show b ≠ g from hb)]
theorem put8o_size (w : World) (g o : Nat) (v0 v1 v2 v3 v4 v5 v6 v7 : Value) : (put8o w g o v0 v1 v2 v3 v4 v5 v6 v7).heap.size = w.heap.size := by simp [put8o, World.setCell]
theorem put8o_below {B : Nat} {a w : World} (h : Below B a w) {g : Nat} (hg : B ≤ g) (o : Nat) (v0 v1 v2 v3 v4 v5 v6 v7 : Value) : Below B a (put8o w g o v0 v1 v2 v3 v4 v5 v6 v7) :=
  (((((((h.setCell hg v0).setCell hg v1).setCell hg v2).setCell hg v3).setCell hg v4).setCell hg v5).setCell hg v6).setCell hg v7

theorem infoEv : (Try.prog.info? 44).map (fun i => (i.zero, i.size, i.bytes)) = some (some (.agg #[.int .i64 0, .int .i64 0, .int .i64 0, .int .i64 0, .int .i64 0, .int .u64 0, .slice none 0 0, .slice none 0 0]), 8, 96) := by kernel_rfl
def zRow (n : Nat) : List Value := (madeCells #[.int .i64 0, .int .i64 0, .int .i64 0, .int .i64 0, .int .i64 0, .int .u64 0, .slice none 0 0, .slice none 0 0] (n * 8)).toList
theorem zRow_len (n : Nat) : (zRow n).length = n * 8 := by unfold zRow; rw [Array.length_toList]; exact size_madeCells _ _
theorem run_mkE (n : Nat) (hn : n ≤ 4000000) (w : World) : (Instr.makeSlice 27 (.int .i64 (n : Int)) (.int .i64 (n : Int))).run Try.prog w = .ok (.slice (some ⟨w.heap.size, 0, none⟩) n n) (w.alloc (.cells (zRow n).toArray 44)) := by
  obtain ⟨i0, hi, hz0, hz1, hz2⟩ := info_parts infoEv
  have h := run_make (P := Try.prog) w 27 44 i0 (.agg #[.int .i64 0, .int .i64 0, .int .i64 0, .int .i64 0, .int .i64 0, .int .u64 0, .slice none 0 0, .slice none 0 0]) Try.underlying27 hi hz0 .i64 .i64 n n (by omega) (by omega) (by rw [hz2]; omega) (by omega)
  simp only [Int.toNat_natCast] at h
  rw [h, hz1]
  unfold zRow
  rw [Array.toArray_toList]
  rfl
theorem RowBlk.some_at {t : TypeId} {w : World} {g : Nat} {vs : List Value} (h : RowBlk t w g vs) {i : Nat} (hi : i < vs.length) : ∃ u, w.cell? ⟨g, i, none⟩ = some u :=
  ⟨_, h.cell (List.getElem?_eq_getElem hi)⟩
end Go.Proofs.Ythacohejdpjjeaa
