/- Walks of keys: sorted and Order. -/
import Derived.Test.YtlagfdbemmhahaaV6
import Derived.Test.YtlagfdbemmhahaaShelf
import Derived.Laws.MakeOwn
import Derived.Laws.OwnMore
namespace Go.Proofs.Ytlagfdbemmhahaa
open Go.RowKit

theorem infoIv : (Try.prog.info? 3).map (fun i => (i.zero, i.size, i.bytes)) = some (some (.int .i64 0), 1, 8) := by kernel_rfl
theorem run_mkI (n : Nat) (hn : n ≤ 4294967296) (w : World) : (Instr.makeSlice 22 (.int .i64 (n : Int)) (.int .i64 (n : Int))).run Try.prog w = .ok (.slice (some ⟨w.heap.size, 0, none⟩) n n) (w.alloc (.cells (List.replicate n (Value.int .i64 0)).toArray 3)) := by
  obtain ⟨i0, hi, hz0, hz1, hz2⟩ := info_parts infoIv
  have h := run_make (P := Try.prog) w 22 3 i0 (.int .i64 0) Try.underlying22 hi hz0 .i64 .i64 n n (by omega) (by omega) (by rw [hz2]; omega) (by omega)
  simp only [Int.toNat_natCast] at h
  rw [h, hz1, Nat.mul_one, ← toList_madeCells_one, Array.toArray_toList]
  rfl

/-- block g has just these cells -/
def BlkIs (w : World) (g : Nat) (cur : Array Value) : Prop := w.heap[g]? = some (.cells cur 3 (0, 0))
theorem BlkIs.cell {w : World} {g i : Nat} {cur : Array Value} {v : Value} (h : BlkIs w g cur) (hi : cur[i]? = some v) : w.cell? ⟨g, i, none⟩ = some v := by
  rw [cell_of_row w g i cur _ (0, 0) h]; exact hi
theorem BlkIs.free {w : World} {g i : Nat} {cur : Array Value} (h : BlkIs w g cur) : w.frozen? ⟨g, i, none⟩ = false := by
  unfold BlkIs at h; simp [World.frozen?, h]
theorem BlkIs.put {w : World} {g : Nat} {cur : Array Value} (h : BlkIs w g cur) (i : Nat) (v : Value) : BlkIs (w.setCell ⟨g, i, none⟩ v) g (cur.setIfInBounds i v) := by
  unfold BlkIs at h ⊢; simp [World.setCell, Array.getElem?_modify, h]
theorem BlkIs.lt {w : World} {g : Nat} {cur : Array Value} (h : BlkIs w g cur) : g < w.heap.size := by
  rcases Nat.lt_or_ge g w.heap.size with h' | h'
  · exact h'
  · unfold BlkIs at h; rw [Array.getElem?_eq_none h'] at h; cases h

/-- the first j are their own places -/
def Iota (n j : Nat) (cur : Array Value) : Prop := cur.size = n ∧ (∀ i, i < j → i < n → cur[i]? = some (Value.int .i64 (i : Int))) ∧ ∀ i, i < n → ∃ v, cur[i]? = some v
theorem Iota.zero (n : Nat) : Iota n 0 (List.replicate n (Value.int .i64 0)).toArray :=
  ⟨by simp, fun i h => absurd h (by omega), fun i h => ⟨_, by simp [h]; rfl⟩⟩
theorem Iota.next {n j : Nat} {cur : Array Value} (h : Iota n j cur) (hj : j < n) : Iota n (j + 1) (cur.setIfInBounds j (.int .i64 (j : Int))) := by
  obtain ⟨h1, h2, h3⟩ := h
  refine ⟨by simpa using h1, fun i hi hn => ?_, fun i hn => ?_⟩
  · rw [Array.getElem?_setIfInBounds]
    by_cases he : j = i
    · subst he; rw [if_pos rfl, if_pos (by omega)]
    · rw [if_neg he]; exact h2 i (by omega) hn
  · rw [Array.getElem?_setIfInBounds]
    by_cases he : j = i
    · subst he; exact ⟨_, by rw [if_pos rfl, if_pos (by omega)]⟩
    · rw [if_neg he]; exact h3 i hn

/-- a world of the sort's, where what lies below B is as it was -/
theorem below_sort {α : Type} [Inhabited α] {enc : α → Value} {w w1 : World} {B g m : Nat} {dk : Array α} {os : Array Obj} (h : Below B w w1) (hg : B ≤ g) (hs : B ≤ w1.heap.size) : Below B w (sortWorld enc w1 g 0 m dk os) := by
  refine ⟨h.os, h.tape, h.output, ?_, fun k hk => ?_⟩
  · unfold sortWorld
    rw [Go.Sort.size_grow, Go.Sort.size_putRow]
    have := h.size
    exact Nat.le_trans this (Nat.le_add_right _ _)
  · rw [← h.block k hk]
    unfold sortWorld
    rw [Go.Sort.heap_grow_old _ _ (by rw [Go.Sort.size_putRow]; exact Nat.lt_of_lt_of_le hk hs)]
    show ((Go.Sort.ahead w1 m).heap.modify g _)[k]? = _
    rw [Array.getElem?_modify, if_neg (by omega)]
    rfl

/-- an index as a value -/
def encF {n : Nat} (x : Fin n) : Value := .int .i64 (x.val : Int)
theorem swoF (ls : List (List Int)) (n : Nat) : Go.Sort.SWO (ltOf fun x y : Fin n => cfI ls x y) where
  irrefl x := ltB_irrefl ls x
  trans x y z h1 h2 := ltB_trans ls (i := x) (j := y) (k := z) h1 h2
  ntrans x y z h1 h2 := ltB_ntrans ls (i := x) (j := y) (k := z) h1 h2

/-- what sorted leaves -/
def SortedPost (ls : List (List Int)) (w : World) (e : Ending) (w' : World) : Prop :=
  e = .returned (.slice (some ⟨w.heap.size, 0, none⟩) ls.length ls.length) ∧ (∀ i, i < ls.length → w'.cell? ⟨w.heap.size, rank ls i, none⟩ = some (.int .i64 (i : Int))) ∧ w.heap.size < w'.heap.size ∧ Below w.heap.size w w'

theorem enters23 : ∀ args w, (callFunc 23 args).run Try.prog w = .ok (.enter 23 args) w := enters_of Try.func23 (by kernel_rfl) rfl

/-- the sort, at the row of the places -/
theorem sort_any (bx B b o cap g : Nat) (ls : List (List Int)) (cur : Array Value) (w w1 : World) (h0 : 0 < ls.length) (hsz : ls.length ≤ 4294967296) (hb : Below B w w1) (hB : bx < B) (hB2 : b < B) (hg : B ≤ g) (hw : B ≤ w.heap.size)
    (hbx : w.cell? ⟨bx, 0, none⟩ = some (.slice (some ⟨b, o, none⟩) ls.length cap)) (hL : LCells w B b o ls) (hI : Iota ls.length ls.length cur) (hG : BlkIs w1 g cur) :
    Calls Try.prog 26 #[.slice (some ⟨g, 0, none⟩) ls.length ls.length, .func (.func 23) #[] #[.pointer (some ⟨bx, 0, none⟩)]] w1 fun e w' =>
      e = .returned (.tuple #[]) ∧ (∀ i, i < ls.length → w'.cell? ⟨g, rank ls i, none⟩ = some (.int .i64 (i : Int))) ∧ g < w'.heap.size ∧ Below B w w' := by
  haveI : Inhabited (Fin ls.length) := ⟨⟨0, h0⟩⟩
  have hd : ((List.finRange ls.length).toArray).size = ls.length := by simp
  have hget : ∀ j, (h : j < ls.length) → ((List.finRange ls.length).toArray)[j]! = ⟨j, h⟩ := fun j h => by
    rw [getElem!_pos _ j (by simpa using h)]; simp
  have hH : Go.Sort.Holds encF w1 g 0 (List.finRange ls.length).toArray := by
    intro j hj
    rw [hd] at hj
    rw [hget j hj, Nat.zero_add]
    exact ⟨hG.cell (hI.2.1 j hj hj), hG.free⟩
  have hsz1 := hb.size
  have hcmp : CmpLays1 Try.prog 23 #[.pointer (some ⟨bx, 0, none⟩)] encF (fun x y : Fin ls.length => cfI ls x y) g 0 (List.finRange ls.length).toArray.size w1 := by
    intro m os dk _ x y
    have hbl : Below B w (sortWorld encF w1 g 0 m dk os) := below_sort hb hg (by omega)
    exact idx_any bx B b o cap ls x y _ x.isLt y.isLt ((hbl.cell (p := ⟨bx, 0, none⟩) hB).trans hbx) (hL.stays hbl (fun _ => hB2))
  have hS := Try.slices_SortFunc_total encF (fun _ => rfl) (fun x y : Fin ls.length => cfI ls x y) (swoF ls _) 23 #[.pointer (some ⟨bx, 0, none⟩)] g 0 ls.length (List.finRange ls.length).toArray w1
    enters23 hcmp hH hG.lt (by rw [hd]; omega) (fun x y h1 h2 => Fin.ext (ltB_total ls (i := x) (j := y) h1 h2))
  rw [hd] at hS
  refine hS.mono fun e w' ⟨he, n, os, hw⟩ => ⟨he, ?_, ?_, ?_⟩
  · intro i hi
    have hp : (((List.finRange ls.length).mergeSort fun x y => !(ltOf fun x y : Fin ls.length => cfI ls x y) y x)).Perm (List.finRange ls.length) := List.mergeSort_perm _ _
    have hs := List.pairwise_mergeSort (le := fun x y : Fin ls.length => !(ltOf fun x y : Fin ls.length => cfI ls x y) y x)
      (fun x y z h1 h2 => by
        simp only [Bool.not_eq_true'] at *
        exact ltB_ntrans ls (i := z) (j := y) (k := x) h2 h1)
      (fun x y => by
        cases h : (ltOf fun x y : Fin ls.length => cfI ls x y) y x with
        | false => rfl
        | true =>
          cases h2 : (ltOf fun x y : Fin ls.length => cfI ls x y) x y with
          | false => rfl
          | true =>
            have h3 := ltB_trans ls (i := x) (j := y) (k := x) h2 h
            rw [ltB_irrefl] at h3; cases h3) (List.finRange ls.length)
    have hpl := place_of ls rfl _ hp (hs.imp (fun {x y : Fin ls.length} h => (Bool.not_eq_true' (ltB ls y x)).mp h)) ⟨i, hi⟩
    rw [hw]
    have hlen : ((List.finRange ls.length).mergeSort fun x y => !(ltOf fun x y : Fin ls.length => cfI ls x y) y x).length = ls.length := by rw [List.length_mergeSort]; simp
    have hto : (List.finRange ls.length).toArray.toList = List.finRange ls.length := by simp
    rw [hto]
    generalize ((List.finRange ls.length).mergeSort fun x y => !(ltOf fun x y : Fin ls.length => cfI ls x y) y x) = s at hpl hlen ⊢
    have hr := (List.getElem?_eq_some_iff.1 hpl).1
    unfold sortWorld
    rw [Go.Sort.cell?_grow _ _ _ (by rw [Go.Sort.size_putRow]; exact hG.lt)]
    have hH2 : Go.Sort.Holds encF (Go.Sort.ahead w1 n) g 0 (List.finRange ls.length).toArray := hH
    have h1 := Go.Sort.cell?_putRow encF (Go.Sort.ahead w1 n) g 0 _ s.toArray hH2 (by simp [hlen]) (rank ls i) (by simpa using hr)
    rw [Nat.zero_add] at h1
    rw [h1, getElem!_pos _ _ (by simpa using hr)]
    have h2 := (List.getElem?_eq_some_iff.1 hpl).2
    simp only [List.getElem_toArray, h2]
    rfl
  · rw [hw]
    unfold sortWorld
    rw [Go.Sort.size_grow, Go.Sort.size_putRow]
    have := hG.lt
    exact Nat.lt_of_lt_of_le this (Nat.le_add_right _ _)
  · rw [hw]
    exact below_sort hb hg (by omega)

set_option maxHeartbeats 400000 in
theorem sorted_any (bx b o cap : Nat) (ls : List (List Int)) (w : World) (h0 : 0 < ls.length) (hsz : ls.length ≤ 4294967296) (hB : bx < w.heap.size) (hB2 : b < w.heap.size)
    (hbx : w.cell? ⟨bx, 0, none⟩ = some (.slice (some ⟨b, o, none⟩) ls.length cap)) (hL : LCells w w.heap.size b o ls) :
    Calls Try.prog 22 #[.int .i64 ls.length, .func (.func 23) #[] #[.pointer (some ⟨bx, 0, none⟩)]] w (SortedPost ls w) := by
  have hmk := run_mkI ls.length hsz
  have HS := Lib.hid (fun cur w1 h1 h2 h3 => sort_any bx w.heap.size b o cap w.heap.size ls cur w w1 h0 hsz h1 hB hB2 (Nat.le_refl _) (Nat.le_refl _) hbx hL h2 h3)
  clear hbx hL
  go_enter Try.func22, Try.ntmps22
  go_wp2_with fail
  go_loopw [11] (fun k wr => ∃ (j : Nat) (cur : Array Value), j ≤ ls.length ∧ k = .int .i64 j ∧ Hid (Iota ls.length j cur) ∧ Hid (BlkIs wr w.heap.size cur) ∧ Hid (Below w.heap.size w wr)) (fun k _ => ls.length - (intOf k).toNat)
  case atStart => exact ⟨0, _, Nat.zero_le _, rfl, Lib.hid (Iota.zero _), Lib.hid (heap_alloc_new w _), Lib.hid ((Below.refl _ _).alloc (Nat.le_refl _) _)⟩
  case round =>
    obtain ⟨j, cur, hj, rfl, HI, HG, HB⟩ := hrel
    by_cases hlt : j < ls.length
    · obtain ⟨v, hv⟩ := HI.out.2.2 j hlt
      have c1 := HG.out.cell hv
      have f1 := HG.out.free (i := j)
      clear hv
      go_wp2_with fail
      go_roundw
      case rel => exact ⟨j + 1, _, by omega, by go_num, Lib.hid (HI.out.next hlt), Lib.hid (HG.out.put j _), Lib.hid (HB.out.setCell (Nat.le_refl _) _)⟩
      case measure => simp [intOf]; omega
    · have : j = ls.length := by omega
      subst this
      have HC := Lib.hid (HS.out cur wr HB.out HI.out HG.out)
      go_wp2_with fail
      refine HC.out.mono ?_
      rintro e w2 ⟨rfl, h2, h3, h4⟩
      have H2 := Lib.hid h2
      clear h2
      go_wp2_with fail
      go_ret
      exact ⟨rfl, H2.out, h3, h4⟩
end Go.Proofs.Ytlagfdbemmhahaa
