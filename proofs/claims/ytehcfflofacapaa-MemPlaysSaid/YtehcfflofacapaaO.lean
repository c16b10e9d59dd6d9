/- Walk of the law MemOwn. -/
import Derived.Test.YtehcfflofacapaaN8
import Derived.Test.YtehcfflofacapaaN7
import Derived.Test.YtehcfflofacapaaK4
namespace Go.Proofs.Ytehcfflofacapaa
open Go.RowKit

theorem u64s_one (l : List Nat) : (u64s l).all (fun u => u.oneCell') = true := by
  rw [List.all_eq_true]
  intro v hv
  unfold u64s at hv
  obtain ⟨x, _, rfl⟩ := List.mem_map.1 hv
  rfl
theorem ucells_u64s {w : World} {b o : Nat} {l : List Nat} (h : UCells w b o l) : ∀ (j : Nat) (u : Value), (u64s l)[j]? = some u → w.cell? ⟨b, o + j, none⟩ = some u := by
  intro j v hv
  unfold u64s at hv
  rw [List.getElem?_map] at hv
  cases hx : l[j]? with
  | none => rw [hx] at hv; cases hv
  | some x =>
    rw [hx] at hv
    simp only [Option.map_some, Option.some.injEq] at hv
    subst hv
    exact h j x hx

/-- a row of n numbers, whatever they are -/
def NRow (w : World) (g n : Nat) : Prop := ∃ cur : Array Value, w.heap[g]? = some (.cells cur 22 (0, 0)) ∧ ∀ i, i < n → ∃ z : Nat, cur[i]? = some (.int .u64 (z : Int)) ∧ z < 18446744073709551616

theorem NRow.set {w : World} {g n : Nat} (h : NRow w g n) (j z : Nat) (hz : z < 18446744073709551616) : NRow (w.setCell ⟨g, j, none⟩ (.int .u64 (z : Int))) g n := by
  obtain ⟨cur, h1, h2⟩ := h
  refine ⟨_, heap_set_self h1, fun i hi => ?_⟩
  rw [Array.getElem?_setIfInBounds]
  obtain ⟨y, hy, hy2⟩ := h2 i hi
  by_cases hij : j = i
  · subst hij
    rw [if_pos rfl, if_pos (Array.getElem?_eq_some_iff.1 hy).1]
    exact ⟨z, rfl, hz⟩
  · rw [if_neg hij]
    exact ⟨y, hy, hy2⟩
theorem NRow.at {w : World} {g n i : Nat} (h : NRow w g n) (hi : i < n) : ∃ z : Nat, w.cell? ⟨g, i, none⟩ = some (.int .u64 (z : Int)) ∧ z < 18446744073709551616 ∧ w.frozen? ⟨g, i, none⟩ = false := by
  obtain ⟨cur, h1, h2⟩ := h
  obtain ⟨z, hz, hz2⟩ := h2 i hi
  exact ⟨z, cell_of_heap h1 hz, hz2, free_of_heap h1⟩
theorem NRow.of_block {w w' : World} {g n : Nat} (h : NRow w g n) (hb : w'.heap[g]? = w.heap[g]?) : NRow w' g n := by
  obtain ⟨cur, h1, h2⟩ := h
  exact ⟨cur, hb.trans h1, h2⟩
theorem NRow.of_words {w : World} {g : Nat} {l : List Nat} {cur : Array Value} (h : w.heap[g]? = some (.cells cur 22 (0, 0))) (hc : ∀ (j : Nat) (u : Value), (u64s l)[j]? = some u → cur[j]? = some u) (hl : ∀ x ∈ l, x < 18446744073709551616) : NRow w g l.length :=
  ⟨cur, h, fun i hi => ⟨l[i], hc i _ (u64s_get (List.getElem?_eq_getElem hi)), hl _ (List.getElem_mem hi)⟩⟩

set_option maxHeartbeats 800000 in
theorem own_walk (ao : Option Addr) (b o cap : Nat) (l : List Nat) (k a : Int) (x y : Nat) (w : World) (hn : l.length ≤ 9223372036854775807) (ha : 0 < l.length → ao = some ⟨b, o, none⟩) (hb : 0 < l.length → b < w.heap.size) (hc : UCells w b o l) (hcap : ao = none → cap = 0)
    (hlt : ∀ x ∈ l, x < 18446744073709551616) :
    Calls Try.prog 8 #[.slice ao l.length cap, .agg #[.int .i64 k, .int .i64 a, .int .u64 x, .int .u64 y]] w fun e w' => e = .returned (.bool true) ∧ Below w.heap.size w w' := by
  obtain ⟨i0, hi, hz0, hz1, hz2⟩ := info_parts info22
  have HA := Lib.hid ha
  have HB := Lib.hid hb
  have HC := Lib.hid hc
  have HP := Lib.hid hcap
  have HL := Lib.hid hlt
  clear ha hb hc hcap hlt
  by_cases h1 : 1000 < l.length
  · go_enter Try.func8, Try.ntmps8
    go_wp2_with fail
    refine (two_any _).mono ?_
    rintro e w1 ⟨rfl, hb1⟩
    go_wp2_with fail
    go_ret
    exact ⟨rfl, ((Below.refl _ _).alloc (Nat.le_refl _) _).trans (hb1.mono (by simp))⟩
  · have hcs : Hid (∀ (j : Nat) (u : Value), (u64s l)[j]? = some u → (w.alloc (.cells #[.int .i64 k, .int .i64 a, .int .u64 x, .int .u64 y] 59)).cell? ⟨b, o + j, none⟩ = some u) := by
      refine ucells_u64s (UCells.stays HC.out ((Below.refl w.heap.size w).alloc (Nat.le_refl _) _) HB.out)
    go_enter Try.func8, Try.ntmps8
    go_wp2_with (at_builtin; refine append_fresh rfl _ _ 37 rfl 22 i0 (.int .u64 0) 8 Try.underlying37 hi hz0 hz1 hz2 rfl (by decide) (w.heap.size + 1) (by simp) rfl ao b o cap l.length (u64s l) rfl (u64s_length l) HA.out hcs.out HP.out (u64s_one l) (by omega) ?_)
    intro g cap' cur w1 hg hcur hg1 hb1
    have hgw : w.heap.size + 1 ≤ g := by simpa using hg1
    have hgl := blk_lt hg
    have hU1 : Hid (UCells w1 g 0 l) := fun i x hx => by
      rw [Nat.zero_add]; exact cell_of_heap hg (hcur i _ (u64s_get hx))
    have hN1 : Hid (NRow w1 g l.length) := NRow.of_words hg hcur HL.out
    have hbox1 : Hid (w1.heap[w.heap.size]? = some (.cells #[.int .i64 k, .int .i64 a, .int .u64 x, .int .u64 y] 59 (0, 0))) := Lib.hid (by
      rw [hb1.block w.heap.size (by simp)]; exact heap_alloc_new _ _)
    have hB1 : Below w.heap.size w w1 := ((Below.refl _ _).alloc (Nat.le_refl _) _).trans (hb1.mono (by simp))
    clear hg hcur hg1 hb1
    go_wp2_with fail
    refine (new_ok (some ⟨g, 0, none⟩) g 0 cap' l w1 (by omega) (fun _ => rfl) (fun _ => hgl) hU1.out).mono ?_
    rintro e w2 ⟨bm, bw, rfl, hM, hbm, hbw, hb2⟩
    have HM := Lib.hid hM
    have hN2 : Hid (NRow w2 g l.length) := Lib.hid (hN1.out.of_block (hb2.block g hgl))
    have hB2 := hB1.trans (hb2.mono hB1.size)
    have hsz1 := hB1.size
    have hbox2 : Hid (w2.heap[w.heap.size]? = some (.cells #[.int .i64 k, .int .i64 a, .int .u64 x, .int .u64 y] 59 (0, 0))) := Lib.hid ((hb2.block _ (by omega)).trans hbox1.out)
    have hgl2 : g < w2.heap.size := by have := hb2.size; omega
    clear hM hb2 hN1 hbox1 hB1 hU1
    go_wp2_with fail
    go_loopw [32] (fun i wr => ∃ j : Nat, j ≤ l.length ∧ i = .int .i64 j ∧ NRow wr g l.length ∧ But g g w2 wr) (fun i _ => l.length - (intOf i).toNat)
    case atStart => exact ⟨0, Nat.zero_le _, rfl, hN2.out, But.refl _ _ _⟩
    case round =>
      obtain ⟨j, hj, rfl, hnr, hbt⟩ := hrel
      by_cases hlt : j < l.length
      · obtain ⟨z, c1, hz, f1⟩ := hnr.at hlt
        have HW : Hid (IntKind.u64.wrap ((z : Int) + 1) = (((z + 1) % 18446744073709551616 : Nat) : Int)) := Lib.hid (by rw [IntKind.wrap_u64]; omega)
        have HZ := Lib.hid (hnr.set j ((z + 1) % 18446744073709551616) (by omega))
        have HT := Lib.hid (hbt.setP j (.int .u64 (((z + 1) % 18446744073709551616 : Nat) : Int)))
        clear hnr hbt
        go_wp2
        go_roundw
        case rel => exact ⟨j + 1, by omega, by go_num, by rw [HW.out]; exact HZ.out, by rw [HW.out]; exact HT.out⟩
        case measure => simp [intOf]; omega
      · have hbmg : g < bm := by omega
        have hbwg : g < bw := by omega
        have hszr := hbt.size
        have hlt1 := HM.out.lt1
        have hlt2 := HM.out.lt2
        have HM3 : Hid (MemIs 72 wr bm bw l ⟨0, 0, 0, 0, 0⟩) := Lib.hid (HM.out.of_blocks (hbt.block bm hlt1 (by omega) (by omega)) (hbt.block bw hlt2 (by omega) (by omega)))
        have hB3 := hB2.trans (hbt.below (B := w.heap.size) (by omega) (by omega) hB2.size)
        have hbox3 : Hid (wr.heap[w.heap.size]? = some (.cells #[.int .i64 k, .int .i64 a, .int .u64 x, .int .u64 y] 59 (0, 0))) := Lib.hid ((hbt.block _ (by omega) (by omega) (by omega)).trans hbox2.out)
        clear hnr hbt hB2 hbox2 HM hN2
        go_wp2_with fail
        refine (words_ok bm bw l _ _ HM3.out (by omega)).mono ?_
        rintro e w4 ⟨rfl, hg4, hb4⟩
        have hN4 : Hid (NRow w4 wr.heap.size l.length) := Lib.hid (NRow.of_words hg4 (fun j u h => by simpa using h) HL.out)
        have HM4 : Hid (MemIs 72 w4 bm bw l ⟨0, 0, 0, 0, 0⟩) := Lib.hid (HM3.out.of_blocks (hb4.block bm HM3.out.lt1) (hb4.block bw HM3.out.lt2))
        have hsz4 : wr.heap.size < w4.heap.size := blk_lt hg4
        have hbm4 : bm < wr.heap.size := HM3.out.lt1
        have hbw4 : bw < wr.heap.size := HM3.out.lt2
        have hB4 := hB3.trans (hb4.mono hB3.size)
        have hbox4 : Hid (w4.heap[w.heap.size]? = some (.cells #[.int .i64 k, .int .i64 a, .int .u64 x, .int .u64 y] 59 (0, 0))) := Lib.hid ((hb4.block _ (by omega)).trans hbox3.out)
        obtain ⟨g4, hg4e⟩ : ∃ g4, g4 = wr.heap.size := ⟨_, rfl⟩
        rw [← hg4e] at hN4 hsz4 hbm4 hbw4
        rw [← hg4e]
        have HG4 := Lib.hid hg4e
        have hw4 : w.heap.size < g4 := by have := hB3.size; omega
        clear hg4 hb4 HM3 hB3 hbox3 hg4e
        go_wp2_with fail
        go_loopw [48] (fun i wq => ∃ j : Nat, j ≤ l.length ∧ i = .int .i64 j ∧ NRow wq g4 l.length ∧ But g4 g4 w4 wq) (fun i _ => l.length - (intOf i).toNat)
        case atStart => exact ⟨0, Nat.zero_le _, rfl, hN4.out, But.refl _ _ _⟩
        case round =>
          obtain ⟨j2, hj2, rfl, hnr, hbt⟩ := hrel
          by_cases hlt : j2 < l.length
          · obtain ⟨z, c1, hz, f1⟩ := hnr.at hlt
            have HW : Hid (IntKind.u64.wrap ((z : Int) + 2) = (((z + 2) % 18446744073709551616 : Nat) : Int)) := Lib.hid (by rw [IntKind.wrap_u64]; omega)
            have HZ := Lib.hid (hnr.set j2 ((z + 2) % 18446744073709551616) (by omega))
            have HT := Lib.hid (hbt.setP j2 (.int .u64 (((z + 2) % 18446744073709551616 : Nat) : Int)))
            clear hnr hbt
            go_wp2
            go_roundw
            case rel => exact ⟨j2 + 1, by omega, by go_num, by rw [HW.out]; exact HZ.out, by rw [HW.out]; exact HT.out⟩
            case measure => simp [intOf]; omega
          · have hszr := hbt.size
            have HM5 : Hid (MemIs 72 wr bm bw l ⟨0, 0, 0, 0, 0⟩) := Lib.hid (HM4.out.of_blocks (hbt.block bm HM4.out.lt1 (by omega) (by omega)) (hbt.block bw HM4.out.lt2 (by omega) (by omega)))
            have hB5 := hB4.trans (hbt.below (B := w.heap.size) (by omega) (by omega) hB4.size)
            have hbox5 : Hid (wr.heap[w.heap.size]? = some (.cells #[.int .i64 k, .int .i64 a, .int .u64 x, .int .u64 y] 59 (0, 0))) := Lib.hid ((hbt.block _ (by omega) (by omega) (by omega)).trans hbox4.out)
            clear hnr hbt hB4 hbox4 HM4 hN4
            go_wp2_with fail
            refine (words_ok bm bw l _ _ HM5.out (by omega)).mono ?_
            rintro e w6 ⟨rfl, hg6, hb6⟩
            have hU6 : Hid (UCells w6 wr.heap.size 0 l) := Lib.hid (ucells_of_block hg6)
            have hB6 := hB5.trans (hb6.mono hB5.size)
            have hV6 : Hid (UCells w6 b o l) := Lib.hid (HC.out.stays hB6 HB.out)
            have hbox6 : Hid (w6.heap[w.heap.size]? = some (.cells #[.int .i64 k, .int .i64 a, .int .u64 x, .int .u64 y] 59 (0, 0))) := Lib.hid ((hb6.block _ (by have := hB5.size; omega)).trans hbox5.out)
            clear hg6 hb6 HM5 hB5 hbox5
            go_wp2_with fail
            refine (same_yes (some ⟨wr.heap.size, 0, none⟩) ao wr.heap.size 0 l.length b o cap l _ hn (fun _ => rfl) HA.out hU6.out hV6.out).mono ?_
            rintro e w7 ⟨rfl, m, rfl⟩
            have hbb := hbox6.out
            have k0 := cell_of_heap (k := 0) hbb rfl
            have k1 := cell_of_heap (k := 1) hbb rfl
            have k2 := cell_of_heap (k := 2) hbb rfl
            have k3 := cell_of_heap (k := 3) hbb rfl
            have hlt6 := blk_lt hbb
            clear hbb
            go_wp2_with fail
            refine (do_nil k a x y _).mono ?_
            rintro e w8 ⟨rfl, hb8⟩
            have hB8 := (below_drewN hB6 m).trans (hb8.mono (by have := hB6.size; simp; omega))
            clear hb8 hB6
            go_wp2_with fail
            refine (len_nil _).mono ?_
            rintro e w9 ⟨rfl, rfl⟩
            go_wp2_with fail
            refine (words_nil _).mono ?_
            rintro e w9 ⟨rfl, rfl⟩
            go_wp2_with fail
            refine (counts_nil _).mono ?_
            rintro e w9 ⟨rfl, hb9⟩
            have hB9 := hB8.trans (hb9.mono hB8.size)
            go_wp2_with fail
            refine (two_any _).mono ?_
            rintro e w10 ⟨rfl, hb10⟩
            have hB10 := hB9.trans (hb10.mono hB9.size)
            go_wp2_with fail
            go_ret
            exact ⟨rfl, hB10⟩
end Go.Proofs.Ytehcfflofacapaa
