/- The reference's Apply. -/
import Derived.Test.YtlcnhmijagddgaaSM
import Derived.RegionTactic
namespace Go.Proofs.Ytlcnhmijagddgaa
open Go.ChangeShapes Go.WideShapes Go.ChangeAt Go.RowKit
set_option linter.unusedVariables false
set_option linter.unusedSimpArgs false

theorem put3_alloc {w : World} {b : Nat} {t : TypeId} {u0 u1 u2 : Value} (h : w.heap[b]? = some (.cells #[u0, u1, u2] t (0, 0))) (x y z s : Value) (e : TypeId) :
    let W := (((w.setCell ⟨b, 0, none⟩ x).setCell ⟨b, 1, none⟩ y).setCell ⟨b, 2, none⟩ z).alloc (.cells #[s] e)
    W.cell? ⟨b, 0, none⟩ = some x ∧ W.cell? ⟨b, 1, none⟩ = some y ∧ W.cell? ⟨b, 2, none⟩ = some z ∧ W.cell? ⟨w.heap.size, 0, none⟩ = some s := by
  have hlt := blk_lt h
  have e3 : (((w.setCell ⟨b, 0, none⟩ x).setCell ⟨b, 1, none⟩ y).setCell ⟨b, 2, none⟩ z).heap[b]? = some (.cells #[x, y, z] t (0, 0)) :=
    heap_setCell_same _ _ _ #[x, y, u2] _ _ (heap_setCell_same _ _ _ #[x, u1, u2] _ _ (heap_setCell_same _ _ _ #[u0, u1, u2] _ _ h))
  have hs : (((w.setCell ⟨b, 0, none⟩ x).setCell ⟨b, 1, none⟩ y).setCell ⟨b, 2, none⟩ z).heap.size = w.heap.size := by simp [World.setCell]
  have e4 := (Below.heap_alloc (((w.setCell ⟨b, 0, none⟩ x).setCell ⟨b, 1, none⟩ y).setCell ⟨b, 2, none⟩ z) (.cells #[s] e) b (by rw [hs]; exact hlt)).trans e3
  exact ⟨cell_of_blk e4 rfl, cell_of_blk e4 rfl, cell_of_blk e4 rfl, World.cell?_alloc_at _ _ _ _ hs.symm⟩

set_option maxRecDepth 100000 in
set_option maxHeartbeats 1000000 in
theorem ref_0_0 (x : Nat) (v : Value) (a : Nat) (w : World) (ha : a < 18446744073709551616) (h : ArgW w v [x]) (hx : x < 18446744073709551616) :
    Calls Try.prog 15 #[.int .i64 0, v, .int .i64 0, .int .u64 (a : Int)] w (DnP w.heap.size w ([x], x, 0)) := by
  obtain ⟨l, hL⟩ : ∃ l, l = [x] := ⟨_, rfl⟩
  rw [← hL] at h
  have hl : l.length ≤ 4294967296 := by rw [hL]; simp
  obtain ⟨iI, ia, ib, ic, id⟩ := info_parts info22
  obtain ⟨ao, b, o, cap0, rfl, ha0, hn0, hc0⟩ := h
  have HA := Lib.hid ha0
  have HS : Hid (∀ (j : Nat) (u : Value), (l.map wU)[j]? = some u → (w.alloc doneO).cell? ⟨b, o + j, none⟩ = some u) := Lib.hid (fun j u hu => by
    rw [List.getElem?_map] at hu
    obtain ⟨x, hx, rfl⟩ := Option.map_eq_some_iff.1 hu
    have h1 := hc0 j x hx
    rw [World.cell?_alloc_past _ _ _ (World.block_lt_of_cell? w _ h1)]
    exact h1)
  have HN := Lib.hid hn0
  have HONE := Lib.hid (wU_one l)
  have HLEN : Hid ((l.map wU).length = l.length) := Lib.hid (by simp)
  clear ha0 hc0 hn0
  go_enter Try.func15, Try.ntmps15
  go_wp2_with (at_builtin; refine append_fresh_own (w := w.alloc doneO) rfl _ _ 22 rfl 29 iI (.int .u64 0) 8 Try.underlying22 ia ib ic id rfl (by decide) (w.heap.size + 1) (by simp) rfl ao b o cap0 l.length (l.map wU) rfl HLEN.out HA.out HS.out HN.out HONE.out hl ?_)
  intro v1 w1 how hnn hbl
  have HO : Hid (OwnW w1 (w.heap.size + 1) v1 l) := Lib.hid (by unfold OwnW; first | (simpa using how) | (rw [hL]; simpa using how) | (rw [hL, he]; simpa using how))
  have hbk : w1.heap[w.heap.size]? = some doneO := (hbl.block _ (by simp)).trans (heap_alloc_new _ _)
  have HB1 : Hid (Below w.heap.size w w1) := Lib.hid (((Below.refl _ _).alloc (Nat.le_refl _) _).trans (hbl.mono (by simp)))
  have k0 : w1.cell? ⟨w.heap.size, 0, none⟩ = some (.slice none 0 0) := cell_of_blk (k := 0) hbk rfl
  have k1 : w1.cell? ⟨w.heap.size, 1, none⟩ = some (.int .i64 0) := cell_of_blk (k := 1) hbk rfl
  have k2 : w1.cell? ⟨w.heap.size, 2, none⟩ = some (.int .u64 0) := cell_of_blk (k := 2) hbk rfl
  have z0 := free_of_blk (k := 0) hbk
  have z1 := free_of_blk (k := 1) hbk
  have z2 := free_of_blk (k := 2) hbk
  have hwl := blk_lt hbk
  have HBK : Hid (w1.heap[w.heap.size]? = some doneO) := Lib.hid hbk
  clear how hnn hbl hbk HA HS HN HONE HLEN
  subst hL
  obtain ⟨g, cap, rfl, hg, hlt, hc, hf⟩ := HO.out.opened (by simp)
  have d0 := hc 0 x rfl
  simp only [List.length_singleton] at *
  clear hc hf
  go_wp2_with fail
  refine bodyPost_ret (v := .agg #[.slice (some ⟨g, 0, none⟩) 1 cap, .int .i64 0, .int .u64 (x : Int)]) (by simp [results, Try.results15, go_sem, k0, k1, k2]) rfl ⟨_, rfl, (own_put3 HO.out (by omega) _ _ _).argB.mono (by omega), below_put3 HB1.out _ _ _⟩

set_option maxRecDepth 100000 in
set_option maxHeartbeats 1000000 in
theorem ref_1_0 (x : Nat) (v : Value) (a : Nat) (w : World) (ha : a < 18446744073709551616) (h : ArgW w v [x]) (hx : x < 18446744073709551616) :
    Calls Try.prog 15 #[.int .i64 1, v, .int .i64 0, .int .u64 (a : Int)] w (DnP w.heap.size w ([x], x, 0)) := by
  obtain ⟨l, hL⟩ : ∃ l, l = [x] := ⟨_, rfl⟩
  rw [← hL] at h
  have hl : l.length ≤ 4294967296 := by rw [hL]; simp
  obtain ⟨iI, ia, ib, ic, id⟩ := info_parts info22
  obtain ⟨ao, b, o, cap0, rfl, ha0, hn0, hc0⟩ := h
  have HA := Lib.hid ha0
  have HS : Hid (∀ (j : Nat) (u : Value), (l.map wU)[j]? = some u → (w.alloc doneO).cell? ⟨b, o + j, none⟩ = some u) := Lib.hid (fun j u hu => by
    rw [List.getElem?_map] at hu
    obtain ⟨x, hx, rfl⟩ := Option.map_eq_some_iff.1 hu
    have h1 := hc0 j x hx
    rw [World.cell?_alloc_past _ _ _ (World.block_lt_of_cell? w _ h1)]
    exact h1)
  have HN := Lib.hid hn0
  have HONE := Lib.hid (wU_one l)
  have HLEN : Hid ((l.map wU).length = l.length) := Lib.hid (by simp)
  clear ha0 hc0 hn0
  go_enter Try.func15, Try.ntmps15
  go_wp2_with (at_builtin; refine append_fresh_own (w := w.alloc doneO) rfl _ _ 22 rfl 29 iI (.int .u64 0) 8 Try.underlying22 ia ib ic id rfl (by decide) (w.heap.size + 1) (by simp) rfl ao b o cap0 l.length (l.map wU) rfl HLEN.out HA.out HS.out HN.out HONE.out hl ?_)
  intro v1 w1 how hnn hbl
  have HO : Hid (OwnW w1 (w.heap.size + 1) v1 l) := Lib.hid (by unfold OwnW; first | (simpa using how) | (rw [hL]; simpa using how) | (rw [hL, he]; simpa using how))
  have hbk : w1.heap[w.heap.size]? = some doneO := (hbl.block _ (by simp)).trans (heap_alloc_new _ _)
  have HB1 : Hid (Below w.heap.size w w1) := Lib.hid (((Below.refl _ _).alloc (Nat.le_refl _) _).trans (hbl.mono (by simp)))
  have k0 : w1.cell? ⟨w.heap.size, 0, none⟩ = some (.slice none 0 0) := cell_of_blk (k := 0) hbk rfl
  have k1 : w1.cell? ⟨w.heap.size, 1, none⟩ = some (.int .i64 0) := cell_of_blk (k := 1) hbk rfl
  have k2 : w1.cell? ⟨w.heap.size, 2, none⟩ = some (.int .u64 0) := cell_of_blk (k := 2) hbk rfl
  have z0 := free_of_blk (k := 0) hbk
  have z1 := free_of_blk (k := 1) hbk
  have z2 := free_of_blk (k := 2) hbk
  have hwl := blk_lt hbk
  have HBK : Hid (w1.heap[w.heap.size]? = some doneO) := Lib.hid hbk
  clear how hnn hbl hbk HA HS HN HONE HLEN
  subst hL
  obtain ⟨g, cap, rfl, hg, hlt, hc, hf⟩ := HO.out.opened (by simp)
  have d0 := hc 0 x rfl
  simp only [List.length_singleton] at *
  clear hc hf
  go_wp2_with fail
  refine bodyPost_ret (v := .agg #[.slice (some ⟨g, 0, none⟩) 1 cap, .int .i64 0, .int .u64 (x : Int)]) (by simp [results, Try.results15, go_sem, k0, k1, k2]) rfl ⟨_, rfl, (own_put3 HO.out (by omega) _ _ _).argB.mono (by omega), below_put3 HB1.out _ _ _⟩

set_option maxRecDepth 100000 in
set_option maxHeartbeats 1000000 in
theorem ref_5_0 (x : Nat) (v : Value) (a : Nat) (w : World) (ha : a < 18446744073709551616) (h : ArgW w v [x]) (hx : x < 18446744073709551616) :
    Calls Try.prog 15 #[.int .i64 5, v, .int .i64 0, .int .u64 (a : Int)] w (DnP w.heap.size w ([x], x, 0)) := by
  obtain ⟨l, hL⟩ : ∃ l, l = [x] := ⟨_, rfl⟩
  rw [← hL] at h
  have hl : l.length ≤ 4294967296 := by rw [hL]; simp
  obtain ⟨iI, ia, ib, ic, id⟩ := info_parts info22
  obtain ⟨ao, b, o, cap0, rfl, ha0, hn0, hc0⟩ := h
  have HA := Lib.hid ha0
  have HS : Hid (∀ (j : Nat) (u : Value), (l.map wU)[j]? = some u → (w.alloc doneO).cell? ⟨b, o + j, none⟩ = some u) := Lib.hid (fun j u hu => by
    rw [List.getElem?_map] at hu
    obtain ⟨x, hx, rfl⟩ := Option.map_eq_some_iff.1 hu
    have h1 := hc0 j x hx
    rw [World.cell?_alloc_past _ _ _ (World.block_lt_of_cell? w _ h1)]
    exact h1)
  have HN := Lib.hid hn0
  have HONE := Lib.hid (wU_one l)
  have HLEN : Hid ((l.map wU).length = l.length) := Lib.hid (by simp)
  clear ha0 hc0 hn0
  go_enter Try.func15, Try.ntmps15
  go_wp2_with (at_builtin; refine append_fresh_own (w := w.alloc doneO) rfl _ _ 22 rfl 29 iI (.int .u64 0) 8 Try.underlying22 ia ib ic id rfl (by decide) (w.heap.size + 1) (by simp) rfl ao b o cap0 l.length (l.map wU) rfl HLEN.out HA.out HS.out HN.out HONE.out hl ?_)
  intro v1 w1 how hnn hbl
  have HO : Hid (OwnW w1 (w.heap.size + 1) v1 l) := Lib.hid (by unfold OwnW; first | (simpa using how) | (rw [hL]; simpa using how) | (rw [hL, he]; simpa using how))
  have hbk : w1.heap[w.heap.size]? = some doneO := (hbl.block _ (by simp)).trans (heap_alloc_new _ _)
  have HB1 : Hid (Below w.heap.size w w1) := Lib.hid (((Below.refl _ _).alloc (Nat.le_refl _) _).trans (hbl.mono (by simp)))
  have k0 : w1.cell? ⟨w.heap.size, 0, none⟩ = some (.slice none 0 0) := cell_of_blk (k := 0) hbk rfl
  have k1 : w1.cell? ⟨w.heap.size, 1, none⟩ = some (.int .i64 0) := cell_of_blk (k := 1) hbk rfl
  have k2 : w1.cell? ⟨w.heap.size, 2, none⟩ = some (.int .u64 0) := cell_of_blk (k := 2) hbk rfl
  have z0 := free_of_blk (k := 0) hbk
  have z1 := free_of_blk (k := 1) hbk
  have z2 := free_of_blk (k := 2) hbk
  have hwl := blk_lt hbk
  have HBK : Hid (w1.heap[w.heap.size]? = some doneO) := Lib.hid hbk
  clear how hnn hbl hbk HA HS HN HONE HLEN
  subst hL
  obtain ⟨g, cap, rfl, hg, hlt, hc, hf⟩ := HO.out.opened (by simp)
  have d0 := hc 0 x rfl
  simp only [List.length_singleton] at *
  clear hc hf
  go_wp2_with fail
  refine bodyPost_ret (v := .agg #[.slice (some ⟨g, 0, none⟩) 1 cap, .int .i64 0, .int .u64 (x : Int)]) (by simp [results, Try.results15, go_sem, k0, k1, k2]) rfl ⟨_, rfl, (own_put3 HO.out (by omega) _ _ _).argB.mono (by omega), below_put3 HB1.out _ _ _⟩

set_option maxRecDepth 100000 in
set_option maxHeartbeats 1000000 in
theorem ref_6_0 (x : Nat) (v : Value) (a : Nat) (w : World) (ha : a < 18446744073709551616) (h : ArgW w v [x]) (hx : x < 18446744073709551616) :
    Calls Try.prog 15 #[.int .i64 6, v, .int .i64 0, .int .u64 (a : Int)] w (DnP w.heap.size w ([x], x, 0)) := by
  obtain ⟨l, hL⟩ : ∃ l, l = [x] := ⟨_, rfl⟩
  rw [← hL] at h
  have hl : l.length ≤ 4294967296 := by rw [hL]; simp
  obtain ⟨iI, ia, ib, ic, id⟩ := info_parts info22
  obtain ⟨ao, b, o, cap0, rfl, ha0, hn0, hc0⟩ := h
  have HA := Lib.hid ha0
  have HS : Hid (∀ (j : Nat) (u : Value), (l.map wU)[j]? = some u → (w.alloc doneO).cell? ⟨b, o + j, none⟩ = some u) := Lib.hid (fun j u hu => by
    rw [List.getElem?_map] at hu
    obtain ⟨x, hx, rfl⟩ := Option.map_eq_some_iff.1 hu
    have h1 := hc0 j x hx
    rw [World.cell?_alloc_past _ _ _ (World.block_lt_of_cell? w _ h1)]
    exact h1)
  have HN := Lib.hid hn0
  have HONE := Lib.hid (wU_one l)
  have HLEN : Hid ((l.map wU).length = l.length) := Lib.hid (by simp)
  clear ha0 hc0 hn0
  go_enter Try.func15, Try.ntmps15
  go_wp2_with (at_builtin; refine append_fresh_own (w := w.alloc doneO) rfl _ _ 22 rfl 29 iI (.int .u64 0) 8 Try.underlying22 ia ib ic id rfl (by decide) (w.heap.size + 1) (by simp) rfl ao b o cap0 l.length (l.map wU) rfl HLEN.out HA.out HS.out HN.out HONE.out hl ?_)
  intro v1 w1 how hnn hbl
  have HO : Hid (OwnW w1 (w.heap.size + 1) v1 l) := Lib.hid (by unfold OwnW; first | (simpa using how) | (rw [hL]; simpa using how) | (rw [hL, he]; simpa using how))
  have hbk : w1.heap[w.heap.size]? = some doneO := (hbl.block _ (by simp)).trans (heap_alloc_new _ _)
  have HB1 : Hid (Below w.heap.size w w1) := Lib.hid (((Below.refl _ _).alloc (Nat.le_refl _) _).trans (hbl.mono (by simp)))
  have k0 : w1.cell? ⟨w.heap.size, 0, none⟩ = some (.slice none 0 0) := cell_of_blk (k := 0) hbk rfl
  have k1 : w1.cell? ⟨w.heap.size, 1, none⟩ = some (.int .i64 0) := cell_of_blk (k := 1) hbk rfl
  have k2 : w1.cell? ⟨w.heap.size, 2, none⟩ = some (.int .u64 0) := cell_of_blk (k := 2) hbk rfl
  have z0 := free_of_blk (k := 0) hbk
  have z1 := free_of_blk (k := 1) hbk
  have z2 := free_of_blk (k := 2) hbk
  have hwl := blk_lt hbk
  have HBK : Hid (w1.heap[w.heap.size]? = some doneO) := Lib.hid hbk
  clear how hnn hbl hbk HA HS HN HONE HLEN
  subst hL
  obtain ⟨g, cap, rfl, hg, hlt, hc, hf⟩ := HO.out.opened (by simp)
  have d0 := hc 0 x rfl
  simp only [List.length_singleton] at *
  clear hc hf
  go_wp2_with fail
  refine bodyPost_ret (v := .agg #[.slice (some ⟨g, 0, none⟩) 1 cap, .int .i64 0, .int .u64 (x : Int)]) (by simp [results, Try.results15, go_sem, k0, k1, k2]) rfl ⟨_, rfl, (own_put3 HO.out (by omega) _ _ _).argB.mono (by omega), below_put3 HB1.out _ _ _⟩

set_option maxRecDepth 100000 in
set_option maxHeartbeats 1000000 in
theorem ref_0_1 (x : Nat) (v : Value) (a : Nat) (w : World) (ha : a < 18446744073709551616) (h : ArgW w v [x]) (hx : x < 18446744073709551616) :
    Calls Try.prog 15 #[.int .i64 0, v, .int .i64 1, .int .u64 (a : Int)] w (DnP w.heap.size w ([a], x, 0)) := by
  obtain ⟨l, hL⟩ : ∃ l, l = [x] := ⟨_, rfl⟩
  rw [← hL] at h
  have hl : l.length ≤ 4294967296 := by rw [hL]; simp
  obtain ⟨iI, ia, ib, ic, id⟩ := info_parts info22
  obtain ⟨ao, b, o, cap0, rfl, ha0, hn0, hc0⟩ := h
  have HA := Lib.hid ha0
  have HS : Hid (∀ (j : Nat) (u : Value), (l.map wU)[j]? = some u → (w.alloc doneO).cell? ⟨b, o + j, none⟩ = some u) := Lib.hid (fun j u hu => by
    rw [List.getElem?_map] at hu
    obtain ⟨x, hx, rfl⟩ := Option.map_eq_some_iff.1 hu
    have h1 := hc0 j x hx
    rw [World.cell?_alloc_past _ _ _ (World.block_lt_of_cell? w _ h1)]
    exact h1)
  have HN := Lib.hid hn0
  have HONE := Lib.hid (wU_one l)
  have HLEN : Hid ((l.map wU).length = l.length) := Lib.hid (by simp)
  clear ha0 hc0 hn0
  go_enter Try.func15, Try.ntmps15
  go_wp2_with (at_builtin; refine append_fresh_own (w := w.alloc doneO) rfl _ _ 22 rfl 29 iI (.int .u64 0) 8 Try.underlying22 ia ib ic id rfl (by decide) (w.heap.size + 1) (by simp) rfl ao b o cap0 l.length (l.map wU) rfl HLEN.out HA.out HS.out HN.out HONE.out hl ?_)
  intro v1 w1 how hnn hbl
  have HO : Hid (OwnW w1 (w.heap.size + 1) v1 l) := Lib.hid (by unfold OwnW; first | (simpa using how) | (rw [hL]; simpa using how) | (rw [hL, he]; simpa using how))
  have hbk : w1.heap[w.heap.size]? = some doneO := (hbl.block _ (by simp)).trans (heap_alloc_new _ _)
  have HB1 : Hid (Below w.heap.size w w1) := Lib.hid (((Below.refl _ _).alloc (Nat.le_refl _) _).trans (hbl.mono (by simp)))
  have k0 : w1.cell? ⟨w.heap.size, 0, none⟩ = some (.slice none 0 0) := cell_of_blk (k := 0) hbk rfl
  have k1 : w1.cell? ⟨w.heap.size, 1, none⟩ = some (.int .i64 0) := cell_of_blk (k := 1) hbk rfl
  have k2 : w1.cell? ⟨w.heap.size, 2, none⟩ = some (.int .u64 0) := cell_of_blk (k := 2) hbk rfl
  have z0 := free_of_blk (k := 0) hbk
  have z1 := free_of_blk (k := 1) hbk
  have z2 := free_of_blk (k := 2) hbk
  have hwl := blk_lt hbk
  have HBK : Hid (w1.heap[w.heap.size]? = some doneO) := Lib.hid hbk
  clear how hnn hbl hbk HA HS HN HONE HLEN
  subst hL
  obtain ⟨g, cap, rfl, hg, hlt, hc, hf⟩ := HO.out.opened (by simp)
  have d0 := hc 0 x rfl
  simp only [List.length_singleton] at *
  clear hc hf
  go_wp2_with fail
  obtain ⟨p0, p1, p2, p3⟩ := put3_alloc HBK.out (.slice (some ⟨w1.heap.size, 0, none⟩) 1 1) (.int .i64 0) (.int .u64 (x : Int)) (.int .u64 (a : Int)) 29
  refine bodyPost_ret (v := .agg #[.slice (some ⟨w1.heap.size, 0, none⟩) 1 1, .int .i64 0, .int .u64 (x : Int)]) (by simp [results, Try.results15, go_sem, p0, p1, p2]) rfl ⟨_, rfl, arg_one (by omega) (by rw [p3]; simp [wU]), (below_put3 HB1.out _ _ _).alloc (by simp [World.setCell]; omega) _⟩

set_option maxRecDepth 100000 in
set_option maxHeartbeats 1000000 in
theorem ref_5_1a (x : Nat) (v : Value) (a : Nat) (w : World) (ha : a < 18446744073709551616) (h : ArgW w v [x]) (hx : x < 18446744073709551616) (hgt : x < a) :
    Calls Try.prog 15 #[.int .i64 5, v, .int .i64 1, .int .u64 (a : Int)] w (DnP w.heap.size w ([a], x, 0)) := by
  obtain ⟨l, hL⟩ : ∃ l, l = [x] := ⟨_, rfl⟩
  rw [← hL] at h
  have hl : l.length ≤ 4294967296 := by rw [hL]; simp
  obtain ⟨iI, ia, ib, ic, id⟩ := info_parts info22
  obtain ⟨ao, b, o, cap0, rfl, ha0, hn0, hc0⟩ := h
  have HA := Lib.hid ha0
  have HS : Hid (∀ (j : Nat) (u : Value), (l.map wU)[j]? = some u → (w.alloc doneO).cell? ⟨b, o + j, none⟩ = some u) := Lib.hid (fun j u hu => by
    rw [List.getElem?_map] at hu
    obtain ⟨x, hx, rfl⟩ := Option.map_eq_some_iff.1 hu
    have h1 := hc0 j x hx
    rw [World.cell?_alloc_past _ _ _ (World.block_lt_of_cell? w _ h1)]
    exact h1)
  have HN := Lib.hid hn0
  have HONE := Lib.hid (wU_one l)
  have HLEN : Hid ((l.map wU).length = l.length) := Lib.hid (by simp)
  clear ha0 hc0 hn0
  go_enter Try.func15, Try.ntmps15
  go_wp2_with (at_builtin; refine append_fresh_own (w := w.alloc doneO) rfl _ _ 22 rfl 29 iI (.int .u64 0) 8 Try.underlying22 ia ib ic id rfl (by decide) (w.heap.size + 1) (by simp) rfl ao b o cap0 l.length (l.map wU) rfl HLEN.out HA.out HS.out HN.out HONE.out hl ?_)
  intro v1 w1 how hnn hbl
  have HO : Hid (OwnW w1 (w.heap.size + 1) v1 l) := Lib.hid (by unfold OwnW; first | (simpa using how) | (rw [hL]; simpa using how) | (rw [hL, he]; simpa using how))
  have hbk : w1.heap[w.heap.size]? = some doneO := (hbl.block _ (by simp)).trans (heap_alloc_new _ _)
  have HB1 : Hid (Below w.heap.size w w1) := Lib.hid (((Below.refl _ _).alloc (Nat.le_refl _) _).trans (hbl.mono (by simp)))
  have k0 : w1.cell? ⟨w.heap.size, 0, none⟩ = some (.slice none 0 0) := cell_of_blk (k := 0) hbk rfl
  have k1 : w1.cell? ⟨w.heap.size, 1, none⟩ = some (.int .i64 0) := cell_of_blk (k := 1) hbk rfl
  have k2 : w1.cell? ⟨w.heap.size, 2, none⟩ = some (.int .u64 0) := cell_of_blk (k := 2) hbk rfl
  have z0 := free_of_blk (k := 0) hbk
  have z1 := free_of_blk (k := 1) hbk
  have z2 := free_of_blk (k := 2) hbk
  have hwl := blk_lt hbk
  have HBK : Hid (w1.heap[w.heap.size]? = some doneO) := Lib.hid hbk
  clear how hnn hbl hbk HA HS HN HONE HLEN
  subst hL
  obtain ⟨g, cap, rfl, hg, hlt, hc, hf⟩ := HO.out.opened (by simp)
  have d0 := hc 0 x rfl
  simp only [List.length_singleton] at *
  clear hc hf
  go_wp2_with fail
  obtain ⟨p0, p1, p2, p3⟩ := put3_alloc HBK.out (.slice (some ⟨w1.heap.size, 0, none⟩) 1 1) (.int .i64 0) (.int .u64 (x : Int)) (.int .u64 (a : Int)) 29
  refine bodyPost_ret (v := .agg #[.slice (some ⟨w1.heap.size, 0, none⟩) 1 1, .int .i64 0, .int .u64 (x : Int)]) (by simp [results, Try.results15, go_sem, p0, p1, p2]) rfl ⟨_, rfl, arg_one (by omega) (by rw [p3]; simp [wU]), (below_put3 HB1.out _ _ _).alloc (by simp [World.setCell]; omega) _⟩

set_option maxRecDepth 100000 in
set_option maxHeartbeats 1000000 in
theorem ref_5_1b (x : Nat) (v : Value) (a : Nat) (w : World) (ha : a < 18446744073709551616) (h : ArgW w v [x]) (hx : x < 18446744073709551616) (hgt : ¬ x < a) :
    Calls Try.prog 15 #[.int .i64 5, v, .int .i64 1, .int .u64 (a : Int)] w (DnP w.heap.size w ([x], x, 0)) := by
  obtain ⟨l, hL⟩ : ∃ l, l = [x] := ⟨_, rfl⟩
  rw [← hL] at h
  have hl : l.length ≤ 4294967296 := by rw [hL]; simp
  obtain ⟨iI, ia, ib, ic, id⟩ := info_parts info22
  obtain ⟨ao, b, o, cap0, rfl, ha0, hn0, hc0⟩ := h
  have HA := Lib.hid ha0
  have HS : Hid (∀ (j : Nat) (u : Value), (l.map wU)[j]? = some u → (w.alloc doneO).cell? ⟨b, o + j, none⟩ = some u) := Lib.hid (fun j u hu => by
    rw [List.getElem?_map] at hu
    obtain ⟨x, hx, rfl⟩ := Option.map_eq_some_iff.1 hu
    have h1 := hc0 j x hx
    rw [World.cell?_alloc_past _ _ _ (World.block_lt_of_cell? w _ h1)]
    exact h1)
  have HN := Lib.hid hn0
  have HONE := Lib.hid (wU_one l)
  have HLEN : Hid ((l.map wU).length = l.length) := Lib.hid (by simp)
  clear ha0 hc0 hn0
  go_enter Try.func15, Try.ntmps15
  go_wp2_with (at_builtin; refine append_fresh_own (w := w.alloc doneO) rfl _ _ 22 rfl 29 iI (.int .u64 0) 8 Try.underlying22 ia ib ic id rfl (by decide) (w.heap.size + 1) (by simp) rfl ao b o cap0 l.length (l.map wU) rfl HLEN.out HA.out HS.out HN.out HONE.out hl ?_)
  intro v1 w1 how hnn hbl
  have HO : Hid (OwnW w1 (w.heap.size + 1) v1 l) := Lib.hid (by unfold OwnW; first | (simpa using how) | (rw [hL]; simpa using how) | (rw [hL, he]; simpa using how))
  have hbk : w1.heap[w.heap.size]? = some doneO := (hbl.block _ (by simp)).trans (heap_alloc_new _ _)
  have HB1 : Hid (Below w.heap.size w w1) := Lib.hid (((Below.refl _ _).alloc (Nat.le_refl _) _).trans (hbl.mono (by simp)))
  have k0 : w1.cell? ⟨w.heap.size, 0, none⟩ = some (.slice none 0 0) := cell_of_blk (k := 0) hbk rfl
  have k1 : w1.cell? ⟨w.heap.size, 1, none⟩ = some (.int .i64 0) := cell_of_blk (k := 1) hbk rfl
  have k2 : w1.cell? ⟨w.heap.size, 2, none⟩ = some (.int .u64 0) := cell_of_blk (k := 2) hbk rfl
  have z0 := free_of_blk (k := 0) hbk
  have z1 := free_of_blk (k := 1) hbk
  have z2 := free_of_blk (k := 2) hbk
  have hwl := blk_lt hbk
  have HBK : Hid (w1.heap[w.heap.size]? = some doneO) := Lib.hid hbk
  clear how hnn hbl hbk HA HS HN HONE HLEN
  subst hL
  obtain ⟨g, cap, rfl, hg, hlt, hc, hf⟩ := HO.out.opened (by simp)
  have d0 := hc 0 x rfl
  simp only [List.length_singleton] at *
  clear hc hf
  go_wp2_with fail
  refine bodyPost_ret (v := .agg #[.slice (some ⟨g, 0, none⟩) 1 cap, .int .i64 0, .int .u64 (x : Int)]) (by simp [results, Try.results15, go_sem, k0, k1, k2]) rfl ⟨_, rfl, (own_put3 HO.out (by omega) _ _ _).argB.mono (by omega), below_put3 HB1.out _ _ _⟩

set_option maxRecDepth 100000 in
set_option maxHeartbeats 1000000 in
theorem ref_6_1a (x : Nat) (v : Value) (a : Nat) (w : World) (ha : a < 18446744073709551616) (h : ArgW w v [x]) (hx : x < 18446744073709551616) (he : x = a / 65536 % 65536) :
    Calls Try.prog 15 #[.int .i64 6, v, .int .i64 1, .int .u64 (a : Int)] w (DnP w.heap.size w ([a % 65536], 1, 0)) := by
  obtain ⟨l, hL⟩ : ∃ l, l = [x] := ⟨_, rfl⟩
  rw [← hL] at h
  have hl : l.length ≤ 4294967296 := by rw [hL]; simp
  obtain ⟨iI, ia, ib, ic, id⟩ := info_parts info22
  obtain ⟨ao, b, o, cap0, rfl, ha0, hn0, hc0⟩ := h
  have HA := Lib.hid ha0
  have HS : Hid (∀ (j : Nat) (u : Value), (l.map wU)[j]? = some u → (w.alloc doneO).cell? ⟨b, o + j, none⟩ = some u) := Lib.hid (fun j u hu => by
    rw [List.getElem?_map] at hu
    obtain ⟨x, hx, rfl⟩ := Option.map_eq_some_iff.1 hu
    have h1 := hc0 j x hx
    rw [World.cell?_alloc_past _ _ _ (World.block_lt_of_cell? w _ h1)]
    exact h1)
  have HN := Lib.hid hn0
  have HONE := Lib.hid (wU_one l)
  have HLEN : Hid ((l.map wU).length = l.length) := Lib.hid (by simp)
  clear ha0 hc0 hn0
  go_enter Try.func15, Try.ntmps15
  go_wp2_with (at_builtin; refine append_fresh_own (w := w.alloc doneO) rfl _ _ 22 rfl 29 iI (.int .u64 0) 8 Try.underlying22 ia ib ic id rfl (by decide) (w.heap.size + 1) (by simp) rfl ao b o cap0 l.length (l.map wU) rfl HLEN.out HA.out HS.out HN.out HONE.out hl ?_)
  intro v1 w1 how hnn hbl
  have HO : Hid (OwnW w1 (w.heap.size + 1) v1 l) := Lib.hid (by unfold OwnW; first | (simpa using how) | (rw [hL]; simpa using how) | (rw [hL, he]; simpa using how))
  have hbk : w1.heap[w.heap.size]? = some doneO := (hbl.block _ (by simp)).trans (heap_alloc_new _ _)
  have HB1 : Hid (Below w.heap.size w w1) := Lib.hid (((Below.refl _ _).alloc (Nat.le_refl _) _).trans (hbl.mono (by simp)))
  have k0 : w1.cell? ⟨w.heap.size, 0, none⟩ = some (.slice none 0 0) := cell_of_blk (k := 0) hbk rfl
  have k1 : w1.cell? ⟨w.heap.size, 1, none⟩ = some (.int .i64 0) := cell_of_blk (k := 1) hbk rfl
  have k2 : w1.cell? ⟨w.heap.size, 2, none⟩ = some (.int .u64 0) := cell_of_blk (k := 2) hbk rfl
  have z0 := free_of_blk (k := 0) hbk
  have z1 := free_of_blk (k := 1) hbk
  have z2 := free_of_blk (k := 2) hbk
  have hwl := blk_lt hbk
  have HBK : Hid (w1.heap[w.heap.size]? = some doneO) := Lib.hid hbk
  clear how hnn hbl hbk HA HS HN HONE HLEN
  subst hL
  obtain ⟨g, cap, rfl, hg, hlt, hc, hf⟩ := HO.out.opened (by simp)
  have d0 := hc 0 x rfl
  simp only [List.length_singleton] at *
  clear hc hf
  go_wp2_with fail
  obtain ⟨p0, p1, p2, p3⟩ := put3_alloc HBK.out (.slice (some ⟨w1.heap.size, 0, none⟩) 1 1) (.int .i64 0) (.int .u64 1) (.int .u64 ((a : Int) % 65536)) 29
  refine bodyPost_ret (v := .agg #[.slice (some ⟨w1.heap.size, 0, none⟩) 1 1, .int .i64 0, .int .u64 1]) (by simp [results, Try.results15, go_sem, p0, p1, p2]) rfl ⟨_, rfl, arg_one (by omega) (by rw [p3]; simp [wU]), (below_put3 HB1.out _ _ _).alloc (by simp [World.setCell]; omega) _⟩

set_option maxRecDepth 100000 in
set_option maxHeartbeats 1000000 in
theorem ref_6_1b (x : Nat) (v : Value) (a : Nat) (w : World) (ha : a < 18446744073709551616) (h : ArgW w v [x]) (hx : x < 18446744073709551616) (he : ¬ x = a / 65536 % 65536) :
    Calls Try.prog 15 #[.int .i64 6, v, .int .i64 1, .int .u64 (a : Int)] w (DnP w.heap.size w ([x], 0, 0)) := by
  obtain ⟨l, hL⟩ : ∃ l, l = [x] := ⟨_, rfl⟩
  rw [← hL] at h
  have hl : l.length ≤ 4294967296 := by rw [hL]; simp
  obtain ⟨iI, ia, ib, ic, id⟩ := info_parts info22
  obtain ⟨ao, b, o, cap0, rfl, ha0, hn0, hc0⟩ := h
  have HA := Lib.hid ha0
  have HS : Hid (∀ (j : Nat) (u : Value), (l.map wU)[j]? = some u → (w.alloc doneO).cell? ⟨b, o + j, none⟩ = some u) := Lib.hid (fun j u hu => by
    rw [List.getElem?_map] at hu
    obtain ⟨x, hx, rfl⟩ := Option.map_eq_some_iff.1 hu
    have h1 := hc0 j x hx
    rw [World.cell?_alloc_past _ _ _ (World.block_lt_of_cell? w _ h1)]
    exact h1)
  have HN := Lib.hid hn0
  have HONE := Lib.hid (wU_one l)
  have HLEN : Hid ((l.map wU).length = l.length) := Lib.hid (by simp)
  clear ha0 hc0 hn0
  go_enter Try.func15, Try.ntmps15
  go_wp2_with (at_builtin; refine append_fresh_own (w := w.alloc doneO) rfl _ _ 22 rfl 29 iI (.int .u64 0) 8 Try.underlying22 ia ib ic id rfl (by decide) (w.heap.size + 1) (by simp) rfl ao b o cap0 l.length (l.map wU) rfl HLEN.out HA.out HS.out HN.out HONE.out hl ?_)
  intro v1 w1 how hnn hbl
  have HO : Hid (OwnW w1 (w.heap.size + 1) v1 l) := Lib.hid (by unfold OwnW; first | (simpa using how) | (rw [hL]; simpa using how) | (rw [hL, he]; simpa using how))
  have hbk : w1.heap[w.heap.size]? = some doneO := (hbl.block _ (by simp)).trans (heap_alloc_new _ _)
  have HB1 : Hid (Below w.heap.size w w1) := Lib.hid (((Below.refl _ _).alloc (Nat.le_refl _) _).trans (hbl.mono (by simp)))
  have k0 : w1.cell? ⟨w.heap.size, 0, none⟩ = some (.slice none 0 0) := cell_of_blk (k := 0) hbk rfl
  have k1 : w1.cell? ⟨w.heap.size, 1, none⟩ = some (.int .i64 0) := cell_of_blk (k := 1) hbk rfl
  have k2 : w1.cell? ⟨w.heap.size, 2, none⟩ = some (.int .u64 0) := cell_of_blk (k := 2) hbk rfl
  have z0 := free_of_blk (k := 0) hbk
  have z1 := free_of_blk (k := 1) hbk
  have z2 := free_of_blk (k := 2) hbk
  have hwl := blk_lt hbk
  have HBK : Hid (w1.heap[w.heap.size]? = some doneO) := Lib.hid hbk
  clear how hnn hbl hbk HA HS HN HONE HLEN
  subst hL
  obtain ⟨g, cap, rfl, hg, hlt, hc, hf⟩ := HO.out.opened (by simp)
  have d0 := hc 0 x rfl
  simp only [List.length_singleton] at *
  clear hc hf
  go_wp2_with fail
  refine bodyPost_ret (v := .agg #[.slice (some ⟨g, 0, none⟩) 1 cap, .int .i64 0, .int .u64 0]) (by simp [results, Try.results15, go_sem, k0, k1, k2]) rfl ⟨_, rfl, (own_put3 HO.out (by omega) _ _ _).argB.mono (by omega), below_put3 HB1.out _ _ _⟩

set_option maxRecDepth 100000 in
set_option maxHeartbeats 1000000 in
theorem ref_1_1 (x : Nat) (v : Value) (a : Nat) (w : World) (ha : a < 18446744073709551616) (h : ArgW w v [x]) (hx : x < 18446744073709551616) :
    Calls Try.prog 15 #[.int .i64 1, v, .int .i64 1, .int .u64 (a : Int)] w (DnP w.heap.size w ([(x + a) % 18446744073709551616], x, 0)) := by
  obtain ⟨l, hL⟩ : ∃ l, l = [x] := ⟨_, rfl⟩
  rw [← hL] at h
  have hl : l.length ≤ 4294967296 := by rw [hL]; simp
  obtain ⟨iI, ia, ib, ic, id⟩ := info_parts info22
  obtain ⟨ao, b, o, cap0, rfl, ha0, hn0, hc0⟩ := h
  have HA := Lib.hid ha0
  have HS : Hid (∀ (j : Nat) (u : Value), (l.map wU)[j]? = some u → (w.alloc doneO).cell? ⟨b, o + j, none⟩ = some u) := Lib.hid (fun j u hu => by
    rw [List.getElem?_map] at hu
    obtain ⟨x, hx, rfl⟩ := Option.map_eq_some_iff.1 hu
    have h1 := hc0 j x hx
    rw [World.cell?_alloc_past _ _ _ (World.block_lt_of_cell? w _ h1)]
    exact h1)
  have HN := Lib.hid hn0
  have HONE := Lib.hid (wU_one l)
  have HLEN : Hid ((l.map wU).length = l.length) := Lib.hid (by simp)
  clear ha0 hc0 hn0
  go_enter Try.func15, Try.ntmps15
  go_wp2_with (at_builtin; refine append_fresh_own (w := w.alloc doneO) rfl _ _ 22 rfl 29 iI (.int .u64 0) 8 Try.underlying22 ia ib ic id rfl (by decide) (w.heap.size + 1) (by simp) rfl ao b o cap0 l.length (l.map wU) rfl HLEN.out HA.out HS.out HN.out HONE.out hl ?_)
  intro v1 w1 how hnn hbl
  have HO : Hid (OwnW w1 (w.heap.size + 1) v1 l) := Lib.hid (by unfold OwnW; first | (simpa using how) | (rw [hL]; simpa using how) | (rw [hL, he]; simpa using how))
  have hbk : w1.heap[w.heap.size]? = some doneO := (hbl.block _ (by simp)).trans (heap_alloc_new _ _)
  have HB1 : Hid (Below w.heap.size w w1) := Lib.hid (((Below.refl _ _).alloc (Nat.le_refl _) _).trans (hbl.mono (by simp)))
  have k0 : w1.cell? ⟨w.heap.size, 0, none⟩ = some (.slice none 0 0) := cell_of_blk (k := 0) hbk rfl
  have k1 : w1.cell? ⟨w.heap.size, 1, none⟩ = some (.int .i64 0) := cell_of_blk (k := 1) hbk rfl
  have k2 : w1.cell? ⟨w.heap.size, 2, none⟩ = some (.int .u64 0) := cell_of_blk (k := 2) hbk rfl
  have z0 := free_of_blk (k := 0) hbk
  have z1 := free_of_blk (k := 1) hbk
  have z2 := free_of_blk (k := 2) hbk
  have hwl := blk_lt hbk
  have HBK : Hid (w1.heap[w.heap.size]? = some doneO) := Lib.hid hbk
  clear how hnn hbl hbk HA HS HN HONE HLEN
  subst hL
  obtain ⟨g, cap, rfl, hg, hlt, hc, hf⟩ := HO.out.opened (by simp)
  have d0 := hc 0 x rfl
  simp only [List.length_singleton] at *
  clear hc hf
  have hs1 : IntKind.u64.wrap ((x : Int) + (a : Int)) = (((x + a) % 18446744073709551616 : Nat) : Int) := by
    simp [IntKind.wrap, IntKind.signed, IntKind.bits]
  have hs2 : (x + a) % 18446744073709551616 < 18446744073709551616 := Nat.mod_lt _ (by decide)
  generalize (x + a) % 18446744073709551616 = z at *
  go_wp2_with fail
  go_region
  go_wp2_with fail
  obtain ⟨p0, p1, p2, p3⟩ := put3_alloc HBK.out (.slice (some ⟨w1.heap.size, 0, none⟩) 1 1) (.int .i64 0) (.int .u64 (x : Int)) (.int .u64 (z : Int)) 29
  refine bodyPost_ret (v := .agg #[.slice (some ⟨w1.heap.size, 0, none⟩) 1 1, .int .i64 0, .int .u64 (x : Int)]) (by simp [results, Try.results15, go_sem, p0, p1, p2]) rfl ⟨_, rfl, ArgB.drew (arg_one (by omega) (by rw [p3]; simp [wU])), (below_put3 HB1.out _ _ _).alloc (by simp [World.setCell]; omega) _ |>.drew⟩

set_option maxRecDepth 100000 in
set_option maxHeartbeats 1000000 in
theorem ref_7_0a (l : List Nat) (v : Value) (a : Nat) (w : World) (ha : a < 18446744073709551616) (h : ArgW w v l) (h8 : l.length = 8) (hx : ∀ x ∈ l, x < 18446744073709551616) (hb : 8 ≤ a) :
    Calls Try.prog 15 #[.int .i64 7, v, .int .i64 0, .int .u64 (a : Int)] w (DnP w.heap.size w (l, 0, 10)) := by
  have hl : l.length ≤ 4294967296 := by omega
  have HX := Lib.hid hx
  have hL : l.length = 8 := h8
  clear hx
  obtain ⟨iI, ia, ib, ic, id⟩ := info_parts info22
  obtain ⟨ao, b, o, cap0, rfl, ha0, hn0, hc0⟩ := h
  have HA := Lib.hid ha0
  have HS : Hid (∀ (j : Nat) (u : Value), (l.map wU)[j]? = some u → (w.alloc doneO).cell? ⟨b, o + j, none⟩ = some u) := Lib.hid (fun j u hu => by
    rw [List.getElem?_map] at hu
    obtain ⟨x, hx, rfl⟩ := Option.map_eq_some_iff.1 hu
    have h1 := hc0 j x hx
    rw [World.cell?_alloc_past _ _ _ (World.block_lt_of_cell? w _ h1)]
    exact h1)
  have HN := Lib.hid hn0
  have HONE := Lib.hid (wU_one l)
  have HLEN : Hid ((l.map wU).length = l.length) := Lib.hid (by simp)
  clear ha0 hc0 hn0
  go_enter Try.func15, Try.ntmps15
  go_wp2_with (at_builtin; refine append_fresh_own (w := w.alloc doneO) rfl _ _ 22 rfl 29 iI (.int .u64 0) 8 Try.underlying22 ia ib ic id rfl (by decide) (w.heap.size + 1) (by simp) rfl ao b o cap0 l.length (l.map wU) rfl HLEN.out HA.out HS.out HN.out HONE.out hl ?_)
  intro v1 w1 how hnn hbl
  have HO : Hid (OwnW w1 (w.heap.size + 1) v1 l) := Lib.hid (by unfold OwnW; first | (simpa using how) | (rw [hL]; simpa using how) | (rw [hL, he]; simpa using how))
  have hbk : w1.heap[w.heap.size]? = some doneO := (hbl.block _ (by simp)).trans (heap_alloc_new _ _)
  have HB1 : Hid (Below w.heap.size w w1) := Lib.hid (((Below.refl _ _).alloc (Nat.le_refl _) _).trans (hbl.mono (by simp)))
  have k0 : w1.cell? ⟨w.heap.size, 0, none⟩ = some (.slice none 0 0) := cell_of_blk (k := 0) hbk rfl
  have k1 : w1.cell? ⟨w.heap.size, 1, none⟩ = some (.int .i64 0) := cell_of_blk (k := 1) hbk rfl
  have k2 : w1.cell? ⟨w.heap.size, 2, none⟩ = some (.int .u64 0) := cell_of_blk (k := 2) hbk rfl
  have z0 := free_of_blk (k := 0) hbk
  have z1 := free_of_blk (k := 1) hbk
  have z2 := free_of_blk (k := 2) hbk
  have hwl := blk_lt hbk
  have HBK : Hid (w1.heap[w.heap.size]? = some doneO) := Lib.hid hbk
  clear how hnn hbl hbk HA HS HN HONE HLEN
  obtain ⟨g, cap, rfl, hg, hlt, hc, hf⟩ := HO.out.opened (by omega)
  rw [h8] at HO
  have HO8 := HO
  skip
  rw [h8]
  clear hc hf
  go_wp2_with fail
  refine bodyPost_ret (v := .agg #[.slice (some ⟨g, 0, none⟩) 8 cap, .int .i64 10, .int .u64 0]) (by simp [results, Try.results15, go_sem, k0, k1, k2]) rfl ⟨_, rfl, (own_put3 HO.out (by omega) _ _ _).argB.mono (by omega), below_put3 HB1.out _ _ _⟩

set_option maxRecDepth 100000 in
set_option maxHeartbeats 1000000 in
theorem ref_7_0b (l : List Nat) (v : Value) (a : Nat) (w : World) (ha : a < 18446744073709551616) (h : ArgW w v l) (h8 : l.length = 8) (hx : ∀ x ∈ l, x < 18446744073709551616) (hb : a < 8) (z : Nat) (hz : Hid (l[a]? = some z)) :
    Calls Try.prog 15 #[.int .i64 7, v, .int .i64 0, .int .u64 (a : Int)] w (DnP w.heap.size w (l, z, 0)) := by
  have hl : l.length ≤ 4294967296 := by omega
  have HX := Lib.hid hx
  have hL : l.length = 8 := h8
  clear hx
  obtain ⟨iI, ia, ib, ic, id⟩ := info_parts info22
  obtain ⟨ao, b, o, cap0, rfl, ha0, hn0, hc0⟩ := h
  have HA := Lib.hid ha0
  have HS : Hid (∀ (j : Nat) (u : Value), (l.map wU)[j]? = some u → (w.alloc doneO).cell? ⟨b, o + j, none⟩ = some u) := Lib.hid (fun j u hu => by
    rw [List.getElem?_map] at hu
    obtain ⟨x, hx, rfl⟩ := Option.map_eq_some_iff.1 hu
    have h1 := hc0 j x hx
    rw [World.cell?_alloc_past _ _ _ (World.block_lt_of_cell? w _ h1)]
    exact h1)
  have HN := Lib.hid hn0
  have HONE := Lib.hid (wU_one l)
  have HLEN : Hid ((l.map wU).length = l.length) := Lib.hid (by simp)
  clear ha0 hc0 hn0
  go_enter Try.func15, Try.ntmps15
  go_wp2_with (at_builtin; refine append_fresh_own (w := w.alloc doneO) rfl _ _ 22 rfl 29 iI (.int .u64 0) 8 Try.underlying22 ia ib ic id rfl (by decide) (w.heap.size + 1) (by simp) rfl ao b o cap0 l.length (l.map wU) rfl HLEN.out HA.out HS.out HN.out HONE.out hl ?_)
  intro v1 w1 how hnn hbl
  have HO : Hid (OwnW w1 (w.heap.size + 1) v1 l) := Lib.hid (by unfold OwnW; first | (simpa using how) | (rw [hL]; simpa using how) | (rw [hL, he]; simpa using how))
  have hbk : w1.heap[w.heap.size]? = some doneO := (hbl.block _ (by simp)).trans (heap_alloc_new _ _)
  have HB1 : Hid (Below w.heap.size w w1) := Lib.hid (((Below.refl _ _).alloc (Nat.le_refl _) _).trans (hbl.mono (by simp)))
  have k0 : w1.cell? ⟨w.heap.size, 0, none⟩ = some (.slice none 0 0) := cell_of_blk (k := 0) hbk rfl
  have k1 : w1.cell? ⟨w.heap.size, 1, none⟩ = some (.int .i64 0) := cell_of_blk (k := 1) hbk rfl
  have k2 : w1.cell? ⟨w.heap.size, 2, none⟩ = some (.int .u64 0) := cell_of_blk (k := 2) hbk rfl
  have z0 := free_of_blk (k := 0) hbk
  have z1 := free_of_blk (k := 1) hbk
  have z2 := free_of_blk (k := 2) hbk
  have hwl := blk_lt hbk
  have HBK : Hid (w1.heap[w.heap.size]? = some doneO) := Lib.hid hbk
  clear how hnn hbl hbk HA HS HN HONE HLEN
  obtain ⟨g, cap, rfl, hg, hlt, hc, hf⟩ := HO.out.opened (by omega)
  rw [h8] at HO
  have HO8 := HO
  have d0 := hc a z hz.out
  rw [h8]
  clear hc hf
  go_wp2_with fail
  refine bodyPost_ret (v := .agg #[.slice (some ⟨g, 0, none⟩) 8 cap, .int .i64 0, .int .u64 (z : Int)]) (by simp [results, Try.results15, go_sem, k0, k1, k2]) rfl ⟨_, rfl, (own_put3 HO.out (by omega) _ _ _).argB.mono (by omega), below_put3 HB1.out _ _ _⟩

set_option maxRecDepth 100000 in
set_option maxHeartbeats 1000000 in
theorem ref_7_1a (l : List Nat) (v : Value) (a : Nat) (w : World) (ha : a < 18446744073709551616) (h : ArgW w v l) (h8 : l.length = 8) (hx : ∀ x ∈ l, x < 18446744073709551616) (q : Nat) (hq1 : (a : Int) / 16777216 = (q : Int)) (hb : 8 ≤ q) :
    Calls Try.prog 15 #[.int .i64 7, v, .int .i64 1, .int .u64 (a : Int)] w (DnP w.heap.size w (l, 0, 10)) := by
  have hl : l.length ≤ 4294967296 := by omega
  have HX := Lib.hid hx
  have hL : l.length = 8 := h8
  clear hx
  obtain ⟨iI, ia, ib, ic, id⟩ := info_parts info22
  obtain ⟨ao, b, o, cap0, rfl, ha0, hn0, hc0⟩ := h
  have HA := Lib.hid ha0
  have HS : Hid (∀ (j : Nat) (u : Value), (l.map wU)[j]? = some u → (w.alloc doneO).cell? ⟨b, o + j, none⟩ = some u) := Lib.hid (fun j u hu => by
    rw [List.getElem?_map] at hu
    obtain ⟨x, hx, rfl⟩ := Option.map_eq_some_iff.1 hu
    have h1 := hc0 j x hx
    rw [World.cell?_alloc_past _ _ _ (World.block_lt_of_cell? w _ h1)]
    exact h1)
  have HN := Lib.hid hn0
  have HONE := Lib.hid (wU_one l)
  have HLEN : Hid ((l.map wU).length = l.length) := Lib.hid (by simp)
  clear ha0 hc0 hn0
  go_enter Try.func15, Try.ntmps15
  go_wp2_with (at_builtin; refine append_fresh_own (w := w.alloc doneO) rfl _ _ 22 rfl 29 iI (.int .u64 0) 8 Try.underlying22 ia ib ic id rfl (by decide) (w.heap.size + 1) (by simp) rfl ao b o cap0 l.length (l.map wU) rfl HLEN.out HA.out HS.out HN.out HONE.out hl ?_)
  intro v1 w1 how hnn hbl
  have HO : Hid (OwnW w1 (w.heap.size + 1) v1 l) := Lib.hid (by unfold OwnW; first | (simpa using how) | (rw [hL]; simpa using how) | (rw [hL, he]; simpa using how))
  have hbk : w1.heap[w.heap.size]? = some doneO := (hbl.block _ (by simp)).trans (heap_alloc_new _ _)
  have HB1 : Hid (Below w.heap.size w w1) := Lib.hid (((Below.refl _ _).alloc (Nat.le_refl _) _).trans (hbl.mono (by simp)))
  have k0 : w1.cell? ⟨w.heap.size, 0, none⟩ = some (.slice none 0 0) := cell_of_blk (k := 0) hbk rfl
  have k1 : w1.cell? ⟨w.heap.size, 1, none⟩ = some (.int .i64 0) := cell_of_blk (k := 1) hbk rfl
  have k2 : w1.cell? ⟨w.heap.size, 2, none⟩ = some (.int .u64 0) := cell_of_blk (k := 2) hbk rfl
  have z0 := free_of_blk (k := 0) hbk
  have z1 := free_of_blk (k := 1) hbk
  have z2 := free_of_blk (k := 2) hbk
  have hwl := blk_lt hbk
  have HBK : Hid (w1.heap[w.heap.size]? = some doneO) := Lib.hid hbk
  clear how hnn hbl hbk HA HS HN HONE HLEN
  obtain ⟨g, cap, rfl, hg, hlt, hc, hf⟩ := HO.out.opened (by omega)
  rw [h8] at HO
  have HO8 := HO
  skip
  rw [h8]
  clear hc hf
  go_wp2_with fail
  refine bodyPost_ret (v := .agg #[.slice (some ⟨g, 0, none⟩) 8 cap, .int .i64 10, .int .u64 0]) (by simp [results, Try.results15, go_sem, k0, k1, k2]) rfl ⟨_, rfl, (own_put3 HO.out (by omega) _ _ _).argB.mono (by omega), below_put3 HB1.out _ _ _⟩

set_option maxRecDepth 100000 in
set_option maxHeartbeats 1000000 in
theorem ref_7_1b (l : List Nat) (v : Value) (a : Nat) (w : World) (ha : a < 18446744073709551616) (h : ArgW w v l) (h8 : l.length = 8) (hx : ∀ x ∈ l, x < 18446744073709551616) (q r : Nat) (hq1 : (a : Int) / 16777216 = (q : Int)) (hr1 : (a : Int) % 16777216 = (r : Int)) (hr2 : r < 16777216) (hb : q < 8) (z : Nat) (hz : Hid (l[q]? = some z)) (ls : List Nat) (hls : Hid (ls = l.set q r)) :
    Calls Try.prog 15 #[.int .i64 7, v, .int .i64 1, .int .u64 (a : Int)] w (DnP w.heap.size w (ls, z, 0)) := by
  have hl : l.length ≤ 4294967296 := by omega
  have HX := Lib.hid hx
  have hL : l.length = 8 := h8
  clear hx
  obtain ⟨iI, ia, ib, ic, id⟩ := info_parts info22
  obtain ⟨ao, b, o, cap0, rfl, ha0, hn0, hc0⟩ := h
  have HA := Lib.hid ha0
  have HS : Hid (∀ (j : Nat) (u : Value), (l.map wU)[j]? = some u → (w.alloc doneO).cell? ⟨b, o + j, none⟩ = some u) := Lib.hid (fun j u hu => by
    rw [List.getElem?_map] at hu
    obtain ⟨x, hx, rfl⟩ := Option.map_eq_some_iff.1 hu
    have h1 := hc0 j x hx
    rw [World.cell?_alloc_past _ _ _ (World.block_lt_of_cell? w _ h1)]
    exact h1)
  have HN := Lib.hid hn0
  have HONE := Lib.hid (wU_one l)
  have HLEN : Hid ((l.map wU).length = l.length) := Lib.hid (by simp)
  clear ha0 hc0 hn0
  go_enter Try.func15, Try.ntmps15
  go_wp2_with (at_builtin; refine append_fresh_own (w := w.alloc doneO) rfl _ _ 22 rfl 29 iI (.int .u64 0) 8 Try.underlying22 ia ib ic id rfl (by decide) (w.heap.size + 1) (by simp) rfl ao b o cap0 l.length (l.map wU) rfl HLEN.out HA.out HS.out HN.out HONE.out hl ?_)
  intro v1 w1 how hnn hbl
  have HO : Hid (OwnW w1 (w.heap.size + 1) v1 l) := Lib.hid (by unfold OwnW; first | (simpa using how) | (rw [hL]; simpa using how) | (rw [hL, he]; simpa using how))
  have hbk : w1.heap[w.heap.size]? = some doneO := (hbl.block _ (by simp)).trans (heap_alloc_new _ _)
  have HB1 : Hid (Below w.heap.size w w1) := Lib.hid (((Below.refl _ _).alloc (Nat.le_refl _) _).trans (hbl.mono (by simp)))
  have k0 : w1.cell? ⟨w.heap.size, 0, none⟩ = some (.slice none 0 0) := cell_of_blk (k := 0) hbk rfl
  have k1 : w1.cell? ⟨w.heap.size, 1, none⟩ = some (.int .i64 0) := cell_of_blk (k := 1) hbk rfl
  have k2 : w1.cell? ⟨w.heap.size, 2, none⟩ = some (.int .u64 0) := cell_of_blk (k := 2) hbk rfl
  have z0 := free_of_blk (k := 0) hbk
  have z1 := free_of_blk (k := 1) hbk
  have z2 := free_of_blk (k := 2) hbk
  have hwl := blk_lt hbk
  have HBK : Hid (w1.heap[w.heap.size]? = some doneO) := Lib.hid hbk
  clear how hnn hbl hbk HA HS HN HONE HLEN
  obtain ⟨g, cap, rfl, hg, hlt, hc, hf⟩ := HO.out.opened (by omega)
  rw [h8] at HO
  have HO8 := HO
  have d0 := hc q z hz.out
  have f0 := hf q
  rw [h8]
  clear hc hf
  go_wp2_with fail
  refine bodyPost_ret (v := .agg #[.slice (some ⟨g, 0, none⟩) 8 cap, .int .i64 0, .int .u64 (z : Int)]) (by simp [results, Try.results15, go_sem, k0, k1, k2]) rfl ⟨_, rfl, ?_, ?_⟩
  · rw [hls.out]
    exact (own_put3 (HO8.out.stored q r) (by omega) _ _ _).argB.mono (by omega)
  · exact below_put3 (HB1.out.setCell (p := ⟨g, q, none⟩) (by show _ ≤ g; omega) _) _ _ _

end Go.Proofs.Ytlcnhmijagddgaa
