/- The reference's Apply, whole. -/
import Derived.Test.YtlcnhmijagddgaaSN
namespace Go.Proofs.Ytlcnhmijagddgaa
open Go.ChangeShapes Go.WideShapes Go.ChangeAt Go.RowKit
set_option linter.unusedVariables false
set_option linter.unusedSimpArgs false

set_option maxRecDepth 100000 in
set_option maxHeartbeats 1000000 in
theorem ref_row2 (k : Nat) (l : List Nat) (v : Value) (a : Nat) (w : World) (h : ArgW w v l) (h8 : l.length ≤ 8) (hk : k ≤ 2) :
    Calls Try.prog 15 #[.int .i64 2, v, .int .i64 (k : Int), .int .u64 (a : Int)] w (DnP w.heap.size w (sqDo 2 k l a)) := by
  have hl : l.length ≤ 4294967296 := by omega
  have HR := Lib.hid (fun B v W (h : OwnW W B v l) (hB : B ≤ W.heap.size) => row_any 2 k a B v l W h hB h8 (by decide) hk)
  generalize sqDo 2 k l a = rr at *
  clear hk
  obtain ⟨iI, ia, ib, ic, id⟩ := info_parts info22
  obtain ⟨ao, b, o, cap0, rfl, ha0, hn0, hc0⟩ := h
  have HA := Lib.hid ha0
  have HS : Hid (∀ (j : Nat) (u : Value), (l.map wU)[j]? = some u → (w.alloc doneO).cell? ⟨b, o + j, none⟩ = some u) := Lib.hid (fun j u hu => by
    rw [List.getElem?_map] at hu
    obtain ⟨x, hx, rfl⟩ := Option.map_eq_some_iff.1 hu
    have h1 := hc0 j x hx
    rw [World.cell?_alloc_past _ _ _ (World.block_lt_of_cell? w _ h1)]
    exact h1)
  have HN := Lib.hid hn0
  have HONE := Lib.hid (wU_one l)
  have HLEN : Hid ((l.map wU).length = l.length) := Lib.hid (by simp)
  clear ha0 hc0 hn0
  go_enter Try.func15, Try.ntmps15
  go_wp2_with (at_builtin; refine append_fresh_own (w := w.alloc doneO) rfl _ _ 22 rfl 29 iI (.int .u64 0) 8 Try.underlying22 ia ib ic id rfl (by decide) (w.heap.size + 1) (by simp) rfl ao b o cap0 l.length (l.map wU) rfl HLEN.out HA.out HS.out HN.out HONE.out hl ?_)
  intro v1 w1 how hnn hbl
  have HO : Hid (OwnW w1 (w.heap.size + 1) v1 l) := Lib.hid (by unfold OwnW; simpa using how)
  have hbk : w1.heap[w.heap.size]? = some doneO := (hbl.block _ (by simp)).trans (heap_alloc_new _ _)
  have HB1 : Hid (Below w.heap.size w w1) := Lib.hid (((Below.refl _ _).alloc (Nat.le_refl _) _).trans (hbl.mono (by simp)))
  have k0 : w1.cell? ⟨w.heap.size, 0, none⟩ = some (.slice none 0 0) := cell_of_blk (k := 0) hbk rfl
  have k1 : w1.cell? ⟨w.heap.size, 1, none⟩ = some (.int .i64 0) := cell_of_blk (k := 1) hbk rfl
  have k2 : w1.cell? ⟨w.heap.size, 2, none⟩ = some (.int .u64 0) := cell_of_blk (k := 2) hbk rfl
  have z0 := free_of_blk (k := 0) hbk
  have z1 := free_of_blk (k := 1) hbk
  have z2 := free_of_blk (k := 2) hbk
  have hwl := blk_lt hbk
  have HBK : Hid (w1.heap[w.heap.size]? = some doneO) := Lib.hid hbk
  clear how hnn hbl hbk HA HS HN HONE HLEN
  have HZ : Hid (w.heap.size + 1 ≤ w1.heap.size) := Lib.hid (by omega)
  obtain ⟨ao1, cap1, rfl⟩ := HO.out.arg.isSlice
  go_wp2_with (go_at_call 22; refine (HR.out _ _ _ HO.out HZ.out).mono ?_; (rintro e w2 ⟨v2, rfl, ha2, hb2⟩; (have hbk2 : w2.heap[w.heap.size]? = some doneO := (hb2.block _ (by omega)).trans HBK.out); (have q0 : w2.cell? ⟨w.heap.size, 0, none⟩ = some (.slice none 0 0) := cell_of_blk (k := 0) hbk2 rfl); (have q1 : w2.cell? ⟨w.heap.size, 1, none⟩ = some (.int .i64 0) := cell_of_blk (k := 1) hbk2 rfl); (have q2 : w2.cell? ⟨w.heap.size, 2, none⟩ = some (.int .u64 0) := cell_of_blk (k := 2) hbk2 rfl); (have y0 := free_of_blk (k := 0) hbk2); (have y1 := free_of_blk (k := 1) hbk2); (have y2 := free_of_blk (k := 2) hbk2); (have HA2 := Lib.hid ha2); (have HB2 := Lib.hid (HB1.out.trans (hb2.mono (by omega)))); (obtain ⟨ao2, cap2, rfl⟩ := ha2.arg.isSlice); clear hb2 ha2 hbk2))
  refine bodyPost_ret (v := .agg #[.slice ao2 rr.1.length cap2, .int .i64 (rr.2.2 : Int), .int .u64 (rr.2.1 : Int)]) (by simp [results, Try.results15, go_sem, q0, q1, q2]) rfl ⟨_, rfl, (HA2.out.put3 (by omega) _ _ _).mono (by omega), below_put3 HB2.out _ _ _⟩

set_option maxRecDepth 100000 in
set_option maxHeartbeats 1000000 in
theorem ref_row3 (k : Nat) (l : List Nat) (v : Value) (a : Nat) (w : World) (h : ArgW w v l) (h8 : l.length ≤ 8) (hk : k ≤ 2) :
    Calls Try.prog 15 #[.int .i64 3, v, .int .i64 (k : Int), .int .u64 (a : Int)] w (DnP w.heap.size w (sqDo 3 k l a)) := by
  have hl : l.length ≤ 4294967296 := by omega
  have HR := Lib.hid (fun B v W (h : OwnW W B v l) (hB : B ≤ W.heap.size) => row_any 3 k a B v l W h hB h8 (by decide) hk)
  generalize sqDo 3 k l a = rr at *
  clear hk
  obtain ⟨iI, ia, ib, ic, id⟩ := info_parts info22
  obtain ⟨ao, b, o, cap0, rfl, ha0, hn0, hc0⟩ := h
  have HA := Lib.hid ha0
  have HS : Hid (∀ (j : Nat) (u : Value), (l.map wU)[j]? = some u → (w.alloc doneO).cell? ⟨b, o + j, none⟩ = some u) := Lib.hid (fun j u hu => by
    rw [List.getElem?_map] at hu
    obtain ⟨x, hx, rfl⟩ := Option.map_eq_some_iff.1 hu
    have h1 := hc0 j x hx
    rw [World.cell?_alloc_past _ _ _ (World.block_lt_of_cell? w _ h1)]
    exact h1)
  have HN := Lib.hid hn0
  have HONE := Lib.hid (wU_one l)
  have HLEN : Hid ((l.map wU).length = l.length) := Lib.hid (by simp)
  clear ha0 hc0 hn0
  go_enter Try.func15, Try.ntmps15
  go_wp2_with (at_builtin; refine append_fresh_own (w := w.alloc doneO) rfl _ _ 22 rfl 29 iI (.int .u64 0) 8 Try.underlying22 ia ib ic id rfl (by decide) (w.heap.size + 1) (by simp) rfl ao b o cap0 l.length (l.map wU) rfl HLEN.out HA.out HS.out HN.out HONE.out hl ?_)
  intro v1 w1 how hnn hbl
  have HO : Hid (OwnW w1 (w.heap.size + 1) v1 l) := Lib.hid (by unfold OwnW; simpa using how)
  have hbk : w1.heap[w.heap.size]? = some doneO := (hbl.block _ (by simp)).trans (heap_alloc_new _ _)
  have HB1 : Hid (Below w.heap.size w w1) := Lib.hid (((Below.refl _ _).alloc (Nat.le_refl _) _).trans (hbl.mono (by simp)))
  have k0 : w1.cell? ⟨w.heap.size, 0, none⟩ = some (.slice none 0 0) := cell_of_blk (k := 0) hbk rfl
  have k1 : w1.cell? ⟨w.heap.size, 1, none⟩ = some (.int .i64 0) := cell_of_blk (k := 1) hbk rfl
  have k2 : w1.cell? ⟨w.heap.size, 2, none⟩ = some (.int .u64 0) := cell_of_blk (k := 2) hbk rfl
  have z0 := free_of_blk (k := 0) hbk
  have z1 := free_of_blk (k := 1) hbk
  have z2 := free_of_blk (k := 2) hbk
  have hwl := blk_lt hbk
  have HBK : Hid (w1.heap[w.heap.size]? = some doneO) := Lib.hid hbk
  clear how hnn hbl hbk HA HS HN HONE HLEN
  have HZ : Hid (w.heap.size + 1 ≤ w1.heap.size) := Lib.hid (by omega)
  obtain ⟨ao1, cap1, rfl⟩ := HO.out.arg.isSlice
  go_wp2_with (go_at_call 22; refine (HR.out _ _ _ HO.out HZ.out).mono ?_; (rintro e w2 ⟨v2, rfl, ha2, hb2⟩; (have hbk2 : w2.heap[w.heap.size]? = some doneO := (hb2.block _ (by omega)).trans HBK.out); (have q0 : w2.cell? ⟨w.heap.size, 0, none⟩ = some (.slice none 0 0) := cell_of_blk (k := 0) hbk2 rfl); (have q1 : w2.cell? ⟨w.heap.size, 1, none⟩ = some (.int .i64 0) := cell_of_blk (k := 1) hbk2 rfl); (have q2 : w2.cell? ⟨w.heap.size, 2, none⟩ = some (.int .u64 0) := cell_of_blk (k := 2) hbk2 rfl); (have y0 := free_of_blk (k := 0) hbk2); (have y1 := free_of_blk (k := 1) hbk2); (have y2 := free_of_blk (k := 2) hbk2); (have HA2 := Lib.hid ha2); (have HB2 := Lib.hid (HB1.out.trans (hb2.mono (by omega)))); (obtain ⟨ao2, cap2, rfl⟩ := ha2.arg.isSlice); clear hb2 ha2 hbk2))
  refine bodyPost_ret (v := .agg #[.slice ao2 rr.1.length cap2, .int .i64 (rr.2.2 : Int), .int .u64 (rr.2.1 : Int)]) (by simp [results, Try.results15, go_sem, q0, q1, q2]) rfl ⟨_, rfl, (HA2.out.put3 (by omega) _ _ _).mono (by omega), below_put3 HB2.out _ _ _⟩

set_option maxRecDepth 100000 in
set_option maxHeartbeats 1000000 in
theorem ref_set (k : Nat) (x : Nat) (v : Value) (a : Nat) (w : World) (h : ArgW w v [x]) (hx : x < 18446744073709551616) (ha : a < 18446744073709551616) (hk : k ≤ 2) :
    Calls Try.prog 15 #[.int .i64 4, v, .int .i64 (k : Int), .int .u64 (a : Int)] w (DnP w.heap.size w (sqDo 4 k [x] a)) := by
  have HR := Lib.hid (fun B v W (h : OwnW W B v [x]) (hB : B ≤ W.heap.size) => refSet_any k v x a B W h.argB hB hx ha hk)
  generalize sqDo 4 k [x] a = rr at *
  obtain ⟨l, hL⟩ : ∃ l, l = [x] := ⟨_, rfl⟩
  rw [← hL] at h HR
  have hl : l.length ≤ 4294967296 := by rw [hL]; simp
  clear hk hL
  obtain ⟨iI, ia, ib, ic, id⟩ := info_parts info22
  obtain ⟨ao, b, o, cap0, rfl, ha0, hn0, hc0⟩ := h
  have HA := Lib.hid ha0
  have HS : Hid (∀ (j : Nat) (u : Value), (l.map wU)[j]? = some u → (w.alloc doneO).cell? ⟨b, o + j, none⟩ = some u) := Lib.hid (fun j u hu => by
    rw [List.getElem?_map] at hu
    obtain ⟨x, hx, rfl⟩ := Option.map_eq_some_iff.1 hu
    have h1 := hc0 j x hx
    rw [World.cell?_alloc_past _ _ _ (World.block_lt_of_cell? w _ h1)]
    exact h1)
  have HN := Lib.hid hn0
  have HONE := Lib.hid (wU_one l)
  have HLEN : Hid ((l.map wU).length = l.length) := Lib.hid (by simp)
  clear ha0 hc0 hn0
  go_enter Try.func15, Try.ntmps15
  go_wp2_with (at_builtin; refine append_fresh_own (w := w.alloc doneO) rfl _ _ 22 rfl 29 iI (.int .u64 0) 8 Try.underlying22 ia ib ic id rfl (by decide) (w.heap.size + 1) (by simp) rfl ao b o cap0 l.length (l.map wU) rfl HLEN.out HA.out HS.out HN.out HONE.out hl ?_)
  intro v1 w1 how hnn hbl
  have HO : Hid (OwnW w1 (w.heap.size + 1) v1 l) := Lib.hid (by unfold OwnW; simpa using how)
  have hbk : w1.heap[w.heap.size]? = some doneO := (hbl.block _ (by simp)).trans (heap_alloc_new _ _)
  have HB1 : Hid (Below w.heap.size w w1) := Lib.hid (((Below.refl _ _).alloc (Nat.le_refl _) _).trans (hbl.mono (by simp)))
  have k0 : w1.cell? ⟨w.heap.size, 0, none⟩ = some (.slice none 0 0) := cell_of_blk (k := 0) hbk rfl
  have k1 : w1.cell? ⟨w.heap.size, 1, none⟩ = some (.int .i64 0) := cell_of_blk (k := 1) hbk rfl
  have k2 : w1.cell? ⟨w.heap.size, 2, none⟩ = some (.int .u64 0) := cell_of_blk (k := 2) hbk rfl
  have z0 := free_of_blk (k := 0) hbk
  have z1 := free_of_blk (k := 1) hbk
  have z2 := free_of_blk (k := 2) hbk
  have hwl := blk_lt hbk
  have HBK : Hid (w1.heap[w.heap.size]? = some doneO) := Lib.hid hbk
  clear how hnn hbl hbk HA HS HN HONE HLEN
  have HZ : Hid (w.heap.size + 1 ≤ w1.heap.size) := Lib.hid (by omega)
  obtain ⟨ao1, cap1, rfl⟩ := HO.out.arg.isSlice
  go_wp2_with (go_at_call 23; refine (HR.out _ _ _ HO.out HZ.out).mono ?_; (rintro e w2 ⟨v2, rfl, ha2, hb2⟩; (have hbk2 : w2.heap[w.heap.size]? = some doneO := (hb2.block _ (by omega)).trans HBK.out); (have q0 : w2.cell? ⟨w.heap.size, 0, none⟩ = some (.slice none 0 0) := cell_of_blk (k := 0) hbk2 rfl); (have q1 : w2.cell? ⟨w.heap.size, 1, none⟩ = some (.int .i64 0) := cell_of_blk (k := 1) hbk2 rfl); (have q2 : w2.cell? ⟨w.heap.size, 2, none⟩ = some (.int .u64 0) := cell_of_blk (k := 2) hbk2 rfl); (have y0 := free_of_blk (k := 0) hbk2); (have y1 := free_of_blk (k := 1) hbk2); (have y2 := free_of_blk (k := 2) hbk2); (have HA2 := Lib.hid ha2); (have HB2 := Lib.hid (HB1.out.trans (hb2.mono (by omega)))); (obtain ⟨ao2, cap2, rfl⟩ := ha2.arg.isSlice); clear hb2 ha2 hbk2))
  refine bodyPost_ret (v := .agg #[.slice ao2 rr.1.length cap2, .int .i64 (rr.2.2 : Int), .int .u64 (rr.2.1 : Int)]) (by simp [results, Try.results15, go_sem, q0, q1, q2]) rfl ⟨_, rfl, (HA2.out.put3 (by omega) _ _ _).mono (by omega), below_put3 HB2.out _ _ _⟩


theorem div24 (a : Nat) : (a : Int) / 16777216 = ((a / 16777216 : Nat) : Int) := by omega
theorem mod24 (a : Nat) : (a : Int) % 16777216 = ((a % 16777216 : Nat) : Int) := by omega
theorem at_getD {l : List Nat} {q : Nat} (h : q < l.length) : l[q]? = some (l.getD q 0) := by rw [List.getD_eq_getElem?_getD, List.getElem?_eq_getElem h]; rfl
/-- THE REFERENCE's ANSWER -/
theorem refApply_any (t k : Nat) (ht : t ≤ 7) (hk : k < sqN t) (l : List Nat) (hok : sqOk t l.length) (v : Value) (a : Nat) (w : World) (h : ArgW w v l) (hx : ∀ x ∈ l, x < 18446744073709551616) (ha : a < 18446744073709551616) :
    Calls Try.prog 15 #[.int .i64 (t : Int), v, .int .i64 (k : Int), .int .u64 (a : Int)] w (DnP w.heap.size w (sqDo t k l a)) := by
  match t, ht with
  | 0, _ =>
    obtain ⟨x, rfl⟩ := one_of hok (by decide)
    have hx0 := hx x (by simp)
    match k, hk with
    | 0, _ => exact ref_0_0 x v a w ha h hx0
    | 1, _ => exact ref_0_1 x v a w ha h hx0
  | 1, _ =>
    obtain ⟨x, rfl⟩ := one_of hok (by decide)
    have hx0 := hx x (by simp)
    match k, hk with
    | 0, _ => exact ref_1_0 x v a w ha h hx0
    | 1, _ => exact ref_1_1 x v a w ha h hx0
  | 2, _ => exact ref_row2 k l v a w h (many_of hok) (by have : sqN 2 = 3 := rfl; omega)
  | 3, _ => exact ref_row3 k l v a w h (many_of hok) (by have : sqN 3 = 3 := rfl; omega)
  | 4, _ =>
    obtain ⟨x, rfl⟩ := one_of hok (by decide)
    exact ref_set k x v a w h (hx x (by simp)) ha (by have : sqN 4 = 3 := rfl; omega)
  | 5, _ =>
    obtain ⟨x, rfl⟩ := one_of hok (by decide)
    have hx0 := hx x (by simp)
    match k, hk with
    | 0, _ => exact ref_5_0 x v a w ha h hx0
    | 1, _ =>
      by_cases hc : x < a
      · have e : sqDo 5 1 [x] a = ([a], x, 0) := if_pos hc
        rw [e]; exact ref_5_1a x v a w ha h hx0 hc
      · have e : sqDo 5 1 [x] a = ([x], x, 0) := if_neg hc
        rw [e]; exact ref_5_1b x v a w ha h hx0 hc
  | 6, _ =>
    obtain ⟨x, rfl⟩ := one_of hok (by decide)
    have hx0 := hx x (by simp)
    match k, hk with
    | 0, _ => exact ref_6_0 x v a w ha h hx0
    | 1, _ =>
      by_cases hc : x = a / 65536 % 65536
      · have e : sqDo 6 1 [x] a = ([a % 65536], 1, 0) := if_pos hc
        rw [e]; exact ref_6_1a x v a w ha h hx0 hc
      · have e : sqDo 6 1 [x] a = ([x], 0, 0) := if_neg hc
        rw [e]; exact ref_6_1b x v a w ha h hx0 hc
  | 7, _ =>
    have h8 := eight_of hok
    match k, hk with
    | 0, _ =>
      by_cases hc : 8 ≤ a
      · have e : sqDo 7 0 l a = (l, 0, 10) := if_pos hc
        rw [e]; exact ref_7_0a l v a w ha h h8 hx hc
      · have e : sqDo 7 0 l a = (l, l.getD a 0, 0) := if_neg hc
        rw [e]; exact ref_7_0b l v a w ha h h8 hx (by omega) _ (Lib.hid (at_getD (by omega)))
    | 1, _ =>
      by_cases hc : 8 ≤ a / 16777216
      · have e : sqDo 7 1 l a = (l, 0, 10) := if_pos hc
        rw [e]; exact ref_7_1a l v a w ha h h8 hx _ (div24 a) hc
      · have e : sqDo 7 1 l a = (l.set (a / 16777216) (a % 16777216), l.getD (a / 16777216) 0, 0) := if_neg hc
        rw [e]; exact ref_7_1b l v a w ha h h8 hx _ _ (div24 a) (mod24 a) (by omega) (by omega) _ (Lib.hid (at_getD (by omega))) _ (Lib.hid rfl)
end Go.Proofs.Ytlcnhmijagddgaa
