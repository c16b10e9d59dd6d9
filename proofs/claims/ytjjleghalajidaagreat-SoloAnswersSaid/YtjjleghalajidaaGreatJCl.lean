/- The reference's Apply, piece by piece: cell. -/
import Derived.Test.YtjjleghalajidaaGreatGJ6
import Derived.Test.YtjjleghalajidaaGreatGN
namespace Go.Proofs.YtjjleghalajidaaGreat
open Go.ChangeShapes Go.WideShapes Go.ChangeAt Go.RowKit
set_option linter.unusedVariables false
set_option linter.unusedSimpArgs false
set_option maxRecDepth 100000

abbrev memO (v : Value) : Obj := .cells #[v, .int .i64 0, .int .i64 0, .int .i64 0, .int .i64 0, .int .i64 0] 141
/-- what Of gives of words of the call's own -/
def OfR (l : List Nat) (w : World) (e : Ending) (w' : World) : Prop :=
  ∃ g cap, e = .returned (.agg #[.slice (some ⟨g, 0, none⟩) l.length cap, .int .i64 0, .int .i64 0, .int .i64 0, .int .i64 0, .int .i64 0]) ∧ OwnW w' (w.heap.size + 1) (.slice (some ⟨g, 0, none⟩) l.length cap) l ∧ Below w.heap.size w w'
theorem OwnW.ne_mem {w : World} {B b : Nat} {v : Value} {l : List Nat} {c : Array Value} (h : OwnW w B v l) (hb : w.heap[b]? = some (.cells c 141)) : v.ownBlock ≠ some b := by
  obtain ⟨_, ⟨rfl, _⟩ | ⟨g, c1, u, rfl, _, hb1, _⟩⟩ := h
  · intro h; cases h
  · intro h
    simp only [Value.ownBlock, Option.some.injEq] at h
    subst h
    rw [hb1] at hb
    simp at hb
set_option maxHeartbeats 2000000 in
theorem ofR_any (v : Value) (l : List Nat) (w : World) (h : ArgW w v l) (h0 : 0 < l.length) (hl : l.length ≤ 4294967296) :
    Calls Tryz.prog 98 #[v] w (OfR l w) := by
  obtain ⟨iI, ia, ib, ic, id⟩ := info_parts info22
  obtain ⟨ao, b, o, cap, rfl, ha, hn, hc⟩ := h
  have HA := Lib.hid ha
  have HN := Lib.hid hn
  have HS : Hid (∀ (j : Nat) (u : Value), (l.map wU)[j]? = some u → (w.alloc (memO (.slice none 0 0))).cell? ⟨b, o + j, none⟩ = some u) := Lib.hid (fun j u hu => by
    rw [List.getElem?_map] at hu
    obtain ⟨x, hx, rfl⟩ := Option.map_eq_some_iff.1 hu
    have h1 := hc j x hx
    rw [World.cell?_alloc_past _ _ _ (World.block_lt_of_cell? w _ h1)]
    exact h1)
  have HONE := Lib.hid (wU_one l)
  have HLEN : Hid ((l.map wU).length = l.length) := Lib.hid (by simp)
  clear ha hc hn
  go_enter Tryz.func98, Tryz.ntmps98
  go_wp2_with (at_builtin; refine append_fresh_own (w := w.alloc (memO (.slice none 0 0))) rfl _ _ 37 rfl 55 iI (.int .u64 0) 8 Tryz.underlying37 ia ib ic id rfl (by decide) (w.heap.size + 1) (by simp) rfl ao b o cap l.length (l.map wU) rfl HLEN.out HA.out HS.out HN.out HONE.out hl ?_; intro v1 w1 how hnn hbl; (have HO : Hid (OwnW w1 (w.heap.size + 1) v1 l) := Lib.hid (by unfold OwnW; simpa using how)); (have hbk : w1.heap[w.heap.size]? = some (.cells #[.slice none 0 0, .int .i64 0, .int .i64 0, .int .i64 0, .int .i64 0, .int .i64 0] 141) := (hbl.block _ (by simp)).trans (heap_alloc_new _ _)); (have k0 := Tb.cell_of_blkT (k := 0) hbk rfl); (have k1 := Tb.cell_of_blkT (k := 1) hbk rfl); (have k2 := Tb.cell_of_blkT (k := 2) hbk rfl); (have k3 := Tb.cell_of_blkT (k := 3) hbk rfl); (have k4 := Tb.cell_of_blkT (k := 4) hbk rfl); (have k5 := Tb.cell_of_blkT (k := 5) hbk rfl); (have z0 := Tb.free_of_blkT (k := 0) hbk); (have z1 := Tb.free_of_blkT (k := 1) hbk); (have z2 := Tb.free_of_blkT (k := 2) hbk); (have z3 := Tb.free_of_blkT (k := 3) hbk); (have z4 := Tb.free_of_blkT (k := 4) hbk); (have z5 := Tb.free_of_blkT (k := 5) hbk); (have HNE := Lib.hid (HO.out.ne_mem hbk)); (have HB : Hid (Below w.heap.size w w1) := Lib.hid (((Below.refl _ _).alloc (Nat.le_refl _) _).trans (hbl.mono (by simp)))); (obtain ⟨g, c7, rfl, _, _, _, _⟩ := HO.out.opened h0); clear how hnn hbl hbk)
  refine bodyPost_ret (v := .agg #[.slice (some ⟨g, 0, none⟩) l.length c7, .int .i64 0, .int .i64 0, .int .i64 0, .int .i64 0, .int .i64 0]) (by simp [results, Tryz.results98, go_sem, k0, k1, k2, k3, k4, k5]) rfl ⟨g, c7, rfl, ?_, ?_⟩
  · exact ((((((HO.out.other _ (a := ⟨w.heap.size, 0, none⟩) HNE.out).other _ (a := ⟨w.heap.size, 1, none⟩) HNE.out).other _ (a := ⟨w.heap.size, 2, none⟩) HNE.out).other _ (a := ⟨w.heap.size, 3, none⟩) HNE.out).other _ (a := ⟨w.heap.size, 4, none⟩) HNE.out).other _ (a := ⟨w.heap.size, 5, none⟩) HNE.out)
  · exact ((((((HB.out.setCell (p := ⟨w.heap.size, 0, none⟩) (Nat.le_refl _) _).setCell (p := ⟨w.heap.size, 1, none⟩) (Nat.le_refl _) _).setCell (p := ⟨w.heap.size, 2, none⟩) (Nat.le_refl _) _).setCell (p := ⟨w.heap.size, 3, none⟩) (Nat.le_refl _) _).setCell (p := ⟨w.heap.size, 4, none⟩) (Nat.le_refl _) _).setCell (p := ⟨w.heap.size, 5, none⟩) (Nat.le_refl _) _)

theorem refIs_of {w1 : World} {B g cap : Nat} {m : List Nat} (h : OwnW w1 B (.slice (some ⟨g, 0, none⟩) m.length cap) m) : Nm.RefIs (w1.alloc (memO (.slice (some ⟨g, 0, none⟩) m.length cap))) w1.heap.size g cap m ⟨0, 0, 0, 0, 0⟩ := by
  have hgl := (World.ownsRow.lt h g rfl).2
  obtain ⟨_, ⟨hv, _⟩ | ⟨g', c1, cur, hv, _, hb1, _, _, _, h4⟩⟩ := h
  · cases hv
  · cases hv
    refine ⟨heap_alloc_new _ _, ⟨cur, (Below.heap_alloc w1 _ g hgl).trans hb1, fun i x hx => ?_⟩, by omega⟩
    have h5 : (m.map wU)[i]? = some (wU x) := by rw [List.getElem?_map, hx]; rfl
    rw [← h4, List.getElem?_take] at h5
    split at h5
    · have h6 : cur[i]? = some (wU x) := by simpa using h5
      exact h6
    · cases h5
set_option maxHeartbeats 4000000 in
theorem rcell_go (p q t ob kd : Int) (a b c val : Nat) (m m' : List Nat) (cn : Nm.Cn) (v : Value) (B : Nat) (w : World) (h : OwnW w B v m) (hB : B ≤ w.heap.size) (hp : 1 ≤ p ∧ p ≤ 64) (hk : 0 ≤ kd ∧ kd < 4) (ha : (a : Int) < p) (hm0 : 0 < m.length) (hml : m.length ≤ 64) (hmm : m'.length = m.length)
    (hAC : ∀ (br g cap : Nat) (W : World), Nm.RefIs W br g cap m ⟨0, 0, 0, 0, 0⟩ → Calls Tryz.prog 99 #[.pointer (some ⟨br, 0, none⟩), .int .i64 kd, .int .i64 (a : Int), .int .u64 (b : Int), .int .u64 (c : Int)] W (Nm.LeftR (.int .u64 (val : Int)) br g cap m' cn W)) :
    Calls Tryz.prog 62 #[Tb.specV 0 p q, v, callV t ob kd (a : Int) (b : Int) (c : Int)] w (ChP B w ⟨m', 0, val, []⟩) := by
  have HX := Lib.hid (apBox w 0 p q t ob kd a b c (ansC 0 0 (.slice none 0 0)))
  have n0 : decide (kd < 0) = false := decide_eq_false (by omega)
  have n1 : decide (3 < kd) = false := decide_eq_false (by omega)
  have n2 : decide (p ≤ (a : Int)) = false := decide_eq_false (by omega)
  have hp1 := hp.1
  have hp2 := hp.2
  have HAC := Lib.hid hAC
  have HOF : Hid (∀ W, ArgW W v m → Calls Tryz.prog 98 #[v] W (OfR m W)) := Lib.hid (fun W h => ofR_any v m W h hm0 (by omega))
  have HA0 : Hid (ArgW (apW w 0 p q t ob kd a b c (ansC 0 0 (.slice none 0 0))) v m) := Lib.hid (h.arg.below HX.out.bel)
  have HMM := Lib.hid hmm
  obtain ⟨ao, cap, rfl⟩ := h.arg.isSlice
  unfold apW at HX HA0
  generalize hw0 : ((w.alloc (Tb.specO 0 p q)).alloc (callO t ob kd (a : Int) (b : Int) (c : Int))).alloc (ansC 0 0 (.slice none 0 0)) = W at *
  unfold Tb.specO at hw0
  have HLT := Lib.hid HX.out.lt
  obtain ⟨s0, s1, s2, c0, c1, c2, c3, c4, c5, _, _⟩ := HX.out
  clear h hk hAC hmm hp
  unfold Tb.specV
  go_enter Tryz.func62, Tryz.ntmps62
  go_wp2_with (first
    | (go_at_call 98; refine (HOF.out _ HA0.out).mono ?_; rintro e w1 ⟨g, cap1, rfl, ho1, hb1⟩; (have hb1' : Below W.heap.size W (w1.alloc (memO (.slice (some ⟨g, 0, none⟩) m.length cap1))) := hb1.alloc hb1.size _); (have HX1 := Lib.hid (HX.out.next hb1')); (have HRM := Lib.hid ho1.room); (have hgl : g < w1.heap.size := (World.ownsRow.lt ho1 g rfl).2); (have hgB : W.heap.size + 1 ≤ g := (World.ownsRow.lt ho1 g rfl).1); (have HGB := Lib.hid hgB); (have HGL := Lib.hid hgl); (have HRI : Hid (Nm.RefIs (w1.alloc (memO (.slice (some ⟨g, 0, none⟩) m.length cap1))) w1.heap.size g cap1 m ⟨0, 0, 0, 0, 0⟩) := Lib.hid (refIs_of ho1)); clear s0 s1 s2 c0 c1 c2 c3 c4 c5; (obtain ⟨s0, s1, s2, c0, c1, c2, c3, c4, c5, _, _⟩ := HX1.out); (have HZ1 := Lib.hid hb1.size); (have HB1 := Lib.hid hb1'); clear ho1 hb1 hb1' hgl hgB)
    | (go_at_call 99; refine (HAC.out _ _ _ _ HRI.out).mono ?_; rintro e w2 ⟨rfl, hR2, hBt⟩; (have hbk : w2.heap[w.heap.size + 1 + 1]? = some (.cells #[.int .i64 0, .int .u64 0, .slice none 0 0] 57) := (hBt.block _ (by have := HX1.out.lt; omega) (by have := HLT.out; have := HZ1.out; omega) (by have := HLT.out; have := HGB.out; omega)).trans HX1.out.ans); (have k0 := Tb.cell_of_blkT (k := 0) hbk rfl); (have k1 := Tb.cell_of_blkT (k := 1) hbk rfl); (have k2 := Tb.cell_of_blkT (k := 2) hbk rfl); (have z0 := Tb.free_of_blkT (k := 0) hbk); (have z1 := Tb.free_of_blkT (k := 1) hbk); (have z2 := Tb.free_of_blkT (k := 2) hbk); (have r0 := hR2.c0); (rw [HMM.out] at r0); (have HR2 := Lib.hid hR2); (have HBT := Lib.hid hBt); clear hR2 hBt hbk s0 s1 s2 c0 c1 c2 c3 c4 c5))
  have HBW : Below W.heap.size W w2 := ⟨HBT.out.os.trans HB1.out.os, HBT.out.tape.trans HB1.out.tape, HBT.out.output.trans HB1.out.output, Nat.le_trans HB1.out.size HBT.out.size, fun k hk => (HBT.out.block k (Nat.lt_of_lt_of_le hk HB1.out.size) (by have := HZ1.out; omega) (by have := HGB.out; omega)).trans (HB1.out.block k hk)⟩
  refine bodyPost_ret (v := .tuple #[.slice (some ⟨g, 0, none⟩) m.length cap1, .agg #[.int .i64 0, .int .u64 (val : Int), .slice none 0 0]]) (by simp [results, Tryz.results62, go_sem, k0, k1, k2]) rfl ⟨_, _, rfl, ?_, ⟨ArgB.nil _ _, room_nil⟩, put3_below ((HX.out.bel.mono hB).trans (HBW.mono (Nat.le_trans hB HX.out.bel.size))) (by omega) _ _ _⟩
  have hA : ArgB w2 (W.heap.size + 1) (.slice (some ⟨g, 0, none⟩) m.length cap1) m' := ⟨_, g, 0, cap1, by rw [HMM.out], fun _ => ⟨rfl, HGB.out⟩, (fun h => by cases h), fun i x hx => by rw [Nat.zero_add]; exact HR2.out.word hx⟩
  exact ⟨(hA.put3 (by have := HLT.out; omega) _ _ _).mono (by have := HX.out.bel.size; omega), HRM.out⟩

theorem rcell_any (p q : Int) (m : List Nat) (t ob kd : Int) (a b c : Nat) (v : Value) (B : Nat) (w : World) (h : OwnW w B v m) (hB : B ≤ w.heap.size) (hp : 1 ≤ p ∧ p ≤ 64) (hk : 0 ≤ kd ∧ kd < 4) (h1 : (m.length : Int) = p) :
    Calls Tryz.prog 62 #[Tb.specV 0 p q, v, callV t ob kd (a : Int) (b : Int) (c : Int)] w (ChP B w (mdCell p m kd a b c)) := by
  by_cases hbig : p ≤ (a : Int)
  · have hm : mdCell p m kd a b c = ⟨m, 10, 0, []⟩ := by unfold mdCell; rw [if_pos hbig]
    rw [hm]
    exact rcell_big p q t ob kd _ _ a m v B w h hB hp hk hbig
  · have hal : a < m.length := by omega
    obtain ⟨x, hx⟩ : ∃ x, m[a]? = some x := ⟨m[a], List.getElem?_eq_getElem hal⟩
    have hg := getD_of hx
    have h4 : kd = 0 ∨ kd = 1 ∨ kd = 2 ∨ kd = 3 := by omega
    unfold mdCell
    rw [if_neg hbig]
    rcases h4 with rfl | rfl | rfl | rfl
    · rw [if_pos rfl]
      unfold mdShow
      rw [hg]
      exact rcell_go p q t ob 0 a b c x m m _ v B w h hB hp hk (by omega) (by omega) (by omega) rfl (fun br g cap W hR => Nm.racc_read br g cap a x b c m _ W hR hx (by omega) (by decide))
    · rw [if_neg (by decide), if_pos rfl]
      exact rcell_go p q t ob 1 a b c 0 m (m.set a b) _ v B w h hB hp hk (by omega) (by omega) (by omega) (by simp) (fun br g cap W hR => Nm.racc_write br g cap a x b c m _ W hR hx (by omega) (by decide))
    · rw [if_neg (by decide), if_neg (by decide), if_pos rfl, hg]
      by_cases hxb : x = b
      · subst hxb
        rw [if_neg (by simp)]
        exact rcell_go p q t ob 2 a x c 1 m (m.set a c) _ v B w h hB hp hk (by omega) (by omega) (by omega) (by simp) (fun br g cap W hR => Nm.racc_hit br g cap a x c m _ W hR hx (by omega) (by decide))
      · rw [if_pos hxb]
        exact rcell_go p q t ob 2 a b c 0 m m _ v B w h hB hp hk (by omega) (by omega) (by omega) rfl (fun br g cap W hR => Nm.racc_miss br g cap a x b c m _ W hR hx (by omega) (by decide) hxb)
    · rw [if_neg (by decide), if_neg (by decide), if_neg (by decide)]
      unfold mdAdd
      rw [hg]
      exact rcell_go p q t ob 3 a b c x m (m.set a ((x + b) % 18446744073709551616)) _ v B w h hB hp hk (by omega) (by omega) (by omega) (by simp) (fun br g cap W hR => Nm.racc_add br g cap a x b c 3 m _ W hR hx (by omega) (by decide) (by decide) (by decide) (by decide))
end Go.Proofs.YtjjleghalajidaaGreat
