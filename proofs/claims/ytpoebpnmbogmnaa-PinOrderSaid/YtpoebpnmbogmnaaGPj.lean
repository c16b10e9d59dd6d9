/- Pin's model at the program: states of many words; pin, New, Size, Apply. | Pin's model at the program: New, Size, Apply; the model. -/
import Derived.Test.YtpoebpnmbogmnaaGPi
import Derived.Test.YtpoebpnmbogmnaaGM
import Derived.Test.YtpoebpnmbogmnaaGK
import Derived.Test.YtpoebpnmbogmnaaGN
namespace Go.Proofs.Ytpoebpnmbogmnaa
section
open Go.RowKit
set_option linter.unusedVariables false
set_option linter.unusedSimpArgs false
/-- a state's words, in a block of their own -/
def OwnL (w : World) (g : Nat) (l : List Nat) : Prop := ∃ cur, w.heap[g]? = some (.cells cur 37 (0, 0)) ∧ ∀ (i y : Nat), l[i]? = some y → cur[i]? = some (mkU y)
section
variable {w w' : World} {g : Nat} {l : List Nat}
theorem OwnL.cell (h : OwnL w g l) {i y : Nat} (hi : l[i]? = some y) : w.cell? ⟨g, i, none⟩ = some (.int .u64 (y : Int)) := by obtain ⟨cur, h1, h2⟩ := h; exact cell_of_heap h1 (h2 i y hi)
theorem OwnL.free (h : OwnL w g l) (i : Nat) : w.frozen? ⟨g, i, none⟩ = false := by obtain ⟨cur, h1, _⟩ := h; exact free_of_heap h1
theorem OwnL.lt (h : OwnL w g l) : g < w.heap.size := by obtain ⟨cur, h1, _⟩ := h; exact lt_of_heap h1
theorem OwnL.same (h : OwnL w g l) (e : w'.heap[g]? = w.heap[g]?) : OwnL w' g l := by obtain ⟨cur, h1, h2⟩ := h; exact ⟨cur, e.trans h1, h2⟩
theorem OwnL.alloc (h : OwnL w g l) (o : Obj) : OwnL (w.alloc o) g l := h.same (Below.heap_alloc _ _ _ h.lt)
theorem OwnL.other (h : OwnL w g l) {a : Addr} (ha : g ≠ a.block) (v : Value) : OwnL (w.setCell a v) g l := h.same (Below.heap_setCell _ _ _ _ ha)
theorem OwnL.put (h : OwnL w g l) (m z : Nat) (hm : m < l.length) : OwnL (w.setCell ⟨g, m, none⟩ (.int .u64 (z : Int))) g (l.set m z) := by
  obtain ⟨cur, h1, h2⟩ := h
  refine ⟨cur.setIfInBounds m (mkU z), ?_, fun i y hy => ?_⟩
  · simp [World.setCell, Array.getElem?_modify, h1, mkU]
  · rw [Array.getElem?_setIfInBounds]
    by_cases hi : m = i
    · subst hi
      rw [List.getElem?_set_self hm] at hy
      cases hy
      obtain ⟨u, hu⟩ : ∃ u, l[m]? = some u := ⟨_, List.getElem?_eq_getElem hm⟩
      have := (Array.getElem?_eq_some_iff.1 (h2 m u hu)).1
      rw [if_pos rfl, if_pos this]
    · rw [if_neg hi]
      rw [List.getElem?_set_ne hi] at hy
      exact h2 i y hy
theorem OwnL.list (h : OwnL w g l) (cap : Nat) (p : Nat → Prop) (hp : p g) (hl : l.length ≤ 4294967296) : ListAt w 37 mkU p (.slice (some ⟨g, 0, none⟩) l.length cap) l := by
  refine ⟨some ⟨g, 0, none⟩, g, 0, cap, rfl, fun _ => ⟨rfl, hp, ?_⟩, (fun e => by cases e), hl, fun i x hx => ?_⟩
  · obtain ⟨cur, h1, _⟩ := h; exact ⟨cur, h1⟩
  · rw [Nat.zero_add]; exact h.cell hx
end
def OneOutL (l' : List Nat) (er vl : Nat) (lv : Value) (n g cap : Nat) (W : World) (e : Ending) (w' : World) : Prop :=
  e = .returned (.tuple #[.slice (some ⟨g, 0, none⟩) n cap, .agg #[.int .i64 (er : Int), .int .u64 (vl : Int), lv]]) ∧ OwnL w' g l' ∧ ButS (fun b => b = g) W w'
def pinW3 (p q : Int) (x : CallV) (er : Int) (lv : Value) (W : World) : World := ((W.alloc (.cells #[.int .i64 9, .int .i64 p, .int .i64 q] 48)).alloc (.cells #[.int .i64 x.t, .int .i64 x.o, .int .i64 x.k, .int .u64 (x.a : Int), .int .u64 (x.b : Int), .int .u64 (x.c : Int)] 43)).alloc (.cells #[.int .i64 er, .int .u64 0, lv] 39)
theorem pinW3_ok (p q : Int) (x : CallV) (er : Int) (lv : Value) (W : World) {g : Nat} {l : List Nat} (h : OwnL W g l) : OwnL (pinW3 p q x er lv W) g l ∧ ButS (fun b => b = g) W (pinW3 p q x er lv W) ∧ RowBlk 43 (pinW3 p q x er lv W) (W.heap.size + 1) [.int .i64 x.t, .int .i64 x.o, .int .i64 x.k, .int .u64 (x.a : Int), .int .u64 (x.b : Int), .int .u64 (x.c : Int)] ∧ RowBlk 39 (pinW3 p q x er lv W) (W.heap.size + 1 + 1) [.int .i64 er, .int .u64 0, lv] := by
  refine ⟨((h.alloc _).alloc _).alloc _, (((ButS.refl _ _).alloc _).alloc _).alloc _, ?_, ?_⟩
  · have h1 := (RowBlk.new (W.alloc (.cells #[.int .i64 9, .int .i64 p, .int .i64 q] 48)) [.int .i64 x.t, .int .i64 x.o, .int .i64 x.k, .int .u64 (x.a : Int), .int .u64 (x.b : Int), .int .u64 (x.c : Int)] 43).alloc (.cells #[.int .i64 er, .int .u64 0, lv] 39)
    rw [show (W.alloc (.cells #[.int .i64 9, .int .i64 p, .int .i64 q] 48)).heap.size = W.heap.size + 1 by simp] at h1
    exact h1
  · have h1 := RowBlk.new ((W.alloc (.cells #[.int .i64 9, .int .i64 p, .int .i64 q] 48)).alloc (.cells #[.int .i64 x.t, .int .i64 x.o, .int .i64 x.k, .int .u64 (x.a : Int), .int .u64 (x.b : Int), .int .u64 (x.c : Int)] 43)) [.int .i64 er, .int .u64 0, lv] 39
    rw [show ((W.alloc (.cells #[.int .i64 9, .int .i64 p, .int .i64 q] 48)).alloc (.cells #[.int .i64 x.t, .int .i64 x.o, .int .i64 x.k, .int .u64 (x.a : Int), .int .u64 (x.b : Int), .int .u64 (x.c : Int)] 43)).heap.size = W.heap.size + 1 + 1 by simp] at h1
    exact h1
set_option maxRecDepth 20000 in
set_option maxHeartbeats 1000000 in
theorem m_pin1 (p q : Int) (x : CallV) (g cap : Nat) (st : List Nat) (W : World) (h : OwnL W g st) (hx : x.k = 1) : Calls Try.prog 73 #[specAgg 9 p q, .slice (some ⟨g, 0, none⟩) st.length cap, callAgg x] W (OneOutL st 0 0 (.slice (some ⟨g, 0, none⟩) st.length cap) st.length g cap W) := by
  have HX := Lib.hid (pinW3_ok p q x 0 (.slice (some ⟨g, 0, none⟩) st.length cap) W h)
  have HK := Lib.hid hx
  unfold pinW3 at HX
  clear h hx
  unfold specAgg callAgg
  rw [HK.out] at HX ⊢
  go_enter Try.func73, Try.ntmps73
  go_wp2_with fail
  generalize ((W.alloc (.cells #[.int .i64 9, .int .i64 p, .int .i64 q] 48)).alloc (.cells #[.int .i64 x.t, .int .i64 x.o, .int .i64 1, .int .u64 (x.a : Int), .int .u64 (x.b : Int), .int .u64 (x.c : Int)] 43)).alloc (.cells #[.int .i64 0, .int .u64 0, .slice (some ⟨g, 0, none⟩) st.length cap] 39) = W5 at HX ⊢
  have q0 := HX.out.2.2.2.cell (i := 0) rfl
  have q1 := HX.out.2.2.2.cell (i := 1) rfl
  have q2 := HX.out.2.2.2.cell (i := 2) rfl
  exact bodyPost_ret (v := .tuple #[.slice (some ⟨g, 0, none⟩) st.length cap, .agg #[.int .i64 ((0 : Nat) : Int), .int .u64 ((0 : Nat) : Int), .slice (some ⟨g, 0, none⟩) st.length cap]]) (by simp [results, Try.results73, go_sem, q0, q1, q2]) rfl ⟨rfl, HX.out.1, HX.out.2.1⟩
set_option maxRecDepth 20000 in
set_option maxHeartbeats 1000000 in
theorem m_pin9 (p q : Int) (x : CallV) (g cap : Nat) (st : List Nat) (W : World) (h : OwnL W g st) (h1 : ¬ x.k = 1) (h0 : ¬ x.k = 0) : Calls Try.prog 73 #[specAgg 9 p q, .slice (some ⟨g, 0, none⟩) st.length cap, callAgg x] W (OneOutL st 9 0 (.slice none 0 0) st.length g cap W) := by
  have HX := Lib.hid (pinW3_ok p q x 9 (.slice none 0 0) W h)
  unfold pinW3 at HX
  clear h
  unfold specAgg callAgg
  have e1 : (x.k == 1) = false := by rw [beq_eq_false_iff_ne]; exact h1
  have e0 : (x.k == 0) = false := by rw [beq_eq_false_iff_ne]; exact h0
  have e2 : (x.k != 0) = true := by rw [bne_iff_ne]; exact h0
  go_enter Try.func73, Try.ntmps73
  go_wp2_with fail
  generalize ((W.alloc (.cells #[.int .i64 9, .int .i64 p, .int .i64 q] 48)).alloc (.cells #[.int .i64 x.t, .int .i64 x.o, .int .i64 x.k, .int .u64 (x.a : Int), .int .u64 (x.b : Int), .int .u64 (x.c : Int)] 43)).alloc (.cells #[.int .i64 9, .int .u64 0, .slice none 0 0] 39) = W5 at HX ⊢
  have q0 := HX.out.2.2.2.cell (i := 0) rfl
  have q1 := HX.out.2.2.2.cell (i := 1) rfl
  have q2 := HX.out.2.2.2.cell (i := 2) rfl
  exact bodyPost_ret (v := .tuple #[.slice (some ⟨g, 0, none⟩) st.length cap, .agg #[.int .i64 ((9 : Nat) : Int), .int .u64 ((0 : Nat) : Int), .slice none 0 0]]) (by simp [results, Try.results73, go_sem, q0, q1, q2]) rfl ⟨rfl, HX.out.1, HX.out.2.1⟩
set_option maxRecDepth 20000 in
set_option maxHeartbeats 1000000 in
theorem m_pin11 (p q : Int) (x : CallV) (g cap : Nat) (st : List Nat) (W : World) (h : OwnL W g st) (h0 : x.k = 0) (ht : ¬ x.t = 0) : Calls Try.prog 73 #[specAgg 9 p q, .slice (some ⟨g, 0, none⟩) st.length cap, callAgg x] W (OneOutL st 11 0 (.slice none 0 0) st.length g cap W) := by
  have HX := Lib.hid (pinW3_ok p q x 11 (.slice none 0 0) W h)
  have HK := Lib.hid h0
  unfold pinW3 at HX
  clear h h0
  unfold specAgg callAgg
  rw [HK.out] at HX ⊢
  have e1 : (x.t == 0) = false := by rw [beq_eq_false_iff_ne]; exact ht
  have e2 : (x.t != 0) = true := by rw [bne_iff_ne]; exact ht
  go_enter Try.func73, Try.ntmps73
  go_wp2_with fail
  generalize ((W.alloc (.cells #[.int .i64 9, .int .i64 p, .int .i64 q] 48)).alloc (.cells #[.int .i64 x.t, .int .i64 x.o, .int .i64 0, .int .u64 (x.a : Int), .int .u64 (x.b : Int), .int .u64 (x.c : Int)] 43)).alloc (.cells #[.int .i64 11, .int .u64 0, .slice none 0 0] 39) = W5 at HX ⊢
  have q0 := HX.out.2.2.2.cell (i := 0) rfl
  have q1 := HX.out.2.2.2.cell (i := 1) rfl
  have q2 := HX.out.2.2.2.cell (i := 2) rfl
  exact bodyPost_ret (v := .tuple #[.slice (some ⟨g, 0, none⟩) st.length cap, .agg #[.int .i64 ((11 : Nat) : Int), .int .u64 ((0 : Nat) : Int), .slice none 0 0]]) (by simp [results, Try.results73, go_sem, q0, q1, q2]) rfl ⟨rfl, HX.out.1, HX.out.2.1⟩
def mixL (a : Nat) (st : List Nat) (m : Nat) : List Nat := wrL a m ++ st.drop m
theorem mixL_zero (a : Nat) (st : List Nat) : mixL a st 0 = st := by unfold mixL wrL; simp
theorem mixL_all (a : Nat) (st : List Nat) : mixL a st st.length = wrL a st.length := by unfold mixL; rw [List.drop_length, List.append_nil]
theorem mixL_len (a : Nat) (st : List Nat) {m : Nat} (hm : m ≤ st.length) : (mixL a st m).length = st.length := by unfold mixL; rw [List.length_append, wrL_len, List.length_drop]; omega
theorem mixL_at {a m u : Nat} {st : List Nat} (h : st[m]? = some u) : (mixL a st m)[m]? = some u := by
  unfold mixL
  rw [List.getElem?_append_right (by rw [wrL_len]; exact Nat.le_refl _), wrL_len, Nat.sub_self, List.getElem?_drop, Nat.add_zero]
  exact h
theorem mixL_set {a m u : Nat} {st : List Nat} (h : st[m]? = some u) : (mixL a st m).set m ((a + m) % 18446744073709551616) = mixL a st (m + 1) := by
  obtain ⟨hm, hu⟩ := List.getElem?_eq_some_iff.1 h
  unfold mixL
  rw [List.set_append_right _ _ (by rw [wrL_len]; exact Nat.le_refl _), wrL_len, Nat.sub_self, List.drop_eq_getElem_cons hm, List.set_cons_zero]
  unfold wrL
  rw [List.range_succ, List.map_append, List.map_singleton, List.append_assoc]
  rfl
set_option maxRecDepth 20000 in
set_option maxHeartbeats 2000000 in
theorem m_pin0 (p q : Int) (x : CallV) (g cap : Nat) (st : List Nat) (W : World) (h : OwnL W g st) (h0 : x.k = 0) (ht : x.t = 0) (hl : st.length ≤ 8) : Calls Try.prog 73 #[specAgg 9 p q, .slice (some ⟨g, 0, none⟩) st.length cap, callAgg x] W (OneOutL (wrL x.a st.length) 0 0 (.slice none 0 0) st.length g cap W) := by
  have HX := Lib.hid (pinW3_ok p q x 0 (.slice none 0 0) W h)
  have HK := Lib.hid h0
  have HT := Lib.hid ht
  unfold pinW3 at HX
  have hgl := h.lt
  clear h h0 ht
  unfold specAgg callAgg
  rw [HK.out, HT.out] at HX ⊢
  go_enter Try.func73, Try.ntmps73
  go_wp2_with fail
  generalize ((W.alloc (.cells #[.int .i64 9, .int .i64 p, .int .i64 q] 48)).alloc (.cells #[.int .i64 0, .int .i64 x.o, .int .i64 0, .int .u64 (x.a : Int), .int .u64 (x.b : Int), .int .u64 (x.c : Int)] 43)).alloc (.cells #[.int .i64 0, .int .u64 0, .slice none 0 0] 39) = Wx at HX ⊢
  have n1 : W.heap.size + 1 ≠ g := by omega
  have n2 : W.heap.size + 1 + 1 ≠ g := by omega
  go_loopw [27] (fun kv wr => ∃ (m : Nat), m ≤ st.length ∧ kv = .int .i64 m ∧ Hid (OwnL wr g (mixL x.a st m)) ∧ Hid (ButS (fun b => b = g) Wx wr)) (fun kv _ => st.length - (intOf kv).toNat)
  case atStart => exact ⟨0, Nat.zero_le _, rfl, Lib.hid (by rw [mixL_zero]; exact HX.out.1), Lib.hid (ButS.refl _ _)⟩
  case round =>
    obtain ⟨m, hm, rfl, hO, hB⟩ := hrel
    by_cases hlt : m < st.length
    · obtain ⟨u, hu⟩ : ∃ u, st[m]? = some u := ⟨_, List.getElem?_eq_getElem hlt⟩
      have HU := Lib.hid hu
      have cm : wr.cell? ⟨g, m, none⟩ = some (.int .u64 (u : Int)) := hO.out.cell (mixL_at hu)
      have fm : wr.frozen? ⟨g, m, none⟩ = false := hO.out.free m
      have c3 : wr.cell? ⟨W.heap.size + 1, 3, none⟩ = some (.int .u64 (x.a : Int)) := (HX.out.2.2.1.same (hB.out.block _ HX.out.2.2.1.lt n1)).cell rfl
      have hi0 : (0 : Int) ≤ (m : Int) := Int.natCast_nonneg _
      have hi1 : (m : Int) < (st.length : Int) := by omega
      obtain ⟨z, hz⟩ : ∃ z, (x.a + m) % 18446744073709551616 = z := ⟨_, rfl⟩
      have hzi : ((x.a : Int) + (m : Int)) % 18446744073709551616 = (z : Int) := by omega
      have hzw : IntKind.u64.wrap ((x.a : Int) + (m : Int)) = (z : Int) := by rw [IntKind.wrap_u64]; exact hzi
      have hmw : IntKind.u64.wrap (m : Int) = (m : Int) := by rw [IntKind.wrap_u64]; omega
      have HN : Hid (OwnL (wr.setCell ⟨g, m, none⟩ (.int .u64 (z : Int))) g (mixL x.a st (m + 1)) ∧ ButS (fun b => b = g) Wx (wr.setCell ⟨g, m, none⟩ (.int .u64 (z : Int)))) := Lib.hid ⟨by rw [← mixL_set hu, hz]; exact hO.out.put m z (by rw [mixL_len _ _ (by omega)]; exact hlt), hB.out.setCell (.inl rfl) _⟩
      clear hu hz
      go_wp2_with fail
      go_roundw
      case rel => exact ⟨m + 1, by omega, by go_num, Lib.hid HN.out.1, Lib.hid HN.out.2⟩
      case measure => simp [intOf]; omega
    · have hmn : ¬ (m : Int) < (st.length : Int) := by omega
      obtain rfl : m = st.length := by omega
      have ha := HX.out.2.2.2.same (hB.out.block _ HX.out.2.2.2.lt n2)
      have a0 := ha.cell (i := 0) rfl
      have a1 := ha.cell (i := 1) rfl
      have a2 := ha.cell (i := 2) rfl
      have z0 : ∀ j, wr.frozen? ⟨W.heap.size + 1 + 1, j, none⟩ = false := fun j => ha.free
      have hO' := hO.out
      rw [mixL_all] at hO'
      have ng : g ≠ W.heap.size + 1 + 1 := by omega
      have HY : Hid (RowBlk 39 (((wr.setCell ⟨W.heap.size + 1 + 1, 0, none⟩ (.int .i64 0)).setCell ⟨W.heap.size + 1 + 1, 1, none⟩ (.int .u64 0)).setCell ⟨W.heap.size + 1 + 1, 2, none⟩ (.slice none 0 0)) (W.heap.size + 1 + 1) [.int .i64 0, .int .u64 0, .slice none 0 0] ∧ OwnL (((wr.setCell ⟨W.heap.size + 1 + 1, 0, none⟩ (.int .i64 0)).setCell ⟨W.heap.size + 1 + 1, 1, none⟩ (.int .u64 0)).setCell ⟨W.heap.size + 1 + 1, 2, none⟩ (.slice none 0 0)) g (wrL x.a st.length) ∧ ButS (fun b => b = g) W (((wr.setCell ⟨W.heap.size + 1 + 1, 0, none⟩ (.int .i64 0)).setCell ⟨W.heap.size + 1 + 1, 1, none⟩ (.int .u64 0)).setCell ⟨W.heap.size + 1 + 1, 2, none⟩ (.slice none 0 0))) := Lib.hid
        ⟨((ha.put 0 _).put 1 _).put 2 _, ((hO'.other (a := ⟨W.heap.size + 1 + 1, 0, none⟩) ng _).other (a := ⟨W.heap.size + 1 + 1, 1, none⟩) ng _).other (a := ⟨W.heap.size + 1 + 1, 2, none⟩) ng _,
         (((HX.out.2.1.trans hB.out).setCell (x := ⟨W.heap.size + 1 + 1, 0, none⟩) (.inr (by show W.heap.size ≤ W.heap.size + 1 + 1; omega)) _).setCell (x := ⟨W.heap.size + 1 + 1, 1, none⟩) (.inr (by show W.heap.size ≤ W.heap.size + 1 + 1; omega)) _).setCell (x := ⟨W.heap.size + 1 + 1, 2, none⟩) (.inr (by show W.heap.size ≤ W.heap.size + 1 + 1; omega)) _⟩
      clear ha hO'
      go_wp2_with fail
      generalize ((wr.setCell ⟨W.heap.size + 1 + 1, 0, none⟩ (.int .i64 0)).setCell ⟨W.heap.size + 1 + 1, 1, none⟩ (.int .u64 0)).setCell ⟨W.heap.size + 1 + 1, 2, none⟩ (.slice none 0 0) = W5 at HY ⊢
      have q0 := HY.out.1.cell (i := 0) rfl
      have q1 := HY.out.1.cell (i := 1) rfl
      have q2 := HY.out.1.cell (i := 2) rfl
      exact bodyPost_ret (v := .tuple #[.slice (some ⟨g, 0, none⟩) st.length cap, .agg #[.int .i64 ((0 : Nat) : Int), .int .u64 ((0 : Nat) : Int), .slice none 0 0]]) (by simp [results, Try.results73, go_sem, q0, q1, q2]) rfl ⟨rfl, HY.out.2.1, HY.out.2.2⟩
end
section
open Go.RowKit
set_option linter.unusedVariables false
set_option linter.unusedSimpArgs false
set_option maxRecDepth 20000 in
theorem size_pin (n k m : Nat) (q : Int) (hk : 1 ≤ k ∧ k ≤ 8) (hn : n ≤ 16) (hm : (n + 1) * (k + 1) = m) (hm2 : m ≤ 153) (W : World) : Calls Try.prog 41 #[.int .i64 (n : Int), specAgg 9 (k : Int) q] W fun e w' => ∃ s : Int, e = .returned (.int .i64 s) ∧ 0 ≤ s ∧ Below W.heap.size W w' := by
  have h0 : ((n : Int) + 1) * ((k : Int) + 1) = (m : Int) := by rw [← hm]; simp
  have k1 : (1 : Int) ≤ (k : Int) := by omega
  have k2 : (k : Int) ≤ 8 := by omega
  clear hm
  unfold specAgg
  go_enter Try.func41, Try.ntmps41
  go_wp2_with fail
  go_ret
  exact ⟨1 + (m : Int), rfl, by omega, (Below.refl _ _).alloc (Nat.le_refl _) _⟩
theorem zeros_at (k i x : Nat) (h : (List.replicate k 0)[i]? = some x) : (zeros k)[i]? = some (mkU x) := by
  have e : zeros k = (List.replicate k 0).map mkU := by
    unfold zeros
    rw [toList_madeCells_one]
    simp [mkU]
  rw [e, List.getElem?_map, h]; rfl
set_option maxRecDepth 20000 in
theorem new_pin (n q : Int) (k : Nat) (hk : 1 ≤ k ∧ k ≤ 8) (W : World) : Calls Try.prog 42 #[.int .i64 n, specAgg 9 (k : Int) q] W fun e w' => ∃ v, e = .returned v ∧ ListAt w' 37 mkU (fun b => W.heap.size ≤ b) v (List.replicate k 0) ∧ Below W.heap.size W w' := by
  have hmk := run_mk k (by omega)
  have hk0 : (0 : Int) ≤ (k : Int) := by omega
  have hb1 : Hid (Below W.heap.size W (W.alloc (.cells #[.int .i64 9, .int .i64 (k : Int), .int .i64 q] 48))) := Lib.hid ((Below.refl _ _).alloc (Nat.le_refl _) _)
  have hs : Hid ((W.alloc (.cells #[.int .i64 9, .int .i64 (k : Int), .int .i64 q] 48)).heap.size = W.heap.size + 1) := Lib.hid (by simp)
  unfold specAgg
  go_enter Try.func42, Try.ntmps42
  go_wp2_with fail
  go_ret
  refine ⟨_, rfl, ⟨some ⟨W.heap.size + 1, 0, none⟩, W.heap.size + 1, 0, k, by simp, fun _ => ⟨rfl, by omega, ⟨(zeros k).toArray, ?_⟩⟩, (fun e => by cases e), by simp; omega, fun i x hx => ?_⟩, hb1.out.alloc (by rw [hs.out]; omega) _⟩
  · have h1 := heap_alloc_new (W.alloc (.cells #[.int .i64 9, .int .i64 (k : Int), .int .i64 q] 48)) (.cells (zeros k).toArray 37)
    rw [hs.out] at h1; exact h1
  · rw [Nat.zero_add, World.cell?_alloc_at _ _ _ _ hs.out.symm]
    simpa using zeros_at k i x hx
set_option maxRecDepth 20000 in
set_option maxHeartbeats 2000000 in
theorem apply_pinL (st st' : List Nat) (er vl : Nat) (lvf : Nat → Nat → Value) (n p q : Int) (v : Value) (x : CallV) (pr : Nat → Prop) (W : World) (hv : ListAt W 37 mkU pr v st) (hl : st.length ≤ 8) (hll : st'.length = st.length)
    (hls : ∀ g cap, ∃ a b c, lvf g cap = .slice a b c)
    (hf : ∀ (g cap : Nat) (W' : World), OwnL W' g st → Calls Try.prog 73 #[specAgg 9 p q, .slice (some ⟨g, 0, none⟩) st.length cap, callAgg x] W' (OneOutL st' er vl (lvf g cap) st.length g cap W')) :
    Calls Try.prog 45 #[.int .i64 n, specAgg 9 p q, v, callAgg x] W fun e w' => ∃ g cap, e = .returned (.tuple #[.slice (some ⟨g, 0, none⟩) st.length cap, .agg #[.int .i64 (er : Int), .int .u64 (vl : Int), lvf g cap]]) ∧ OwnL w' g st' ∧ W.heap.size ≤ g ∧ Below W.heap.size W w' := by
  obtain ⟨iU, ua, ub, uc, ud⟩ := info_parts info22
  have hvW : ListAt (applyW 9 p q x W) 37 mkU (fun b => b < W.heap.size) v st := hv.keep (fun b hb _ => ⟨(applyW_below 9 p q x W).block b hb.lt, hb.lt⟩)
  obtain ⟨vao, vb, vo, vcap, rfl, hva, hvn, _, hvc⟩ := hvW
  have HF := Lib.hid hf
  have HLS := Lib.hid hls
  have hz := applyW_size 9 p q x W
  have HB1 := Lib.hid (applyW_below 9 p q x W)
  have HS1 := Lib.hid (applyW_spec 9 p q x W)
  have HC1 := Lib.hid (applyW_call 9 p q x W)
  have HA1 := Lib.hid (applyW_ans 9 p q x W)
  have HVA : Hid (0 < st.length → vao = some ⟨vb, vo, none⟩) := Lib.hid (fun h => (hva h).1)
  have HVC : Hid (∀ (j : Nat) (u : Value), (st.map mkU)[j]? = some u → (applyW 9 p q x W).cell? ⟨vb, vo + j, none⟩ = some u) := Lib.hid (fun j u hu => by
    rw [List.getElem?_map] at hu
    obtain ⟨y, hy, rfl⟩ := Option.map_eq_some_iff.1 hu
    exact hvc j y hy)
  have HVN := Lib.hid hvn
  have HONE := Lib.hid (mkU_one st)
  have HML : Hid ((st.map mkU).length = st.length) := Lib.hid (by simp)
  unfold applyW at hz HB1 HS1 HC1 HA1 HVC
  clear hv hf hva hvc hvn hls
  unfold specAgg callAgg at *
  go_enter Try.func45, Try.ntmps45
  go_wp2_with (at_builtin; refine append_fresh rfl _ _ 28 rfl 37 iU (.int .u64 0) 8 Try.underlying28 ua ub uc ud rfl (by decide) (W.heap.size + 1 + 1 + 1) hz.symm rfl vao vb vo vcap st.length (st.map mkU) rfl HML.out HVA.out HVC.out HVN.out HONE.out (by omega) ?_)
  intro g cap cur w1 hcur hcs hg hb1
  (try rw [hz] at hg)
  (try rw [hz] at hb1)
  have HB2 : Hid (Below W.heap.size W w1) := Lib.hid (HB1.out.trans (hb1.mono (by omega)))
  have hs2 := HS1.out.same (hb1.block _ (by omega))
  have hc2 := HC1.out.same (hb1.block _ (by omega))
  have ha2 := HA1.out.same (hb1.block _ (by omega))
  have hO : OwnL w1 g st := ⟨cur, hcur, fun i y hy => hcs i _ (by first | exact hy | (rw [List.getElem?_map, hy]; rfl))⟩
  have s0 : w1.cell? ⟨W.heap.size, 0, none⟩ = some (.int .i64 9) := hs2.cell rfl
  have s1 : w1.cell? ⟨W.heap.size, 1, none⟩ = some (.int .i64 p) := hs2.cell rfl
  have s2 : w1.cell? ⟨W.heap.size, 2, none⟩ = some (.int .i64 q) := hs2.cell rfl
  have d0 := hc2.cell (i := 0) rfl
  have d1 := hc2.cell (i := 1) rfl
  have d2 := hc2.cell (i := 2) rfl
  have d3 := hc2.cell (i := 3) rfl
  have d4 := hc2.cell (i := 4) rfl
  have d5 := hc2.cell (i := 5) rfl
  have HA2 := Lib.hid ha2
  have HO := Lib.hid hO
  clear hb1 hs2 hc2 ha2 HB1 HS1 HC1 HA1 hcur hcs hO
  go_wp2_with fail
  refine (HF.out g cap w1 HO.out).mono ?_
  rintro e w2 ⟨rfl, hO2, hB2⟩
  have ha3 := HA2.out.same (hB2.block _ HA2.out.lt (by omega))
  have a0 := ha3.cell (i := 0) rfl
  have a1 := ha3.cell (i := 1) rfl
  have a2 := ha3.cell (i := 2) rfl
  have z0 : ∀ j, w2.frozen? ⟨W.heap.size + 1 + 1, j, none⟩ = false := fun j => ha3.free
  have hne : g ≠ W.heap.size + 1 + 1 := by omega
  obtain ⟨la, lb, lc, hlv⟩ := HLS.out g cap
  have HLV := Lib.hid hlv
  rw [hlv]
  have HX : Hid (RowBlk 39 (((w2.setCell ⟨W.heap.size + 1 + 1, 0, none⟩ (.int .i64 (er : Int))).setCell ⟨W.heap.size + 1 + 1, 1, none⟩ (.int .u64 (vl : Int))).setCell ⟨W.heap.size + 1 + 1, 2, none⟩ (.slice la lb lc)) (W.heap.size + 1 + 1) [.int .i64 (er : Int), .int .u64 (vl : Int), .slice la lb lc] ∧ OwnL (((w2.setCell ⟨W.heap.size + 1 + 1, 0, none⟩ (.int .i64 (er : Int))).setCell ⟨W.heap.size + 1 + 1, 1, none⟩ (.int .u64 (vl : Int))).setCell ⟨W.heap.size + 1 + 1, 2, none⟩ (.slice la lb lc)) g st' ∧ Below W.heap.size W (((w2.setCell ⟨W.heap.size + 1 + 1, 0, none⟩ (.int .i64 (er : Int))).setCell ⟨W.heap.size + 1 + 1, 1, none⟩ (.int .u64 (vl : Int))).setCell ⟨W.heap.size + 1 + 1, 2, none⟩ (.slice la lb lc))) := Lib.hid
    ⟨((ha3.put 0 _).put 1 _).put 2 _, ((hO2.other (a := ⟨W.heap.size + 1 + 1, 0, none⟩) hne _).other (a := ⟨W.heap.size + 1 + 1, 1, none⟩) hne _).other (a := ⟨W.heap.size + 1 + 1, 2, none⟩) hne _,
     (((HB2.out.trans (hB2.below (B := W.heap.size) (fun k hk => by have : k = g := hk; omega) HB2.out.size)).setCell (show W.heap.size ≤ W.heap.size + 1 + 1 by omega) _).setCell (show W.heap.size ≤ W.heap.size + 1 + 1 by omega) _).setCell (show W.heap.size ≤ W.heap.size + 1 + 1 by omega) _⟩
  clear hO2 hB2 ha3 s0 s1 s2 d0 d1 d2 d3 d4 d5 hlv
  go_wp2_with fail
  generalize ((w2.setCell ⟨W.heap.size + 1 + 1, 0, none⟩ (.int .i64 (er : Int))).setCell ⟨W.heap.size + 1 + 1, 1, none⟩ (.int .u64 (vl : Int))).setCell ⟨W.heap.size + 1 + 1, 2, none⟩ (.slice la lb lc) = W5 at HX ⊢
  have q0 := HX.out.1.cell (i := 0) rfl
  have q1 := HX.out.1.cell (i := 1) rfl
  have q2 := HX.out.1.cell (i := 2) rfl
  exact bodyPost_ret (v := .tuple #[.slice (some ⟨g, 0, none⟩) st.length cap, .agg #[.int .i64 (er : Int), .int .u64 (vl : Int), .slice la lb lc]]) (by simp [results, Try.results45, go_sem, q0, q1, q2]) rfl ⟨g, cap, by rw [HLV.out], HX.out.2.1, by omega, HX.out.2.2⟩
theorem apply_pinD (k : Nat) (hk : 1 ≤ k ∧ k ≤ 8) (n p q : Int) (W : World) (v : Value) (st : List Nat) (x : CallV) (pr : Nat → Prop) (hI : st.length = k) (hv : ListAt W 37 mkU pr v st) :
    Calls Try.prog 45 #[.int .i64 n, specAgg 9 p q, v, callAgg x] W fun e w' =>
      ∃ v' lv, e = .returned (.tuple #[v', .agg #[.int .i64 (((pinD k).ap st x).2.err : Int), .int .u64 (((pinD k).ap st x).2.val : Int), lv]]) ∧ ListAt w' 37 mkU (fun b => W.heap.size ≤ b) v' ((pinD k).ap st x).1 ∧ ListAt w' 37 mkU (fun b => W.heap.size ≤ b) lv ((pinD k).ap st x).2.list ∧ Below W.heap.size W w' := by
  have hl8 : st.length ≤ 8 := by omega
  rw [pinD_ap]
  by_cases k1 : x.k = 1
  · rw [if_pos k1]
    refine (apply_pinL st st 0 0 (fun g cap => .slice (some ⟨g, 0, none⟩) st.length cap) n p q v x pr W hv hl8 rfl (fun g cap => ⟨_, _, _, rfl⟩) (fun g cap W' hO => m_pin1 p q x g cap st W' hO k1)).mono fun e w' ⟨g, cap, he, hO, hg, hb⟩ => ?_
    exact ⟨_, _, he, hO.list cap _ hg (by omega), hO.list cap _ hg (by omega), hb⟩
  · rw [if_neg k1]
    by_cases k0 : x.k = 0
    · rw [if_pos k0]
      by_cases t0 : x.t = 0
      · rw [if_pos t0]
        refine (apply_pinL st (wrL x.a st.length) 0 0 (fun _ _ => .slice none 0 0) n p q v x pr W hv hl8 (wrL_len _ _) (fun g cap => ⟨_, _, _, rfl⟩) (fun g cap W' hO => m_pin0 p q x g cap st W' hO k0 t0 hl8)).mono fun e w' ⟨g, cap, he, hO, hg, hb⟩ => ?_
        have h1 := hO.list cap (fun b => W.heap.size ≤ b) hg (by rw [wrL_len]; omega)
        rw [wrL_len] at h1
        exact ⟨_, _, he, h1, ListAt.nil _ _ _ _, hb⟩
      · rw [if_neg t0]
        refine (apply_pinL st st 11 0 (fun _ _ => .slice none 0 0) n p q v x pr W hv hl8 rfl (fun g cap => ⟨_, _, _, rfl⟩) (fun g cap W' hO => m_pin11 p q x g cap st W' hO k0 t0)).mono fun e w' ⟨g, cap, he, hO, hg, hb⟩ => ?_
        exact ⟨_, _, he, hO.list cap _ hg (by omega), ListAt.nil _ _ _ _, hb⟩
    · rw [if_neg k0]
      refine (apply_pinL st st 9 0 (fun _ _ => .slice none 0 0) n p q v x pr W hv hl8 rfl (fun g cap => ⟨_, _, _, rfl⟩) (fun g cap W' hO => m_pin9 p q x g cap st W' hO k1 k0)).mono fun e w' ⟨g, cap, he, hO, hg, hb⟩ => ?_
      exact ⟨_, _, he, hO.list cap _ hg (by omega), ListAt.nil _ _ _ _, hb⟩
theorem model_pin (n k : Nat) (hn : n ≤ 16) (hk : 1 ≤ k ∧ k ≤ 8) (q : Int) : ModelC (pinD k) (fun st => st.length = k) (n : Int) 9 (k : Int) q where
  size := fun W => size_pin n k _ q hk hn rfl (Nat.le_trans (Nat.mul_le_mul (show n + 1 ≤ 17 by omega) (show k + 1 ≤ 9 by omega)) (by decide)) W
  new := fun W => new_pin n q k hk W
  apply := fun W v st x pr hI ha hv => apply_pinD k hk n k q W v st x pr hI hv
  legal := fun W v lv st x pr qr hI ha hv hl => legal_any (by omega) (fun W v st x pr hI ha hv => apply_pinD k hk n k q W v st x pr hI hv) W v lv st x pr qr hI ha hv hl
  inv0 := List.length_replicate
  invS := fun st x hI ha => by
    rw [pinD_ap]
    split
    · exact hI
    · split
      · split
        · show (wrL x.a st.length).length = k
          rw [wrL_len]; exact hI
        · exact hI
      · exact hI
end
end Go.Proofs.Ytpoebpnmbogmnaa
