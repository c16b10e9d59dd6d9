/- Walks of loom: Clone, report. -/
import Derived.Test.YtglpalomhhhmhaaY2
import Derived.Test.YtglpalomhhhmhaaK4
import Derived.Lib.SliceRun
namespace Go.Proofs.Ytglpalomhhhmhaa
open Go.ChangeShapes Go.WideShapes Go.ChangeAt Go.RowKit

theorem append_freshk {P : Program} {w : World} {ops : Array Oper} {rest : List Oper} {o : Oper} {a : Act} {Q : Exit → Act → World → Prop} (hgd : o.guard = none) (s x : Operand) (t : TypeId)
    (ho : o.op = .call { callee := .builtin .append, args := #[s, x], argTypes := #[t, t] })
    (e : TypeId) (sz : Nat) (i : TypeInfo) (z : Value) (bytes : Nat) (ht : P.underlying t = some (.slice e)) (hi : P.info? e = some i) (hz : i.zero = some z)
    (hsize : i.size = sz) (hsz : 0 < sz) (hby : i.bytes = bytes) (hzs : z.cells.size = sz) (hbs : bytes ≤ 4096)
    (g0 : Nat) (hg0 : g0 = w.heap.size) (hs : a.eval s = .slice (some ⟨g0, 0, none⟩) 0 0) (ao : Option Addr) (b off cap n : Nat) (us : List Value) (hx : a.eval x = .slice ao n cap) (hn : us.length = n * sz)
    (ha : 0 < n → ao = some ⟨b, off, none⟩) (hc : ∀ (j : Nat) (u : Value), us[j]? = some u → w.cell? ⟨b, off + j, none⟩ = some u) (hcap : ao = none → cap = 0) (h1 : us.all (fun u => u.oneCell') = true) (hle : n ≤ 4294967296)
    (h : ∀ g cap' cur w', w'.heap[g]? = some (.cells cur e (0, 0)) → (∀ (j : Nat) (u : Value), us[j]? = some u → cur[j]? = some u) → w.heap.size ≤ g → Below w.heap.size w w' →
      wpList P ops Q rest (a.put o.dst (.slice (some ⟨g, 0, none⟩) n cap')) w') : wpList P ops Q (o :: rest) a (w.alloc (.cells #[] e)) := by
  subst hg0
  have hmade : (w.alloc (.cells #[] e)).ownsRow w.heap.size e sz (.slice (some ⟨w.heap.size, 0, none⟩) 0 0) 0 [] :=
    World.ownsRow_made (base := w.heap.size) (e := e) (size := sz) w #[] 0 (Nat.le_refl _) (by unfold maxLen; omega) (by simp)
  cases ao with
  | none =>
    have hn0 : n = 0 := by
      cases n with
      | zero => rfl
      | succ n => exact absurd (ha (by omega)) (by simp)
    subst hn0
    obtain rfl : cap = 0 := hcap rfl
    refine wpList_append_own_none hgd s x t ho w.heap.size e i sz ht hi _ 0 [] hs hmade hx ?_
    exact h w.heap.size 0 #[] _ (heap_alloc_new w _) (fun j u hu => by
      have h0 : us = [] := List.eq_nil_of_length_eq_zero (by rw [hn]; simp)
      rw [h0] at hu; simp at hu) (Nat.le_refl _) ((Below.refl _ _).alloc (Nat.le_refl _) _)
  | some ad =>
    refine wpList_append_own _ hgd s x t ho w.heap.size e i z sz bytes ht hi hz hsize hby hzs hsz _ 0 [] hs hmade ad n cap us hx hn ?_ (by simpa using h1) (by unfold maxLen; omega) ?_ (by simp) ?_
    · intro j u hj
      have hl : 0 < n := by
        have := (List.getElem?_eq_some_iff.1 hj).1
        rw [hn] at this
        rcases Nat.eq_zero_or_pos n with h0 | h0
        · rw [h0] at this; omega
        · exact h0
      obtain rfl := Option.some.inj (ha hl)
      have hcj := hc j u hj
      have hlt := World.block_lt_of_cell? w ⟨b, off + j, none⟩ hcj
      rw [addr_add _ j b off rfl, World.cell?_alloc_past _ _ _ hlt]
      exact hcj
    · have : (0 + n) * bytes ≤ 4294967296 * 4096 := Nat.mul_le_mul (by omega) hbs
      omega
    · intro v' w' hown hg hnn
      have hvn : v' ≠ .slice none 0 0 := fun h => by
        have h2 := (hnn.1 h).1
        cases h2
      have hbl : Below w.heap.size w w' := ((Below.refl _ _).alloc (Nat.le_refl _) _).grown hg (by simp) (fun k hk => by simp [Value.ownBlock] at hk; omega)
      obtain ⟨_, ⟨rfl, _⟩ | ⟨g, cap', cur, rfl, hg1, hb, _, _, _, h4⟩⟩ := hown
      · exact absurd rfl hvn
      · have := h g cap' cur w' hb (fun j u hj => ?_) hg1 hbl
        · simpa using this
        · rw [List.nil_append] at h4
          rw [← h4, List.getElem?_take] at hj
          split at hj
          · simpa using hj
          · cases hj

theorem infoC : (Try.prog.info? 43).map (fun i => (i.zero.map (fun z => z.cells.size), i.size, i.bytes)) = some (some 6, 6, 48) := by kernel_rfl

set_option maxHeartbeats 400000 in
theorem clone_u64_nil (w : World) : Calls Try.prog 40 #[.slice none 0 0] w fun e w' => e = .returned (.slice none 0 0) ∧ w = w' := by
  have qT : ∀ (w : World) (a : Option Addr) (n c n' c' : Nat), (binOp .eql 27 (.slice a n c) (.slice none n' c')).run Try.prog w = .ok (.bool a.isNone) w := fun w a n c n' c' => Lib.run_eql_slice_nil w _ _ a n c n' c' Try.underlying27
  go_enter Try.func40, Try.ntmps40
  go_wp2
  go_ret
  exact ⟨rfl, rfl⟩

set_option maxHeartbeats 400000 in
/-- a copy of one number -/
theorem clone_int_one (b c : Nat) (x : Int) (w : World) (hx : w.cell? ⟨b, 0, none⟩ = some (.int .i64 x)) :
    Calls Try.prog 41 #[.slice (some ⟨b, 0, none⟩) 1 c] w fun e w' => ∃ (g cap' : Nat) (cur : Array Value), e = .returned (.slice (some ⟨g, 0, none⟩) 1 cap') ∧ w'.heap[g]? = some (.cells cur 3 (0, 0)) ∧ cur[0]? = some (.int .i64 x) ∧ w.heap.size ≤ g ∧ Below w.heap.size w w' := by
  have qT : ∀ (w : World) (a : Option Addr) (n c n' c' : Nat), (binOp .eql 23 (.slice a n c) (.slice none n' c')).run Try.prog w = .ok (.bool a.isNone) w := fun w a n c n' c' => Lib.run_eql_slice_nil w _ _ a n c n' c' Try.underlying23
  obtain ⟨iI, ia, ib, ic, id⟩ := info_parts infoIu
  have HX := Lib.hid hx
  clear hx
  go_enter Try.func41, Try.ntmps41
  go_wp2_with (at_builtin; refine append_fresh rfl _ _ 23 rfl 3 iI (.int .i64 0) 8 Try.underlying23 ia ib ic id rfl (by decide) w.heap.size rfl rfl (some ⟨b, 0, none⟩) b 0 c 1 [.int .i64 x] rfl rfl (fun _ => rfl) (fun j u hj => by
    match j, hj with
    | 0, hj => cases hj; exact HX.out) (fun h => by cases h) rfl (by omega) ?_)
  intro g cap' cur w1 hb hcur hg hbl
  have HC := Lib.hid (hcur 0 _ rfl)
  have HBB := Lib.hid hb
  have HBL := Lib.hid hbl
  clear hb hcur hbl
  go_wp2
  go_ret
  exact ⟨g, cap', cur, rfl, HBB.out, HC.out, hg, HBL.out⟩

/-- calls as cells -/
def callVs (l : List CallV) : List Value := l.flatMap fun x => [.int .i64 x.t, .int .i64 x.o, .int .i64 x.k, .int .u64 (x.a : Int), .int .u64 (x.b : Int), .int .u64 (x.c : Int)]
theorem callVs_len (l : List CallV) : (callVs l).length = l.length * 6 := by
  unfold callVs
  induction l with
  | nil => rfl
  | cons x l ih => rw [List.flatMap_cons, List.length_append, ih]; simp; omega
theorem callVs_get : ∀ (l : List CallV) (i k : Nat) (x : CallV), l[i]? = some x → k < 6 → (callVs l)[i * 6 + k]? = [.int .i64 x.t, .int .i64 x.o, .int .i64 x.k, .int .u64 (x.a : Int), .int .u64 (x.b : Int), .int .u64 (x.c : Int)][k]?
  | [], i, k, x, h, _ => by simp at h
  | y :: l, 0, k, x, h, hk => by
    simp at h; subst h
    unfold callVs
    rw [List.flatMap_cons, Nat.zero_mul, Nat.zero_add, List.getElem?_append_left (by simpa using hk)]
  | y :: l, i + 1, k, x, h, hk => by
    have h' : l[i]? = some x := by simpa using h
    have ih := callVs_get l i k x h' hk
    unfold callVs at ih ⊢
    rw [List.flatMap_cons, List.getElem?_append_right (by simp; omega)]
    have e : (i + 1) * 6 + k - [Value.int .i64 y.t, .int .i64 y.o, .int .i64 y.k, .int .u64 (y.a : Int), .int .u64 (y.b : Int), .int .u64 (y.c : Int)].length = i * 6 + k := by simp; omega
    rw [e, ih]

/-- what a copy of calls is -/
def CloneC (cs : List CallV) (w : World) (e : Ending) (w' : World) : Prop :=
  ∃ ao g cap, e = .returned (.slice ao cs.length cap) ∧ (0 < cs.length → ao = some ⟨g, 0, none⟩ ∧ w.heap.size ≤ g ∧ g < w'.heap.size) ∧ CallsAt w' g 0 cs ∧ Below w.heap.size w w'

theorem calls_one (l : List CallV) : (callVs l).all (fun u => u.oneCell') = true := by
  rw [List.all_eq_true]
  intro u hu
  unfold callVs at hu
  obtain ⟨x, _, hx⟩ := List.mem_flatMap.1 hu
  simp at hx
  rcases hx with rfl | rfl | rfl | rfl | rfl | rfl <;> rfl
theorem calls_of_cells {w w' : World} {b o g : Nat} {cs : List CallV} {cur : Array Value} {t : TypeId} {fr : Nat × Nat} (hC : CallsAt w b o cs) (hb : w'.heap[g]? = some (.cells cur t fr)) (hcur : ∀ (j : Nat) (u : Value), (callVs cs)[j]? = some u → cur[j]? = some u) : CallsAt w' g 0 cs := by
  intro i x hx
  have e : ∀ k, k < 6 → ∀ u, [Value.int .i64 x.t, .int .i64 x.o, .int .i64 x.k, .int .u64 (x.a : Int), .int .u64 (x.b : Int), .int .u64 (x.c : Int)][k]? = some u → w'.cell? ⟨g, 0 + i * 6 + k, none⟩ = some u := fun k hk u hu =>
    cell_of_heap hb (by rw [Nat.zero_add]; exact hcur _ _ (by rw [callVs_get cs i k x hx hk]; exact hu))
  exact ⟨e 0 (by omega) _ rfl, e 1 (by omega) _ rfl, e 2 (by omega) _ rfl, e 3 (by omega) _ rfl, e 4 (by omega) _ rfl, e 5 (by omega) _ rfl, (hC i x hx).2.2.2.2.2.2⟩
theorem calls_cells {w : World} {b o : Nat} {cs : List CallV} (hC : CallsAt w b o cs) : ∀ (j : Nat) (u : Value), (callVs cs)[j]? = some u → w.cell? ⟨b, o + j, none⟩ = some u := by
  intro j u hu
  have hj := (List.getElem?_eq_some_iff.1 hu).1
  rw [callVs_len] at hj
  obtain ⟨x, hx⟩ : ∃ x, cs[j / 6]? = some x := ⟨cs[j / 6]'(by omega), List.getElem?_eq_getElem _⟩
  obtain ⟨c0, c1, c2, c3, c4, c5, _⟩ := hC (j / 6) x hx
  have h6 : j % 6 < 6 := Nat.mod_lt _ (by omega)
  have hg := callVs_get cs (j / 6) (j % 6) x hx h6
  have ej : j / 6 * 6 + j % 6 = j := by omega
  rw [ej, hu] at hg
  have e2 : o + j = o + j / 6 * 6 + j % 6 := by omega
  rw [e2]
  generalize j % 6 = k at hg h6
  match k, h6 with
  | 0, _ => simp at hg; rw [hg]; exact c0
  | 1, _ => simp at hg; rw [hg]; exact c1
  | 2, _ => simp at hg; rw [hg]; exact c2
  | 3, _ => simp at hg; rw [hg]; exact c3
  | 4, _ => simp at hg; rw [hg]; exact c4
  | 5, _ => simp at hg; rw [hg]; exact c5

set_option maxHeartbeats 400000 in
theorem clone_calls (ao : Option Addr) (b o cap : Nat) (cs : List CallV) (w : World) (hl : cs.length ≤ 4294967296) (ha : 0 < cs.length → ao = some ⟨b, o, none⟩) (hc : CallsAt w b o cs) (hn : ao = none → cap = 0) :
    Calls Try.prog 26 #[.slice ao cs.length cap] w (CloneC cs w) := by
  have qT : ∀ (w : World) (a : Option Addr) (n c n' c' : Nat), (binOp .eql 22 (.slice a n c) (.slice none n' c')).run Try.prog w = .ok (.bool a.isNone) w := fun w a n c n' c' => Lib.run_eql_slice_nil w _ _ a n c n' c' Try.underlying22
  cases ao with
  | none =>
    have h0 : cs = [] := by
      cases cs with
      | nil => rfl
      | cons x l => exact absurd (ha (by simp)) (by simp)
    subst h0
    clear ha hc hn
    go_enter Try.func26, Try.ntmps26
    go_wp2
    go_ret
    exact ⟨none, 0, 0, rfl, fun h => absurd h (by simp), fun i x h => by simp at h, Below.refl _ _⟩
  | some ad =>
    obtain ⟨i0, hi, h1⟩ := Option.map_eq_some_iff.1 infoC
    simp only [Prod.mk.injEq] at h1
    obtain ⟨hz, hsz, hby⟩ := h1
    obtain ⟨z, hz0, hzs⟩ := Option.map_eq_some_iff.1 hz
    have HA := Lib.hid ha
    have HC := Lib.hid hc
    have HS := Lib.hid (calls_cells hc)
    have HONE := Lib.hid (calls_one cs)
    have HLEN := Lib.hid (callVs_len cs)
    clear ha hc hn
    go_enter Try.func26, Try.ntmps26
    go_wp2_with (at_builtin; refine append_freshk rfl _ _ 22 rfl 43 6 i0 z 48 Try.underlying22 hi hz0 hsz (by decide) hby hzs (by decide) w.heap.size rfl rfl (some ad) b o cap cs.length (callVs cs) rfl HLEN.out HA.out HS.out (fun h => by cases h) HONE.out hl ?_)
    intro g cap' cur w1 hb hcur hg hbl
    have HC1 : Hid (CallsAt w1 g 0 cs) := Lib.hid (calls_of_cells HC.out hb hcur)
    have hlt := lt_of_heap hb
    have HBL := Lib.hid hbl
    clear hb hcur hbl
    go_wp2
    go_ret
    exact ⟨_, g, cap', rfl, fun _ => ⟨rfl, hg, hlt⟩, HC1.out, HBL.out⟩
end Go.Proofs.Ytglpalomhhhmhaa
