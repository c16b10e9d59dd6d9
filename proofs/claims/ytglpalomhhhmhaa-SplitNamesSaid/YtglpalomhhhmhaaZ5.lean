/- Walks of loom: object, invoke. -/
import Derived.Test.YtglpalomhhhmhaaZ4
namespace Go.Proofs.Ytglpalomhhhmhaa
open Go.RowKit
theorem enter_nowhere (args : Array Value) (w : World) : (callFunc 69 args).run Try.prog w = .ok (.enter 69 args) w := by kernel_rfl
theorem enter_refusal (args : Array Value) (w : World) : (callFunc 68 args).run Try.prog w = .ok (.enter 68 args) w := by kernel_rfl
theorem meth_nowhere (w : World) : (method 276 124 (.agg #[]) "Invoke").run Try.prog w = .ok (69, .agg #[]) w := by kernel_rfl
theorem meth_refusal (a : Int) (w : World) : (method 276 115 (.agg #[.int .i64 a]) "Step").run Try.prog w = .ok (68, .agg #[.int .i64 a]) w := by kernel_rfl
/-- which operation comes of what Invoke tells -/
def opOf (opv : Value) (e : Int) : Value := if e = 0 then opv else .iface 115 (.agg #[.int .i64 e])

/-- a loom's struct -/
def loomVs (cv : Value) (lb bm : Nat) (ov vb : Value) (mc : Nat) (ticks idle : Int) : List Value := [cv, .pointer (some ⟨lb, 0, none⟩), .pointer (some ⟨bm, 0, none⟩), ov, vb, .map (some mc), .int .i64 ticks, .int .i64 idle]

/-- append of one cell, where it must be known in which block what comes of it lies -/
theorem append_at1 {P : Program} {w : World} {ops : Array Oper} {rest : List Oper} {o : Oper} {a : Act} {Q : Exit → Act → World → Prop} (hgd : o.guard = none) (s x : Operand) (t : TypeId)
    (ho : o.op = .call { callee := .builtin .append, args := #[s, x], argTypes := #[t, t] })
    (base : Nat) (e : TypeId) (i : TypeInfo) (z : Value) (ht : P.underlying t = some (.slice e)) (hi : P.info? e = some i) (hz : i.zero = some z)
    (hsize : i.size = 1) (hby : i.bytes = 8) (hzs : z.cells.size = 1)
    (v : Value) (n : Nat) (xs : List Value) (hs : a.eval s = v) (hown : w.ownsRow base e 1 v n xs)
    (u : Value) (g0 : Nat) (hg0 : g0 = w.heap.size) (hx : a.eval x = .slice (some ⟨g0, 0, none⟩) 1 1) (h1 : u.oneCell' = true)
    (hn : n ≤ 4294967296) (hbase : base ≤ w.heap.size)
    (h : ∀ v' w', w'.ownsRow base e 1 v' (n + 1) (xs ++ [u]) → (w.alloc (.cells #[u] e)).grownBy w' v.ownBlock → (v'.ownBlock = v.ownBlock ∨ v'.ownBlock = some (w.heap.size + 1)) → wpList P ops Q rest (a.put o.dst v') w') :
    wpList P ops Q (o :: rest) a (w.alloc (.cells #[u] e)) := by
  subst hg0
  refine wpList_append_own_at _ hgd s x t ho base e i z 1 8 ht hi hz hsize hby hzs (by decide) v n xs hs (hown.alloc _) ⟨w.heap.size, 0, none⟩ 1 1 [u] hx rfl ?_ (by simpa using h1) (by unfold maxLen; omega) (by omega) (by simp; omega) ?_
  · intro j y hj
    rw [addr_add _ j w.heap.size 0 rfl, World.cell?_alloc_at _ _ _ _ rfl]
    simpa using hj
  · intro v' w' h2 h3 _ h5
    refine h v' w' h2 h3 (h5.imp id (fun h => by rw [h]; simp))

/-- a row of the call's own is no map -/
theorem owns_no_map {P : Program} {k e : TypeId} {w : World} {b n B sz m : Nat} {z v : Value} {f : Int → Value} {xs : List Value} (h : MapIs P k w b n z f) (ho : w.ownsRow B e sz v m xs) : v.ownBlock ≠ some b := by
  intro e1
  obtain ⟨_, ⟨rfl, _⟩ | ⟨g, cap, cur, rfl, _, hh, _⟩⟩ := ho
  · cases e1
  · cases e1; exact h.no_cells hh
def ptr (g : Nat) : Value := .pointer (some ⟨g, 0, none⟩)
theorem zeroPt (w : World) : (zeroValue 81).run Try.prog w = .ok (.pointer none) w := by kernel_rfl
theorem infoPt : (Try.prog.info? 81).map (fun i => (i.zero, i.size, i.bytes)) = some (some (.pointer none), 1, 8) := by kernel_rfl

theorem cstores {w : World} {mc n : Nat} {f : Int → Value} (h : MapIs Try.prog 3 w mc n (.pointer none) f) (hn : n < maxLen) {p : Int} (hp : 0 ≤ p ∧ p < 16) :
    ∃ g : Value → World, (∀ v, (Instr.mapUpdate 75 (.map (some mc)) (.int .i64 p) v).run Try.prog w = .ok () (g v)) ∧ ∀ v, MapIs Try.prog 3 (g v) mc (n + 1) (.pointer none) (updF f p v) ∧ w.mapTurned (g v) mc :=
  ⟨fun v => Classical.choose (h.store Try.underlying3 Try.underlying75 hn hp v), fun v => (Classical.choose_spec (h.store Try.underlying3 Try.underlying75 hn hp v)).1,
    fun v => (Classical.choose_spec (h.store Try.underlying3 Try.underlying75 hn hp v)).2⟩

theorem MapIs.ne_row {P : Program} {k t : TypeId} {w : World} {b n g : Nat} {z : Value} {f : Int → Value} {vs : List Value} (h : MapIs P k w b n z f) (hr : RowBlk t w g vs) : g ≠ b := by
  intro e; subst e; exact h.no_cells hr

theorem calls_drew {w : World} {b o : Nat} {l : List CallV} (h : CallsAt w b o l) : CallsAt w.drew b o l := h


theorem MapIs.sameB {P : Program} {k : TypeId} {w w' : World} {b n : Nat} {z : Value} {f : Int → Value} (h : MapIs P k w b n z f) (e : w'.heap[b]? = w.heap[b]?) : MapIs P k w' b n z f := by
  obtain ⟨D, ⟨es, c, h0, h1⟩, h2⟩ := h
  exact ⟨D, ⟨es, c, e.trans h0, h1⟩, h2⟩
theorem owns_sameB {w w' : World} {B : Nat} {e : TypeId} {sz n : Nat} {v : Value} {xs : List Value} (h : w.ownsRow B e sz v n xs) (hb : ∀ k, v.ownBlock = some k → w'.heap[k]? = w.heap[k]?) : w'.ownsRow B e sz v n xs := by
  obtain ⟨h1, h2 | ⟨g, cap, cur, rfl, hg, hh, r⟩⟩ := h
  · exact ⟨h1, .inl h2⟩
  · exact ⟨h1, .inr ⟨g, cap, cur, rfl, hg, (hb g rfl).trans hh, r⟩⟩
/-- the object that a call names -/
def objOf (objs : List Value) (k : Int) : Value := if k < 0 then .iface 124 (.agg #[]) else objs.getD k.toNat (.iface 124 (.agg #[]))
/-- objects lie in a row -/
def ObjsAt (w : World) (go : Nat) (objs : List Value) : Prop := ∀ (i : Nat) (v : Value), objs[i]? = some v → w.cell? ⟨go, i, none⟩ = some v

set_option maxRecDepth 20000 in
set_option maxHeartbeats 1000000 in
theorem objects_any (L lb bm mc go capo : Nat) (objs : List Value) (cv vb : Value) (ticks idle k : Int) (w : World) (hL : RowBlk 78 w L (loomVs cv lb bm (.slice (some ⟨go, 0, none⟩) objs.length capo) vb mc ticks idle)) (ho : ObjsAt w go objs)
    (hk : -9223372036854775808 ≤ k ∧ k ≤ 9223372036854775807) :
    Calls Try.prog 38 #[.pointer (some ⟨L, 0, none⟩), .int .i64 k] w fun e w' => e = .returned (objOf objs k) ∧ w = w' := by
  have c3 : w.cell? ⟨L, 3, none⟩ = some (.slice (some ⟨go, 0, none⟩) objs.length capo) := hL.cell rfl
  have hlt := hL.lt
  clear hL
  unfold objOf
  by_cases h0 : k < 0
  · rw [if_pos h0]
    go_enter Try.func38, Try.ntmps38
    go_wp2
    go_ret
    exact ⟨rfl, rfl⟩
  · rw [if_neg h0]
    by_cases h1 : (objs.length : Int) ≤ k
    · have e : objs.getD k.toNat (.iface 124 (.agg #[])) = .iface 124 (.agg #[]) := by rw [List.getD_eq_getElem?_getD, List.getElem?_eq_none (by omega)]; rfl
      rw [e]
      go_enter Try.func38, Try.ntmps38
      go_wp2
      go_ret
      exact ⟨rfl, rfl⟩
    · obtain ⟨n, rfl⟩ : ∃ n : Nat, k = n := ⟨k.toNat, by omega⟩
      obtain ⟨v, hv⟩ : ∃ v, objs[n]? = some v := ⟨objs[n]'(by omega), List.getElem?_eq_getElem _⟩
      have e : objs.getD (n : Int).toNat (.iface 124 (.agg #[])) = v := by rw [Int.toNat_natCast, List.getD_eq_getElem?_getD, hv]; rfl
      rw [e]
      have c0 := ho n v hv
      have hi1 : (n : Int) < (objs.length : Int) := by omega
      clear ho hv
      go_enter Try.func38, Try.ntmps38
      go_wp2
      go_ret
      exact ⟨rfl, rfl⟩

section
variable {M : Mach}
/-- what an object's Invoke leaves -/
def InvRel (K : MachRel M) (r : M.S × (M.Q ⊕ Nat)) (FO : Nat → Prop) (W : World) (en : Ending) (w' : World) : Prop :=
  ButS FO W w' ∧ ∃ (opv : Value) (e : Int) (F FO' : Nat → Prop), en = .returned (.tuple #[opv, .int .i64 e]) ∧ K.Obj w' r.1 FO' ∧ OpQ K w' (opOf opv e) r.2 F ∧ (∀ b, F b → W.heap.size ≤ b ∧ b < w'.heap.size) ∧ (∀ b, FO' b → b < w'.heap.size ∧ (FO b ∨ W.heap.size ≤ b) ∧ ¬ F b)
def InvC (K : MachRel M) (obj : Value) (x : CallV) (r : M.S × (M.Q ⊕ Nat)) (FO : Nat → Prop) (w : World) : Prop :=
  ∃ (tid : TypeId) (v : Value) (fid : FuncId), obj = .iface tid v ∧ (∀ w' : World, (method 276 tid v "Invoke").run Try.prog w' = .ok (fid, v) w') ∧ (∀ (args : Array Value) (w' : World), (callFunc fid args).run Try.prog w' = .ok (.enter fid args) w') ∧
    ∀ W : World, Below w.heap.size w W → Calls Try.prog fid #[v, callAgg x] W (InvRel K r FO W)
theorem inv_nowhere (K : MachRel M) (x : CallV) (s : M.S) (FO : Nat → Prop) (w : World) (hO : K.Obj w s FO) (hlt : ∀ b, FO b → b < w.heap.size) : InvC K (.iface 124 (.agg #[])) x (s, .inr 12) FO w :=
  ⟨_, _, _, rfl, meth_nowhere, enter_nowhere, fun W hW => (nowhere_any x W).mono fun e w' ⟨he, hb⟩ =>
    ⟨ButS.of_below hb, .nilIface, 12, fun _ => False, FO, he, K.obj_keep hO (fun k hk => (hb.block k (Nat.lt_of_lt_of_le (hlt k hk) hW.size)).trans (hW.block k (hlt k hk))) (fun _ h => h), ⟨rfl, by omega⟩, fun b h => h.elim,
      fun b h => ⟨Nat.lt_of_lt_of_le (hlt b h) (Nat.le_trans hW.size hb.size), .inl h, id⟩⟩⟩

def InvPost (K : MachRel M) (r : M.S × (M.Q ⊕ Nat)) (FO : Nat → Prop) (cv : Value) (L lb bm : Nat) (ov vb : Value) (mc : Nat) (ticks idle : Int) (i N k : Nat) (p : Int) (f : Int → Value) (ps : List Value) (w : World) (e : Ending) (w' : World) : Prop :=
  e = .returned (.tuple #[]) ∧ ∃ (g : Nat) (vb' opv : Value) (F FO' : Nat → Prop), RowBlk 78 w' L (loomVs cv lb bm ov vb' mc ticks idle) ∧ RowBlk 117 w' g (invVs i ticks 0 0 0 0 (.slice none 0 0) (.slice none 0 0) opv) ∧
    MapIs Try.prog 3 w' mc (N + 1) (.pointer none) (updF f p (ptr g)) ∧ w'.ownsRow (L + 1) 81 1 vb' (k + 1) (ps ++ [ptr g]) ∧ (w.heap.size ≤ g ∧ ¬ F g ∧ ¬ FO' g) ∧ K.Obj w' r.1 FO' ∧ OpQ K w' opv r.2 F ∧
    (∀ b, F b → w.heap.size ≤ b ∧ b < w'.heap.size) ∧ (∀ b, FO' b → b < w'.heap.size ∧ (FO b ∨ w.heap.size ≤ b) ∧ ¬ F b) ∧ (∀ k, vb'.ownBlock = some k → vb.ownBlock = some k ∨ (w.heap.size ≤ k ∧ ¬ F k ∧ ¬ FO' k)) ∧
    ButS (fun k => k = L ∨ k = mc ∨ vb.ownBlock = some k ∨ FO k) w w'

set_option maxRecDepth 100000 in
set_option maxHeartbeats 4000000 in
theorem invoke_gen (K : MachRel M) (r : M.S × (M.Q ⊕ Nat)) (FO : Nat → Prop) (L lb bm mc go capo gc capC N k i : Nat) (objs : List Value) (aoC : Option Addr) (cs : List CallV) (x : CallV) (vb : Value) (ticks idle p : Int) (f : Int → Value) (ps : List Value) (w : World)
    (hL : RowBlk 78 w L (loomVs (.slice aoC cs.length capC) lb bm (.slice (some ⟨go, 0, none⟩) objs.length capo) vb mc ticks idle)) (ho : ObjsAt w go objs) (hC : CallsAt w gc 0 cs) (haC : 0 < cs.length → aoC = some ⟨gc, 0, none⟩)
    (hcl : cs.length ≤ 1000) (hx : cs[i]? = some x) (hI : InvC K (objOf objs x.o) x r FO w) (hM : MapIs Try.prog 3 w mc N (.pointer none) f) (hN : N < maxLen) (hp : 0 ≤ p ∧ p < 16)
    (hown : w.ownsRow (L + 1) 81 1 vb k ps) (hk : k ≤ 4294967296) (hFO : ∀ b, FO b → b < w.heap.size ∧ b ≠ L ∧ b ≠ mc ∧ vb.ownBlock ≠ some b) :
    Calls Try.prog 28 #[.pointer (some ⟨L, 0, none⟩), .int .i64 p, .int .i64 (i : Int)] w (InvPost K r FO (.slice aoC cs.length capC) L lb bm (.slice (some ⟨go, 0, none⟩) objs.length capo) vb mc ticks idle i N k p f ps w) := by
  have hil : i < cs.length := (List.getElem?_eq_some_iff.1 hx).1
  obtain rfl := haC (by omega)
  obtain ⟨c0, c1, c2, c3, c4, c5, _, hxo, _⟩ := hC i x hx
  rw [Nat.zero_add] at c0 c1 c2 c3 c4 c5
  obtain ⟨tid, v, fid, hobj, hm, hent, hcall⟩ := hI
  have HCALL := Lib.hid hcall
  have HL := Lib.hid hL
  have HM := Lib.hid hM
  have HOWN := Lib.hid hown
  have HFO := Lib.hid hFO
  have HOLT0 : Hid (∀ b, vb.ownBlock = some b → b < w.heap.size) := Lib.hid (fun b h => (hown.lt b h).2)
  have hmcl := hM.lt
  have hLlt := hL.lt
  have l0 : w.cell? ⟨L, 0, none⟩ = some (.slice (some ⟨gc, 0, none⟩) cs.length capC) := hL.cell rfl
  have hi0 : (0 : Int) ≤ (i : Int) := Int.natCast_nonneg _
  have hi1 : (i : Int) < (cs.length : Int) := by omega
  obtain ⟨iI, ia, ib, ic, id⟩ := info_parts infoPt
  have HOB : Hid (Calls Try.prog 38 #[.pointer (some ⟨L, 0, none⟩), .int .i64 x.o] (w.alloc (.cells #[.int .i64 x.t, .int .i64 x.o, .int .i64 x.k, .int .u64 x.a, .int .u64 x.b, .int .u64 x.c] 43)).drew
      fun e w' => e = .returned (.iface tid v) ∧ (w.alloc (.cells #[.int .i64 x.t, .int .i64 x.o, .int .i64 x.k, .int .u64 x.a, .int .u64 x.b, .int .u64 x.c] 43)).drew = w') := Lib.hid (by
    have h := objects_any L lb bm mc go capo objs (.slice (some ⟨gc, 0, none⟩) cs.length capC) vb ticks idle x.o (w.alloc (.cells #[.int .i64 x.t, .int .i64 x.o, .int .i64 x.k, .int .u64 x.a, .int .u64 x.b, .int .u64 x.c] 43)).drew (hL.alloc _).drew (fun j y hy => by show (w.alloc _).cell? _ = _; have h1 := ho j y hy; rw [World.cell?_alloc_past _ _ _ (World.block_lt_of_cell? w ⟨go, j, none⟩ h1)]; exact h1) hxo
    rw [hobj] at h
    exact h)
  clear hL hM hown hcall hobj ho hx hC hFO
  go_enter Try.func28, Try.ntmps28
  go_wp2_with fail
  have HL1 := Lib.hid (HL.out.alloc (.cells #[.int .i64 x.t, .int .i64 x.o, .int .i64 x.k, .int .u64 x.a, .int .u64 x.b, .int .u64 x.c] 43))
  have HM1 := Lib.hid (HM.out.alloc (.cells #[.int .i64 x.t, .int .i64 x.o, .int .i64 x.k, .int .u64 x.a, .int .u64 x.b, .int .u64 x.c] 43))
  have HO1 := Lib.hid (HOWN.out.alloc (.cells #[.int .i64 x.t, .int .i64 x.o, .int .i64 x.k, .int .u64 x.a, .int .u64 x.b, .int .u64 x.c] 43))
  have HB1 : Hid (ButS (fun k => k = L ∨ k = mc ∨ vb.ownBlock = some k ∨ FO k) w (w.alloc (.cells #[.int .i64 x.t, .int .i64 x.o, .int .i64 x.k, .int .u64 x.a, .int .u64 x.b, .int .u64 x.c] 43))) := Lib.hid ((ButS.refl _ _).alloc _)
  have HBW1 : Hid (Below w.heap.size w (w.alloc (.cells #[.int .i64 x.t, .int .i64 x.o, .int .i64 x.k, .int .u64 x.a, .int .u64 x.b, .int .u64 x.c] 43))) := Lib.hid ((Below.refl _ _).alloc (Nat.le_refl _) _)
  have HC1 : Hid (RowBlk 43 (w.alloc (.cells #[.int .i64 x.t, .int .i64 x.o, .int .i64 x.k, .int .u64 x.a, .int .u64 x.b, .int .u64 x.c] 43)) w.heap.size [.int .i64 x.t, .int .i64 x.o, .int .i64 x.k, .int .u64 (x.a : Int), .int .u64 (x.b : Int), .int .u64 (x.c : Int)]) := Lib.hid (RowBlk.new _ _ _)
  clear c0 c1 c2 c3 c4 c5 l0 HL HM HOWN
  generalize w.alloc (.cells #[.int .i64 x.t, .int .i64 x.o, .int .i64 x.k, .int .u64 x.a, .int .u64 x.b, .int .u64 x.c] 43) = W1 at HL1 HM1 HO1 HB1 HC1 HBW1 HOB ⊢
  have d0 := HC1.out.cell (i := 0) rfl
  have d1 := HC1.out.cell (i := 1) rfl
  have d2 := HC1.out.cell (i := 2) rfl
  have d3 := HC1.out.cell (i := 3) rfl
  have d4 := HC1.out.cell (i := 4) rfl
  have d5 := HC1.out.cell (i := 5) rfl
  have hws := HB1.out.size
  go_region_held3 (fun w' => w'.cell? ⟨w.heap.size, 0, none⟩ = some (.int .i64 x.t) ∧ w'.cell? ⟨w.heap.size, 1, none⟩ = some (.int .i64 x.o) ∧ w'.cell? ⟨w.heap.size, 2, none⟩ = some (.int .i64 x.k) ∧ w'.cell? ⟨w.heap.size, 3, none⟩ = some (.int .u64 (x.a : Int)) ∧ w'.cell? ⟨w.heap.size, 4, none⟩ = some (.int .u64 (x.b : Int)) ∧ w'.cell? ⟨w.heap.size, 5, none⟩ = some (.int .u64 (x.c : Int)))
    (first | exact ⟨e0, e1, e2, e3, e4, e5⟩ | go_keep)
    (first
      | (go_at_call 38
         refine HOB.out.mono ?_
         rintro e w2 ⟨rfl, rfl⟩)
      | (refine (HCALL.out _ (below_drew HBW1.out)).mono ?_
         rintro e w3 ⟨hb3, opv, er, F, FO', rfl, hob3, hop3, hf1, hf2⟩
         have hc3 : RowBlk 43 w3 w.heap.size [.int .i64 x.t, .int .i64 x.o, .int .i64 x.k, .int .u64 (x.a : Int), .int .u64 (x.b : Int), .int .u64 (x.c : Int)] := RowBlk.same HC1.out.drew (hb3.block _ HC1.out.lt (fun h => by have := (HFO.out _ h).1; omega))
         have e0 := hc3.cell (i := 0) rfl
         have e1 := hc3.cell (i := 1) rfl
         have e2 := hc3.cell (i := 2) rfl
         have e3 := hc3.cell (i := 3) rfl
         have e4 := hc3.cell (i := 4) rfl
         have e5 := hc3.cell (i := 5) rfl
         have HB3 := Lib.hid hb3
         have HOB3 := Lib.hid hob3
         have HOP3 := Lib.hid hop3
         have HF13 := Lib.hid hf1
         have HF23 := Lib.hid hf2
         clear hb3 hc3 hob3 hop3 hf1 hf2))
  have hb3 := HB3.out
  have hs3 : W1.heap.size ≤ w3.heap.size := hb3.size
  have HL3 : Hid (RowBlk 78 w3 L (loomVs (.slice (some ⟨gc, 0, none⟩) cs.length capC) lb bm (.slice (some ⟨go, 0, none⟩) objs.length capo) vb mc ticks idle)) := Lib.hid (HL1.out.drew.same (hb3.block _ HL1.out.lt (fun h => (HFO.out _ h).2.1 rfl)))
  have HM3 : Hid (MapIs Try.prog 3 w3 mc N (.pointer none) f) := Lib.hid (HM1.out.drew.sameB (hb3.block _ HM1.out.lt (fun h => (HFO.out _ h).2.2.1 rfl)))
  have HO3 : Hid (w3.ownsRow (L + 1) 81 1 vb k ps) := Lib.hid (owns_sameB (w := W1.drew) HO1.out (fun k hk => hb3.block k (HO1.out.lt k hk).2 (fun h => (HFO.out k h).2.2.2 hk)))
  have HBB : Hid (ButS (fun k => k = L ∨ k = mc ∨ vb.ownBlock = some k ∨ FO k) w w3) := Lib.hid (HB1.out.drew.trans (hb3.mono (fun k _ h => .inr (.inr (.inr h)))))
  have hwd : W1.drew.heap.size = W1.heap.size := rfl
  have HF1 : Hid (∀ b, F b → w.heap.size ≤ b ∧ b < w3.heap.size) := Lib.hid (fun b h => by have := HF13.out b h; omega)
  have HF2 : Hid (∀ b, FO' b → b < w3.heap.size ∧ (FO b ∨ w.heap.size ≤ b) ∧ ¬ F b) := Lib.hid (fun b h => by have h' := HF23.out b h; exact ⟨h'.1, h'.2.1.imp (fun h => h) (fun h => by omega), h'.2.2⟩)
  clear HF13 HF23
  clear hb3 HB3 HC1 HL1 HM1 HO1 HB1 HOB HCALL d0 d1 d2 d3 d4 d5 e0 e1 e2 e3 e4 e5
  have l6 : w3.cell? ⟨L, 6, none⟩ = some (.int .i64 ticks) := HL3.out.cell rfl
  have l4' : w3.cell? ⟨L, 4, none⟩ = some vb := HL3.out.cell rfl
  have hLl3 := HL3.out.lt
  have HOLT : Hid (∀ b, vb.ownBlock = some b → b < w.heap.size) := HOLT0
  obtain ⟨qt, qu, hop⟩ := HOP3.out.iface
  have HOPV : Hid (opOf opv er = .iface qt qu) := Lib.hid hop
  by_cases her : er = 0
  · have HOP : Hid (opOf opv er = opv) := Lib.hid (by unfold opOf; rw [if_pos her])
    rw [HOP.out] at hop
    subst hop
    subst her
    go_wp2_with (at_builtin; refine append_at1 rfl _ _ 76 rfl (L + 1) 81 iI (.pointer none) Try.underlying76 ia ib ic id rfl vb k ps rfl (HO3.out.alloc _) (ptr w3.heap.size) (w3.heap.size + 1) (by simp) rfl rfl hk (by simp; omega) ?_)
    intro v1 w5 ho5 hg5 hl5
    obtain ⟨ao1, g1, cap1, hv1, hao1, hrest1⟩ := owns_open ho5
    obtain rfl := hao1 (Nat.succ_pos k)
    subst hv1
    clear hrest1 hao1
    have HL5b := Lib.hid hl5
    clear hl5
    have hfr : ButS (fun k => k = L ∨ k = mc ∨ vb.ownBlock = some k ∨ FO k) w w5 := ((HBB.out.alloc _).alloc _).trans (ButS.of_grown hg5 (fun k hk => .inr (.inr (.inl hk))))
    have HF5 := Lib.hid hfr
    have HL5 : Hid (RowBlk 78 w5 L (loomVs (.slice (some ⟨gc, 0, none⟩) cs.length capC) lb bm (.slice (some ⟨go, 0, none⟩) objs.length capo) vb mc ticks idle)) := Lib.hid (((HL3.out.alloc _).alloc _).same (hg5.block L (by simp; omega) (fun e => by have := (HO3.out.lt L e.symm).1; omega)))
    have HI5 : Hid (RowBlk 117 w5 w3.heap.size (invVs i ticks 0 0 0 0 (.slice none 0 0) (.slice none 0 0) (opOf (.iface qt qu) 0))) := Lib.hid (by
      rw [HOP.out]
      exact ((RowBlk.new w3 _ _).alloc _).same (hg5.block w3.heap.size (by simp; omega) (fun e => by have := (HO3.out.lt _ e.symm).2; omega)))
    have HM5 : Hid (MapIs Try.prog 3 w5 mc N (.pointer none) f) := Lib.hid (((HM3.out.alloc _).alloc _).kept hg5 (fun e => owns_no_map HM3.out HO3.out e.symm))
    have HO5 := Lib.hid ho5
    have l4 : w5.cell? ⟨L, 4, none⟩ = some vb := HL5.out.cell rfl
    have lf4 : w5.frozen? ⟨L, 4, none⟩ = false := HL5.out.free
    have hLI : L ≠ w3.heap.size := by omega
    have HL6 : Hid (RowBlk 78 (w5.setCell ⟨L, 4, none⟩ (.slice (some ⟨g1, 0, none⟩) (k + 1) cap1)) L (loomVs (.slice (some ⟨gc, 0, none⟩) cs.length capC) lb bm (.slice (some ⟨go, 0, none⟩) objs.length capo) (.slice (some ⟨g1, 0, none⟩) (k + 1) cap1) mc ticks idle)) := Lib.hid (HL5.out.put 4 (.slice (some ⟨g1, 0, none⟩) (k + 1) cap1))
    have HI6 := Lib.hid (HI5.out.other (a := ⟨L, 4, none⟩) (fun e => hLI e.symm) (.slice (some ⟨g1, 0, none⟩) (k + 1) cap1))
    have HM6 := Lib.hid (HM5.out.setCell (a := ⟨L, 4, none⟩) (fun e => HM5.out.ne_row HL5.out e.symm) (.slice (some ⟨g1, 0, none⟩) (k + 1) cap1))
    have HO6 := Lib.hid (owns_set HO5.out (a := ⟨L, 4, none⟩) (Nat.lt_succ_self L) (.slice (some ⟨g1, 0, none⟩) (k + 1) cap1))
    have HF6 := Lib.hid (HF5.out.setCell (x := ⟨L, 4, none⟩) (.inl (.inl rfl)) (.slice (some ⟨g1, 0, none⟩) (k + 1) cap1))
    have l5 : (w5.setCell ⟨L, 4, none⟩ (.slice (some ⟨g1, 0, none⟩) (k + 1) cap1)).cell? ⟨L, 5, none⟩ = some (.map (some mc)) := HL6.out.cell rfl
    obtain ⟨gs, hst, hgs⟩ := cstores HM6.out hN hp
    have HGS := Lib.hid hgs
    have HG5B := Lib.hid hg5
    have HG5S : Hid (w3.heap.size + 2 ≤ w5.heap.size) := Lib.hid (by have := hg5.size; simp at this; omega)
    clear ho5 hg5 hfr hgs
    go_wp2_with fail
    go_end0
    obtain ⟨hM7, hT7⟩ := HGS.out (ptr w3.heap.size)
    have hg7 := hT7.grown
    have kp : ∀ b, b < w3.heap.size → (F b ∨ FO' b) → (gs (ptr w3.heap.size)).heap[b]? = w3.heap[b]? := fun b hb hf => by
      have n1 : b ≠ L ∧ b ≠ mc ∧ vb.ownBlock ≠ some b := hf.elim (fun h => by have := (HF1.out b h).1; exact ⟨by omega, by omega, fun e => by have := (HOLT.out b e); omega⟩) (fun h => (HF2.out b h).2.1.elim (fun h => (HFO.out b h).2) (fun h => ⟨by omega, by omega, fun e => by have := (HOLT.out b e); omega⟩))
      refine (hg7.block b (by simp [World.setCell]; have := HG5S.out; omega) (fun e => n1.2.1 (by cases e; rfl))).trans ((Below.heap_setCell _ ⟨L, 4, none⟩ _ b n1.1).trans ((HG5B.out.block b (by simp; omega) (fun e => n1.2.2 e.symm)).trans ?_))
      exact (Below.heap_alloc _ _ b (by simp; omega)).trans (Below.heap_alloc _ _ b hb)
    have hsz : w3.heap.size ≤ (gs (ptr w3.heap.size)).heap.size := by have h1 := hg7.size; have h2 := HG5S.out; simp [World.setCell] at h1; omega
    refine ⟨rfl, w3.heap.size, .slice (some ⟨g1, 0, none⟩) (k + 1) cap1, opOf (.iface qt qu) 0, F, FO', HL6.out.same (hg7.block L HL6.out.lt (fun e => HM6.out.ne_row HL6.out (by cases e; rfl))), HI6.out.same (hg7.block _ HI6.out.lt (fun e => HM6.out.ne_row HI6.out (by cases e; rfl))), hM7, HO6.out.kept hg7 ?_,
      ⟨by omega, fun h => by have := (HF1.out _ h).2; omega, fun h => by have := (HF2.out _ h).1; omega⟩, K.obj_keep HOB3.out (fun b h => kp b (HF2.out b h).1 (.inr h)) (fun _ h => h), HOP3.out.keep (fun b h => kp b (HF1.out b h).2 (.inl h)) (fun _ h => h),
      fun b h => ⟨(HF1.out b h).1, Nat.lt_of_lt_of_le (HF1.out b h).2 hsz⟩, fun b h => ⟨Nat.lt_of_lt_of_le (HF2.out b h).1 hsz, (HF2.out b h).2⟩, fun b h => HL5b.out.imp (fun e => by rw [← e]; exact h) (fun e => by
        have e2 : w3.heap.size + 1 ≤ b := by rw [e] at h; simp at h; omega
        exact ⟨by omega, fun h => by have := (HF1.out _ h).2; omega, fun h => by have := (HF2.out _ h).1; omega⟩), HF6.out.trans (ButS.of_grown hg7 (fun k hk => .inr (.inl (by cases hk; rfl))))⟩
    cases hb : (Value.slice (some ⟨g1, 0, none⟩) (k + 1) cap1).ownBlock with
    | none => exact .inl rfl
    | some g => right; intro e; exact owns_no_map HM6.out HO6.out (by rw [hb]; exact e)
  · have HOP : Hid (opOf opv er = .iface 115 (.agg #[.int .i64 er])) := Lib.hid (by unfold opOf; rw [if_neg her])
    go_wp2_with (at_builtin; refine append_at1 rfl _ _ 76 rfl (L + 1) 81 iI (.pointer none) Try.underlying76 ia ib ic id rfl vb k ps rfl (HO3.out.alloc _) (ptr w3.heap.size) (w3.heap.size + 1) (by simp) rfl rfl hk (by simp; omega) ?_)
    intro v1 w5 ho5 hg5 hl5
    obtain ⟨ao1, g1, cap1, hv1, hao1, hrest1⟩ := owns_open ho5
    obtain rfl := hao1 (Nat.succ_pos k)
    subst hv1
    clear hrest1 hao1
    have HL5b := Lib.hid hl5
    clear hl5
    have hfr : ButS (fun k => k = L ∨ k = mc ∨ vb.ownBlock = some k ∨ FO k) w w5 := ((HBB.out.alloc _).alloc _).trans (ButS.of_grown hg5 (fun k hk => .inr (.inr (.inl hk))))
    have HF5 := Lib.hid hfr
    have HL5 : Hid (RowBlk 78 w5 L (loomVs (.slice (some ⟨gc, 0, none⟩) cs.length capC) lb bm (.slice (some ⟨go, 0, none⟩) objs.length capo) vb mc ticks idle)) := Lib.hid (((HL3.out.alloc _).alloc _).same (hg5.block L (by simp; omega) (fun e => by have := (HO3.out.lt L e.symm).1; omega)))
    have HI5 : Hid (RowBlk 117 w5 w3.heap.size (invVs i ticks 0 0 0 0 (.slice none 0 0) (.slice none 0 0) (opOf opv er))) := Lib.hid (by
      rw [HOP.out]
      exact ((RowBlk.new w3 _ _).alloc _).same (hg5.block w3.heap.size (by simp; omega) (fun e => by have := (HO3.out.lt _ e.symm).2; omega)))
    have HM5 : Hid (MapIs Try.prog 3 w5 mc N (.pointer none) f) := Lib.hid (((HM3.out.alloc _).alloc _).kept hg5 (fun e => owns_no_map HM3.out HO3.out e.symm))
    have HO5 := Lib.hid ho5
    have l4 : w5.cell? ⟨L, 4, none⟩ = some vb := HL5.out.cell rfl
    have lf4 : w5.frozen? ⟨L, 4, none⟩ = false := HL5.out.free
    have hLI : L ≠ w3.heap.size := by omega
    have HL6 : Hid (RowBlk 78 (w5.setCell ⟨L, 4, none⟩ (.slice (some ⟨g1, 0, none⟩) (k + 1) cap1)) L (loomVs (.slice (some ⟨gc, 0, none⟩) cs.length capC) lb bm (.slice (some ⟨go, 0, none⟩) objs.length capo) (.slice (some ⟨g1, 0, none⟩) (k + 1) cap1) mc ticks idle)) := Lib.hid (HL5.out.put 4 (.slice (some ⟨g1, 0, none⟩) (k + 1) cap1))
    have HI6 := Lib.hid (HI5.out.other (a := ⟨L, 4, none⟩) (fun e => hLI e.symm) (.slice (some ⟨g1, 0, none⟩) (k + 1) cap1))
    have HM6 := Lib.hid (HM5.out.setCell (a := ⟨L, 4, none⟩) (fun e => HM5.out.ne_row HL5.out e.symm) (.slice (some ⟨g1, 0, none⟩) (k + 1) cap1))
    have HO6 := Lib.hid (owns_set HO5.out (a := ⟨L, 4, none⟩) (Nat.lt_succ_self L) (.slice (some ⟨g1, 0, none⟩) (k + 1) cap1))
    have HF6 := Lib.hid (HF5.out.setCell (x := ⟨L, 4, none⟩) (.inl (.inl rfl)) (.slice (some ⟨g1, 0, none⟩) (k + 1) cap1))
    have l5 : (w5.setCell ⟨L, 4, none⟩ (.slice (some ⟨g1, 0, none⟩) (k + 1) cap1)).cell? ⟨L, 5, none⟩ = some (.map (some mc)) := HL6.out.cell rfl
    obtain ⟨gs, hst, hgs⟩ := cstores HM6.out hN hp
    have HGS := Lib.hid hgs
    have HG5B := Lib.hid hg5
    have HG5S : Hid (w3.heap.size + 2 ≤ w5.heap.size) := Lib.hid (by have := hg5.size; simp at this; omega)
    clear ho5 hg5 hfr hgs
    go_wp2_with fail
    go_end0
    obtain ⟨hM7, hT7⟩ := HGS.out (ptr w3.heap.size)
    have hg7 := hT7.grown
    have kp : ∀ b, b < w3.heap.size → (F b ∨ FO' b) → (gs (ptr w3.heap.size)).heap[b]? = w3.heap[b]? := fun b hb hf => by
      have n1 : b ≠ L ∧ b ≠ mc ∧ vb.ownBlock ≠ some b := hf.elim (fun h => by have := (HF1.out b h).1; exact ⟨by omega, by omega, fun e => by have := (HOLT.out b e); omega⟩) (fun h => (HF2.out b h).2.1.elim (fun h => (HFO.out b h).2) (fun h => ⟨by omega, by omega, fun e => by have := (HOLT.out b e); omega⟩))
      refine (hg7.block b (by simp [World.setCell]; have := HG5S.out; omega) (fun e => n1.2.1 (by cases e; rfl))).trans ((Below.heap_setCell _ ⟨L, 4, none⟩ _ b n1.1).trans ((HG5B.out.block b (by simp; omega) (fun e => n1.2.2 e.symm)).trans ?_))
      exact (Below.heap_alloc _ _ b (by simp; omega)).trans (Below.heap_alloc _ _ b hb)
    have hsz : w3.heap.size ≤ (gs (ptr w3.heap.size)).heap.size := by have h1 := hg7.size; have h2 := HG5S.out; simp [World.setCell] at h1; omega
    refine ⟨rfl, w3.heap.size, .slice (some ⟨g1, 0, none⟩) (k + 1) cap1, opOf opv er, F, FO', HL6.out.same (hg7.block L HL6.out.lt (fun e => HM6.out.ne_row HL6.out (by cases e; rfl))), HI6.out.same (hg7.block _ HI6.out.lt (fun e => HM6.out.ne_row HI6.out (by cases e; rfl))), hM7, HO6.out.kept hg7 ?_,
      ⟨by omega, fun h => by have := (HF1.out _ h).2; omega, fun h => by have := (HF2.out _ h).1; omega⟩, K.obj_keep HOB3.out (fun b h => kp b (HF2.out b h).1 (.inr h)) (fun _ h => h), HOP3.out.keep (fun b h => kp b (HF1.out b h).2 (.inl h)) (fun _ h => h),
      fun b h => ⟨(HF1.out b h).1, Nat.lt_of_lt_of_le (HF1.out b h).2 hsz⟩, fun b h => ⟨Nat.lt_of_lt_of_le (HF2.out b h).1 hsz, (HF2.out b h).2⟩, fun b h => HL5b.out.imp (fun e => by rw [← e]; exact h) (fun e => by
        have e2 : w3.heap.size + 1 ≤ b := by rw [e] at h; simp at h; omega
        exact ⟨by omega, fun h => by have := (HF1.out _ h).2; omega, fun h => by have := (HF2.out _ h).1; omega⟩), HF6.out.trans (ButS.of_grown hg7 (fun k hk => .inr (.inl (by cases hk; rfl))))⟩
    cases hb : (Value.slice (some ⟨g1, 0, none⟩) (k + 1) cap1).ownBlock with
    | none => exact .inl rfl
    | some g => right; intro e; exact owns_no_map HM6.out HO6.out (by rw [hb]; exact e)
end
end Go.Proofs.Ytglpalomhhhmhaa
