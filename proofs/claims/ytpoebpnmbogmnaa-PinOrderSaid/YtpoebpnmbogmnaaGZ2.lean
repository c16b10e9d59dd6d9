/- Walks of loom: object, invoke. | A play of a machine, as it lies in memory. | A play of a machine, as it lies: behind a step, behind the delete, behind Finish. | Walk of loom: Pick, for any machine. -/
import Derived.Test.YtpoebpnmbogmnaaGZ1
namespace Go.Proofs.Ytpoebpnmbogmnaa
section
open Go.RowKit
theorem enter_nowhere (args : Array Value) (w : World) : (callFunc 120 args).run Try.prog w = .ok (.enter 120 args) w := by kernel_rfl
theorem enter_refusal (args : Array Value) (w : World) : (callFunc 119 args).run Try.prog w = .ok (.enter 119 args) w := by kernel_rfl
theorem meth_nowhere (w : World) : (method 369 163 (.agg #[]) "Invoke").run Try.prog w = .ok (120, .agg #[]) w := by kernel_rfl
theorem meth_refusal (a : Int) (w : World) : (method 369 146 (.agg #[.int .i64 a]) "Step").run Try.prog w = .ok (119, .agg #[.int .i64 a]) w := by kernel_rfl
/-- which operation comes of what Invoke tells -/
def opOf (opv : Value) (e : Int) : Value := if e = 0 then opv else .iface 146 (.agg #[.int .i64 e])

/-- a loom's struct -/
def loomVs (cv : Value) (lb bm : Nat) (ov vb : Value) (mc : Nat) (ticks idle : Int) : List Value := [cv, .pointer (some ⟨lb, 0, none⟩), .pointer (some ⟨bm, 0, none⟩), ov, vb, .map (some mc), .int .i64 ticks, .int .i64 idle]

/-- append of one cell, where it must be known in which block what comes of it lies -/
theorem append_at1 {P : Program} {w : World} {ops : Array Oper} {rest : List Oper} {o : Oper} {a : Act} {Q : Exit → Act → World → Prop} (hgd : o.guard = none) (s x : Operand) (t : TypeId)
    (ho : o.op = .call { callee := .builtin .append, args := #[s, x], argTypes := #[t, t] })
    (base : Nat) (e : TypeId) (i : TypeInfo) (z : Value) (ht : P.underlying t = some (.slice e)) (hi : P.info? e = some i) (hz : i.zero = some z)
    (hsize : i.size = 1) (hby : i.bytes = 8) (hzs : z.cells.size = 1)
    (v : Value) (n : Nat) (xs : List Value) (hs : a.eval s = v) (hown : w.ownsRow base e 1 v n xs)
    (u : Value) (g0 : Nat) (hg0 : g0 = w.heap.size) (hx : a.eval x = .slice (some ⟨g0, 0, none⟩) 1 1) (h1 : u.oneCell' = true)
    (hn : n ≤ 4294967296) (hbase : base ≤ w.heap.size)
    (h : ∀ v' w', w'.ownsRow base e 1 v' (n + 1) (xs ++ [u]) → (w.alloc (.cells #[u] e)).grownBy w' v.ownBlock → (v'.ownBlock = v.ownBlock ∨ v'.ownBlock = some (w.heap.size + 1)) → wpList P ops Q rest (a.put o.dst v') w') :
    wpList P ops Q (o :: rest) a (w.alloc (.cells #[u] e)) := by
  subst hg0
  refine wpList_append_own_at _ hgd s x t ho base e i z 1 8 ht hi hz hsize hby hzs (by decide) v n xs hs (hown.alloc _) ⟨w.heap.size, 0, none⟩ 1 1 [u] hx rfl ?_ (by simpa using h1) (by unfold maxLen; omega) (by omega) (by simp; omega) ?_
  · intro j y hj
    rw [addr_add _ j w.heap.size 0 rfl, World.cell?_alloc_at _ _ _ _ rfl]
    simpa using hj
  · intro v' w' h2 h3 _ h5
    refine h v' w' h2 h3 (h5.imp id (fun h => by rw [h]; simp))

/-- a row of the call's own is no map -/
theorem owns_no_map {P : Program} {k e : TypeId} {w : World} {b n B sz m : Nat} {z v : Value} {f : Int → Value} {xs : List Value} (h : MapIs P k w b n z f) (ho : w.ownsRow B e sz v m xs) : v.ownBlock ≠ some b := by
  intro e1
  obtain ⟨_, ⟨rfl, _⟩ | ⟨g, cap, cur, rfl, _, hh, _⟩⟩ := ho
  · cases e1
  · cases e1; exact h.no_cells hh
def ptr (g : Nat) : Value := .pointer (some ⟨g, 0, none⟩)
theorem zeroPt (w : World) : (zeroValue 107).run Try.prog w = .ok (.pointer none) w := by kernel_rfl
theorem infoPt : (Try.prog.info? 107).map (fun i => (i.zero, i.size, i.bytes)) = some (some (.pointer none), 1, 8) := by kernel_rfl

theorem cstores {w : World} {mc n : Nat} {f : Int → Value} (h : MapIs Try.prog 3 w mc n (.pointer none) f) (hn : n < maxLen) {p : Int} (hp : 0 ≤ p ∧ p < 16) :
    ∃ g : Value → World, (∀ v, (Instr.mapUpdate 101 (.map (some mc)) (.int .i64 p) v).run Try.prog w = .ok () (g v)) ∧ ∀ v, MapIs Try.prog 3 (g v) mc (n + 1) (.pointer none) (updF f p v) ∧ w.mapTurned (g v) mc :=
  ⟨fun v => Classical.choose (h.store Try.underlying3 Try.underlying101 hn hp v), fun v => (Classical.choose_spec (h.store Try.underlying3 Try.underlying101 hn hp v)).1,
    fun v => (Classical.choose_spec (h.store Try.underlying3 Try.underlying101 hn hp v)).2⟩

theorem MapIs.ne_row {P : Program} {k t : TypeId} {w : World} {b n g : Nat} {z : Value} {f : Int → Value} {vs : List Value} (h : MapIs P k w b n z f) (hr : RowBlk t w g vs) : g ≠ b := by
  intro e; subst e; exact h.no_cells hr

theorem calls_drew {w : World} {b o : Nat} {l : List CallV} (h : CallsAt w b o l) : CallsAt w.drew b o l := h


theorem MapIs.sameB {P : Program} {k : TypeId} {w w' : World} {b n : Nat} {z : Value} {f : Int → Value} (h : MapIs P k w b n z f) (e : w'.heap[b]? = w.heap[b]?) : MapIs P k w' b n z f := by
  obtain ⟨D, ⟨es, c, h0, h1⟩, h2⟩ := h
  exact ⟨D, ⟨es, c, e.trans h0, h1⟩, h2⟩
theorem owns_sameB {w w' : World} {B : Nat} {e : TypeId} {sz n : Nat} {v : Value} {xs : List Value} (h : w.ownsRow B e sz v n xs) (hb : ∀ k, v.ownBlock = some k → w'.heap[k]? = w.heap[k]?) : w'.ownsRow B e sz v n xs := by
  obtain ⟨h1, h2 | ⟨g, cap, cur, rfl, hg, hh, r⟩⟩ := h
  · exact ⟨h1, .inl h2⟩
  · exact ⟨h1, .inr ⟨g, cap, cur, rfl, hg, (hb g rfl).trans hh, r⟩⟩
/-- the object that a call names -/
def objOf (objs : List Value) (k : Int) : Value := if k < 0 then .iface 163 (.agg #[]) else objs.getD k.toNat (.iface 163 (.agg #[]))
/-- objects lie in a row -/
def ObjsAt (w : World) (go : Nat) (objs : List Value) : Prop := ∀ (i : Nat) (v : Value), objs[i]? = some v → w.cell? ⟨go, i, none⟩ = some v

set_option maxRecDepth 20000 in
set_option maxHeartbeats 1000000 in
theorem objects_any (L lb bm mc go capo : Nat) (objs : List Value) (cv vb : Value) (ticks idle k : Int) (w : World) (hL : RowBlk 104 w L (loomVs cv lb bm (.slice (some ⟨go, 0, none⟩) objs.length capo) vb mc ticks idle)) (ho : ObjsAt w go objs)
    (hk : -9223372036854775808 ≤ k ∧ k ≤ 9223372036854775807) :
    Calls Try.prog 77 #[.pointer (some ⟨L, 0, none⟩), .int .i64 k] w fun e w' => e = .returned (objOf objs k) ∧ w = w' := by
  have c3 : w.cell? ⟨L, 3, none⟩ = some (.slice (some ⟨go, 0, none⟩) objs.length capo) := hL.cell rfl
  have hlt := hL.lt
  clear hL
  unfold objOf
  by_cases h0 : k < 0
  · rw [if_pos h0]
    go_enter Try.func77, Try.ntmps77
    go_wp2
    go_ret
    exact ⟨rfl, rfl⟩
  · rw [if_neg h0]
    by_cases h1 : (objs.length : Int) ≤ k
    · have e : objs.getD k.toNat (.iface 163 (.agg #[])) = .iface 163 (.agg #[]) := by rw [List.getD_eq_getElem?_getD, List.getElem?_eq_none (by omega)]; rfl
      rw [e]
      go_enter Try.func77, Try.ntmps77
      go_wp2
      go_ret
      exact ⟨rfl, rfl⟩
    · obtain ⟨n, rfl⟩ : ∃ n : Nat, k = n := ⟨k.toNat, by omega⟩
      obtain ⟨v, hv⟩ : ∃ v, objs[n]? = some v := ⟨objs[n]'(by omega), List.getElem?_eq_getElem _⟩
      have e : objs.getD (n : Int).toNat (.iface 163 (.agg #[])) = v := by rw [Int.toNat_natCast, List.getD_eq_getElem?_getD, hv]; rfl
      rw [e]
      have c0 := ho n v hv
      have hi1 : (n : Int) < (objs.length : Int) := by omega
      clear ho hv
      go_enter Try.func77, Try.ntmps77
      go_wp2
      go_ret
      exact ⟨rfl, rfl⟩

section
variable {M : Mach}
/-- what an object's Invoke leaves -/
def InvRel (K : MachRel M) (r : M.S × (M.Q ⊕ Nat)) (FO : Nat → Prop) (W : World) (en : Ending) (w' : World) : Prop :=
  ButS FO W w' ∧ ∃ (opv : Value) (e : Int) (F FO' : Nat → Prop), en = .returned (.tuple #[opv, .int .i64 e]) ∧ K.Obj w' r.1 FO' ∧ OpQ K w' (opOf opv e) r.2 F ∧ (∀ b, F b → W.heap.size ≤ b ∧ b < w'.heap.size) ∧ (∀ b, FO' b → b < w'.heap.size ∧ (FO b ∨ W.heap.size ≤ b) ∧ ¬ F b)
def InvC (K : MachRel M) (obj : Value) (x : CallV) (r : M.S × (M.Q ⊕ Nat)) (FO : Nat → Prop) (w : World) : Prop :=
  ∃ (tid : TypeId) (v : Value) (fid : FuncId), obj = .iface tid v ∧ (∀ w' : World, (method 369 tid v "Invoke").run Try.prog w' = .ok (fid, v) w') ∧ (∀ (args : Array Value) (w' : World), (callFunc fid args).run Try.prog w' = .ok (.enter fid args) w') ∧
    ∀ W : World, Below w.heap.size w W → Calls Try.prog fid #[v, callAgg x] W (InvRel K r FO W)
theorem inv_nowhere (K : MachRel M) (x : CallV) (s : M.S) (FO : Nat → Prop) (w : World) (hO : K.Obj w s FO) (hlt : ∀ b, FO b → b < w.heap.size) : InvC K (.iface 163 (.agg #[])) x (s, .inr 12) FO w :=
  ⟨_, _, _, rfl, meth_nowhere, enter_nowhere, fun W hW => (nowhere_any x W).mono fun e w' ⟨he, hb⟩ =>
    ⟨ButS.of_below hb, .nilIface, 12, fun _ => False, FO, he, K.obj_keep hO (fun k hk => (hb.block k (Nat.lt_of_lt_of_le (hlt k hk) hW.size)).trans (hW.block k (hlt k hk))) (fun _ h => h), ⟨rfl, by omega⟩, fun b h => h.elim,
      fun b h => ⟨Nat.lt_of_lt_of_le (hlt b h) (Nat.le_trans hW.size hb.size), .inl h, id⟩⟩⟩

def InvPost (K : MachRel M) (r : M.S × (M.Q ⊕ Nat)) (FO : Nat → Prop) (cv : Value) (L lb bm : Nat) (ov vb : Value) (mc : Nat) (ticks idle : Int) (i N k : Nat) (p : Int) (f : Int → Value) (ps : List Value) (w : World) (e : Ending) (w' : World) : Prop :=
  e = .returned (.tuple #[]) ∧ ∃ (g : Nat) (vb' opv : Value) (F FO' : Nat → Prop), RowBlk 104 w' L (loomVs cv lb bm ov vb' mc ticks idle) ∧ RowBlk 148 w' g (invVs i ticks 0 0 0 0 (.slice none 0 0) (.slice none 0 0) opv) ∧
    MapIs Try.prog 3 w' mc (N + 1) (.pointer none) (updF f p (ptr g)) ∧ w'.ownsRow (L + 1) 107 1 vb' (k + 1) (ps ++ [ptr g]) ∧ (w.heap.size ≤ g ∧ ¬ F g ∧ ¬ FO' g) ∧ K.Obj w' r.1 FO' ∧ OpQ K w' opv r.2 F ∧
    (∀ b, F b → w.heap.size ≤ b ∧ b < w'.heap.size) ∧ (∀ b, FO' b → b < w'.heap.size ∧ (FO b ∨ w.heap.size ≤ b) ∧ ¬ F b) ∧ (∀ k, vb'.ownBlock = some k → vb.ownBlock = some k ∨ (w.heap.size ≤ k ∧ ¬ F k ∧ ¬ FO' k)) ∧
    ButS (fun k => k = L ∨ k = mc ∨ vb.ownBlock = some k ∨ FO k) w w'

set_option maxRecDepth 100000 in
set_option maxHeartbeats 4000000 in
theorem invoke_gen (K : MachRel M) (r : M.S × (M.Q ⊕ Nat)) (FO : Nat → Prop) (L lb bm mc go capo gc capC N k i : Nat) (objs : List Value) (aoC : Option Addr) (cs : List CallV) (x : CallV) (vb : Value) (ticks idle p : Int) (f : Int → Value) (ps : List Value) (w : World)
    (hL : RowBlk 104 w L (loomVs (.slice aoC cs.length capC) lb bm (.slice (some ⟨go, 0, none⟩) objs.length capo) vb mc ticks idle)) (ho : ObjsAt w go objs) (hC : CallsAt w gc 0 cs) (haC : 0 < cs.length → aoC = some ⟨gc, 0, none⟩)
    (hcl : cs.length ≤ 1000) (hx : cs[i]? = some x) (hI : InvC K (objOf objs x.o) x r FO w) (hM : MapIs Try.prog 3 w mc N (.pointer none) f) (hN : N < maxLen) (hp : 0 ≤ p ∧ p < 16)
    (hown : w.ownsRow (L + 1) 107 1 vb k ps) (hk : k ≤ 4294967296) (hFO : ∀ b, FO b → b < w.heap.size ∧ b ≠ L ∧ b ≠ mc ∧ vb.ownBlock ≠ some b) :
    Calls Try.prog 54 #[.pointer (some ⟨L, 0, none⟩), .int .i64 p, .int .i64 (i : Int)] w (InvPost K r FO (.slice aoC cs.length capC) L lb bm (.slice (some ⟨go, 0, none⟩) objs.length capo) vb mc ticks idle i N k p f ps w) := by
  have hil : i < cs.length := (List.getElem?_eq_some_iff.1 hx).1
  obtain rfl := haC (by omega)
  obtain ⟨c0, c1, c2, c3, c4, c5, _, hxo, _⟩ := hC i x hx
  rw [Nat.zero_add] at c0 c1 c2 c3 c4 c5
  obtain ⟨tid, v, fid, hobj, hm, hent, hcall⟩ := hI
  have HCALL := Lib.hid hcall
  have HL := Lib.hid hL
  have HM := Lib.hid hM
  have HOWN := Lib.hid hown
  have HFO := Lib.hid hFO
  have HOLT0 : Hid (∀ b, vb.ownBlock = some b → b < w.heap.size) := Lib.hid (fun b h => (hown.lt b h).2)
  have hmcl := hM.lt
  have hLlt := hL.lt
  have l0 : w.cell? ⟨L, 0, none⟩ = some (.slice (some ⟨gc, 0, none⟩) cs.length capC) := hL.cell rfl
  have hi0 : (0 : Int) ≤ (i : Int) := Int.natCast_nonneg _
  have hi1 : (i : Int) < (cs.length : Int) := by omega
  obtain ⟨iI, ia, ib, ic, id⟩ := info_parts infoPt
  have HOB : Hid (Calls Try.prog 77 #[.pointer (some ⟨L, 0, none⟩), .int .i64 x.o] (w.alloc (.cells #[.int .i64 x.t, .int .i64 x.o, .int .i64 x.k, .int .u64 x.a, .int .u64 x.b, .int .u64 x.c] 43)).drew
      fun e w' => e = .returned (.iface tid v) ∧ (w.alloc (.cells #[.int .i64 x.t, .int .i64 x.o, .int .i64 x.k, .int .u64 x.a, .int .u64 x.b, .int .u64 x.c] 43)).drew = w') := Lib.hid (by
    have h := objects_any L lb bm mc go capo objs (.slice (some ⟨gc, 0, none⟩) cs.length capC) vb ticks idle x.o (w.alloc (.cells #[.int .i64 x.t, .int .i64 x.o, .int .i64 x.k, .int .u64 x.a, .int .u64 x.b, .int .u64 x.c] 43)).drew (hL.alloc _).drew (fun j y hy => by show (w.alloc _).cell? _ = _; have h1 := ho j y hy; rw [World.cell?_alloc_past _ _ _ (World.block_lt_of_cell? w ⟨go, j, none⟩ h1)]; exact h1) hxo
    rw [hobj] at h
    exact h)
  clear hL hM hown hcall hobj ho hx hC hFO
  go_enter Try.func54, Try.ntmps54
  go_wp2_with fail
  have HL1 := Lib.hid (HL.out.alloc (.cells #[.int .i64 x.t, .int .i64 x.o, .int .i64 x.k, .int .u64 x.a, .int .u64 x.b, .int .u64 x.c] 43))
  have HM1 := Lib.hid (HM.out.alloc (.cells #[.int .i64 x.t, .int .i64 x.o, .int .i64 x.k, .int .u64 x.a, .int .u64 x.b, .int .u64 x.c] 43))
  have HO1 := Lib.hid (HOWN.out.alloc (.cells #[.int .i64 x.t, .int .i64 x.o, .int .i64 x.k, .int .u64 x.a, .int .u64 x.b, .int .u64 x.c] 43))
  have HB1 : Hid (ButS (fun k => k = L ∨ k = mc ∨ vb.ownBlock = some k ∨ FO k) w (w.alloc (.cells #[.int .i64 x.t, .int .i64 x.o, .int .i64 x.k, .int .u64 x.a, .int .u64 x.b, .int .u64 x.c] 43))) := Lib.hid ((ButS.refl _ _).alloc _)
  have HBW1 : Hid (Below w.heap.size w (w.alloc (.cells #[.int .i64 x.t, .int .i64 x.o, .int .i64 x.k, .int .u64 x.a, .int .u64 x.b, .int .u64 x.c] 43))) := Lib.hid ((Below.refl _ _).alloc (Nat.le_refl _) _)
  have HC1 : Hid (RowBlk 43 (w.alloc (.cells #[.int .i64 x.t, .int .i64 x.o, .int .i64 x.k, .int .u64 x.a, .int .u64 x.b, .int .u64 x.c] 43)) w.heap.size [.int .i64 x.t, .int .i64 x.o, .int .i64 x.k, .int .u64 (x.a : Int), .int .u64 (x.b : Int), .int .u64 (x.c : Int)]) := Lib.hid (RowBlk.new _ _ _)
  clear c0 c1 c2 c3 c4 c5 l0 HL HM HOWN
  generalize w.alloc (.cells #[.int .i64 x.t, .int .i64 x.o, .int .i64 x.k, .int .u64 x.a, .int .u64 x.b, .int .u64 x.c] 43) = W1 at HL1 HM1 HO1 HB1 HC1 HBW1 HOB ⊢
  have d0 := HC1.out.cell (i := 0) rfl
  have d1 := HC1.out.cell (i := 1) rfl
  have d2 := HC1.out.cell (i := 2) rfl
  have d3 := HC1.out.cell (i := 3) rfl
  have d4 := HC1.out.cell (i := 4) rfl
  have d5 := HC1.out.cell (i := 5) rfl
  have hws := HB1.out.size
  go_region_held3 (fun w' => w'.cell? ⟨w.heap.size, 0, none⟩ = some (.int .i64 x.t) ∧ w'.cell? ⟨w.heap.size, 1, none⟩ = some (.int .i64 x.o) ∧ w'.cell? ⟨w.heap.size, 2, none⟩ = some (.int .i64 x.k) ∧ w'.cell? ⟨w.heap.size, 3, none⟩ = some (.int .u64 (x.a : Int)) ∧ w'.cell? ⟨w.heap.size, 4, none⟩ = some (.int .u64 (x.b : Int)) ∧ w'.cell? ⟨w.heap.size, 5, none⟩ = some (.int .u64 (x.c : Int)))
    (first | exact ⟨e0, e1, e2, e3, e4, e5⟩ | go_keep)
    (first
      | (go_at_call 77
         refine HOB.out.mono ?_
         rintro e w2 ⟨rfl, rfl⟩)
      | (refine (HCALL.out _ (below_drew HBW1.out)).mono ?_
         rintro e w3 ⟨hb3, opv, er, F, FO', rfl, hob3, hop3, hf1, hf2⟩
         have hc3 : RowBlk 43 w3 w.heap.size [.int .i64 x.t, .int .i64 x.o, .int .i64 x.k, .int .u64 (x.a : Int), .int .u64 (x.b : Int), .int .u64 (x.c : Int)] := RowBlk.same HC1.out.drew (hb3.block _ HC1.out.lt (fun h => by have := (HFO.out _ h).1; omega))
         have e0 := hc3.cell (i := 0) rfl
         have e1 := hc3.cell (i := 1) rfl
         have e2 := hc3.cell (i := 2) rfl
         have e3 := hc3.cell (i := 3) rfl
         have e4 := hc3.cell (i := 4) rfl
         have e5 := hc3.cell (i := 5) rfl
         have HB3 := Lib.hid hb3
         have HOB3 := Lib.hid hob3
         have HOP3 := Lib.hid hop3
         have HF13 := Lib.hid hf1
         have HF23 := Lib.hid hf2
         clear hb3 hc3 hob3 hop3 hf1 hf2))
  have hb3 := HB3.out
  have hs3 : W1.heap.size ≤ w3.heap.size := hb3.size
  have HL3 : Hid (RowBlk 104 w3 L (loomVs (.slice (some ⟨gc, 0, none⟩) cs.length capC) lb bm (.slice (some ⟨go, 0, none⟩) objs.length capo) vb mc ticks idle)) := Lib.hid (HL1.out.drew.same (hb3.block _ HL1.out.lt (fun h => (HFO.out _ h).2.1 rfl)))
  have HM3 : Hid (MapIs Try.prog 3 w3 mc N (.pointer none) f) := Lib.hid (HM1.out.drew.sameB (hb3.block _ HM1.out.lt (fun h => (HFO.out _ h).2.2.1 rfl)))
  have HO3 : Hid (w3.ownsRow (L + 1) 107 1 vb k ps) := Lib.hid (owns_sameB (w := W1.drew) HO1.out (fun k hk => hb3.block k (HO1.out.lt k hk).2 (fun h => (HFO.out k h).2.2.2 hk)))
  have HBB : Hid (ButS (fun k => k = L ∨ k = mc ∨ vb.ownBlock = some k ∨ FO k) w w3) := Lib.hid (HB1.out.drew.trans (hb3.mono (fun k _ h => .inr (.inr (.inr h)))))
  have hwd : W1.drew.heap.size = W1.heap.size := rfl
  have HF1 : Hid (∀ b, F b → w.heap.size ≤ b ∧ b < w3.heap.size) := Lib.hid (fun b h => by have := HF13.out b h; omega)
  have HF2 : Hid (∀ b, FO' b → b < w3.heap.size ∧ (FO b ∨ w.heap.size ≤ b) ∧ ¬ F b) := Lib.hid (fun b h => by have h' := HF23.out b h; exact ⟨h'.1, h'.2.1.imp (fun h => h) (fun h => by omega), h'.2.2⟩)
  clear HF13 HF23
  clear hb3 HB3 HC1 HL1 HM1 HO1 HB1 HOB HCALL d0 d1 d2 d3 d4 d5 e0 e1 e2 e3 e4 e5
  have l6 : w3.cell? ⟨L, 6, none⟩ = some (.int .i64 ticks) := HL3.out.cell rfl
  have l4' : w3.cell? ⟨L, 4, none⟩ = some vb := HL3.out.cell rfl
  have hLl3 := HL3.out.lt
  have HOLT : Hid (∀ b, vb.ownBlock = some b → b < w.heap.size) := HOLT0
  obtain ⟨qt, qu, hop⟩ := HOP3.out.iface
  have HOPV : Hid (opOf opv er = .iface qt qu) := Lib.hid hop
  by_cases her : er = 0
  · have HOP : Hid (opOf opv er = opv) := Lib.hid (by unfold opOf; rw [if_pos her])
    rw [HOP.out] at hop
    subst hop
    subst her
    go_wp2_with (at_builtin; refine append_at1 rfl _ _ 102 rfl (L + 1) 107 iI (.pointer none) Try.underlying102 ia ib ic id rfl vb k ps rfl (HO3.out.alloc _) (ptr w3.heap.size) (w3.heap.size + 1) (by simp) rfl rfl hk (by simp; omega) ?_)
    intro v1 w5 ho5 hg5 hl5
    obtain ⟨ao1, g1, cap1, hv1, hao1, hrest1⟩ := owns_open ho5
    obtain rfl := hao1 (Nat.succ_pos k)
    subst hv1
    clear hrest1 hao1
    have HL5b := Lib.hid hl5
    clear hl5
    have hfr : ButS (fun k => k = L ∨ k = mc ∨ vb.ownBlock = some k ∨ FO k) w w5 := ((HBB.out.alloc _).alloc _).trans (ButS.of_grown hg5 (fun k hk => .inr (.inr (.inl hk))))
    have HF5 := Lib.hid hfr
    have HL5 : Hid (RowBlk 104 w5 L (loomVs (.slice (some ⟨gc, 0, none⟩) cs.length capC) lb bm (.slice (some ⟨go, 0, none⟩) objs.length capo) vb mc ticks idle)) := Lib.hid (((HL3.out.alloc _).alloc _).same (hg5.block L (by simp; omega) (fun e => by have := (HO3.out.lt L e.symm).1; omega)))
    have HI5 : Hid (RowBlk 148 w5 w3.heap.size (invVs i ticks 0 0 0 0 (.slice none 0 0) (.slice none 0 0) (opOf (.iface qt qu) 0))) := Lib.hid (by
      rw [HOP.out]
      exact ((RowBlk.new w3 _ _).alloc _).same (hg5.block w3.heap.size (by simp; omega) (fun e => by have := (HO3.out.lt _ e.symm).2; omega)))
    have HM5 : Hid (MapIs Try.prog 3 w5 mc N (.pointer none) f) := Lib.hid (((HM3.out.alloc _).alloc _).kept hg5 (fun e => owns_no_map HM3.out HO3.out e.symm))
    have HO5 := Lib.hid ho5
    have l4 : w5.cell? ⟨L, 4, none⟩ = some vb := HL5.out.cell rfl
    have lf4 : w5.frozen? ⟨L, 4, none⟩ = false := HL5.out.free
    have hLI : L ≠ w3.heap.size := by omega
    have HL6 : Hid (RowBlk 104 (w5.setCell ⟨L, 4, none⟩ (.slice (some ⟨g1, 0, none⟩) (k + 1) cap1)) L (loomVs (.slice (some ⟨gc, 0, none⟩) cs.length capC) lb bm (.slice (some ⟨go, 0, none⟩) objs.length capo) (.slice (some ⟨g1, 0, none⟩) (k + 1) cap1) mc ticks idle)) := Lib.hid (HL5.out.put 4 (.slice (some ⟨g1, 0, none⟩) (k + 1) cap1))
    have HI6 := Lib.hid (HI5.out.other (a := ⟨L, 4, none⟩) (fun e => hLI e.symm) (.slice (some ⟨g1, 0, none⟩) (k + 1) cap1))
    have HM6 := Lib.hid (HM5.out.setCell (a := ⟨L, 4, none⟩) (fun e => HM5.out.ne_row HL5.out e.symm) (.slice (some ⟨g1, 0, none⟩) (k + 1) cap1))
    have HO6 := Lib.hid (owns_set HO5.out (a := ⟨L, 4, none⟩) (Nat.lt_succ_self L) (.slice (some ⟨g1, 0, none⟩) (k + 1) cap1))
    have HF6 := Lib.hid (HF5.out.setCell (x := ⟨L, 4, none⟩) (.inl (.inl rfl)) (.slice (some ⟨g1, 0, none⟩) (k + 1) cap1))
    have l5 : (w5.setCell ⟨L, 4, none⟩ (.slice (some ⟨g1, 0, none⟩) (k + 1) cap1)).cell? ⟨L, 5, none⟩ = some (.map (some mc)) := HL6.out.cell rfl
    obtain ⟨gs, hst, hgs⟩ := cstores HM6.out hN hp
    have HGS := Lib.hid hgs
    have HG5B := Lib.hid hg5
    have HG5S : Hid (w3.heap.size + 2 ≤ w5.heap.size) := Lib.hid (by have := hg5.size; simp at this; omega)
    clear ho5 hg5 hfr hgs
    go_wp2_with fail
    go_end0
    obtain ⟨hM7, hT7⟩ := HGS.out (ptr w3.heap.size)
    have hg7 := hT7.grown
    have kp : ∀ b, b < w3.heap.size → (F b ∨ FO' b) → (gs (ptr w3.heap.size)).heap[b]? = w3.heap[b]? := fun b hb hf => by
      have n1 : b ≠ L ∧ b ≠ mc ∧ vb.ownBlock ≠ some b := hf.elim (fun h => by have := (HF1.out b h).1; exact ⟨by omega, by omega, fun e => by have := (HOLT.out b e); omega⟩) (fun h => (HF2.out b h).2.1.elim (fun h => (HFO.out b h).2) (fun h => ⟨by omega, by omega, fun e => by have := (HOLT.out b e); omega⟩))
      refine (hg7.block b (by simp [World.setCell]; have := HG5S.out; omega) (fun e => n1.2.1 (by cases e; rfl))).trans ((Below.heap_setCell _ ⟨L, 4, none⟩ _ b n1.1).trans ((HG5B.out.block b (by simp; omega) (fun e => n1.2.2 e.symm)).trans ?_))
      exact (Below.heap_alloc _ _ b (by simp; omega)).trans (Below.heap_alloc _ _ b hb)
    have hsz : w3.heap.size ≤ (gs (ptr w3.heap.size)).heap.size := by have h1 := hg7.size; have h2 := HG5S.out; simp [World.setCell] at h1; omega
    refine ⟨rfl, w3.heap.size, .slice (some ⟨g1, 0, none⟩) (k + 1) cap1, opOf (.iface qt qu) 0, F, FO', HL6.out.same (hg7.block L HL6.out.lt (fun e => HM6.out.ne_row HL6.out (by cases e; rfl))), HI6.out.same (hg7.block _ HI6.out.lt (fun e => HM6.out.ne_row HI6.out (by cases e; rfl))), hM7, HO6.out.kept hg7 ?_,
      ⟨by omega, fun h => by have := (HF1.out _ h).2; omega, fun h => by have := (HF2.out _ h).1; omega⟩, K.obj_keep HOB3.out (fun b h => kp b (HF2.out b h).1 (.inr h)) (fun _ h => h), HOP3.out.keep (fun b h => kp b (HF1.out b h).2 (.inl h)) (fun _ h => h),
      fun b h => ⟨(HF1.out b h).1, Nat.lt_of_lt_of_le (HF1.out b h).2 hsz⟩, fun b h => ⟨Nat.lt_of_lt_of_le (HF2.out b h).1 hsz, (HF2.out b h).2⟩, fun b h => HL5b.out.imp (fun e => by rw [← e]; exact h) (fun e => by
        have e2 : w3.heap.size + 1 ≤ b := by rw [e] at h; simp at h; omega
        exact ⟨by omega, fun h => by have := (HF1.out _ h).2; omega, fun h => by have := (HF2.out _ h).1; omega⟩), HF6.out.trans (ButS.of_grown hg7 (fun k hk => .inr (.inl (by cases hk; rfl))))⟩
    cases hb : (Value.slice (some ⟨g1, 0, none⟩) (k + 1) cap1).ownBlock with
    | none => exact .inl rfl
    | some g => right; intro e; exact owns_no_map HM6.out HO6.out (by rw [hb]; exact e)
  · have HOP : Hid (opOf opv er = .iface 146 (.agg #[.int .i64 er])) := Lib.hid (by unfold opOf; rw [if_neg her])
    go_wp2_with (at_builtin; refine append_at1 rfl _ _ 102 rfl (L + 1) 107 iI (.pointer none) Try.underlying102 ia ib ic id rfl vb k ps rfl (HO3.out.alloc _) (ptr w3.heap.size) (w3.heap.size + 1) (by simp) rfl rfl hk (by simp; omega) ?_)
    intro v1 w5 ho5 hg5 hl5
    obtain ⟨ao1, g1, cap1, hv1, hao1, hrest1⟩ := owns_open ho5
    obtain rfl := hao1 (Nat.succ_pos k)
    subst hv1
    clear hrest1 hao1
    have HL5b := Lib.hid hl5
    clear hl5
    have hfr : ButS (fun k => k = L ∨ k = mc ∨ vb.ownBlock = some k ∨ FO k) w w5 := ((HBB.out.alloc _).alloc _).trans (ButS.of_grown hg5 (fun k hk => .inr (.inr (.inl hk))))
    have HF5 := Lib.hid hfr
    have HL5 : Hid (RowBlk 104 w5 L (loomVs (.slice (some ⟨gc, 0, none⟩) cs.length capC) lb bm (.slice (some ⟨go, 0, none⟩) objs.length capo) vb mc ticks idle)) := Lib.hid (((HL3.out.alloc _).alloc _).same (hg5.block L (by simp; omega) (fun e => by have := (HO3.out.lt L e.symm).1; omega)))
    have HI5 : Hid (RowBlk 148 w5 w3.heap.size (invVs i ticks 0 0 0 0 (.slice none 0 0) (.slice none 0 0) (opOf opv er))) := Lib.hid (by
      rw [HOP.out]
      exact ((RowBlk.new w3 _ _).alloc _).same (hg5.block w3.heap.size (by simp; omega) (fun e => by have := (HO3.out.lt _ e.symm).2; omega)))
    have HM5 : Hid (MapIs Try.prog 3 w5 mc N (.pointer none) f) := Lib.hid (((HM3.out.alloc _).alloc _).kept hg5 (fun e => owns_no_map HM3.out HO3.out e.symm))
    have HO5 := Lib.hid ho5
    have l4 : w5.cell? ⟨L, 4, none⟩ = some vb := HL5.out.cell rfl
    have lf4 : w5.frozen? ⟨L, 4, none⟩ = false := HL5.out.free
    have hLI : L ≠ w3.heap.size := by omega
    have HL6 : Hid (RowBlk 104 (w5.setCell ⟨L, 4, none⟩ (.slice (some ⟨g1, 0, none⟩) (k + 1) cap1)) L (loomVs (.slice (some ⟨gc, 0, none⟩) cs.length capC) lb bm (.slice (some ⟨go, 0, none⟩) objs.length capo) (.slice (some ⟨g1, 0, none⟩) (k + 1) cap1) mc ticks idle)) := Lib.hid (HL5.out.put 4 (.slice (some ⟨g1, 0, none⟩) (k + 1) cap1))
    have HI6 := Lib.hid (HI5.out.other (a := ⟨L, 4, none⟩) (fun e => hLI e.symm) (.slice (some ⟨g1, 0, none⟩) (k + 1) cap1))
    have HM6 := Lib.hid (HM5.out.setCell (a := ⟨L, 4, none⟩) (fun e => HM5.out.ne_row HL5.out e.symm) (.slice (some ⟨g1, 0, none⟩) (k + 1) cap1))
    have HO6 := Lib.hid (owns_set HO5.out (a := ⟨L, 4, none⟩) (Nat.lt_succ_self L) (.slice (some ⟨g1, 0, none⟩) (k + 1) cap1))
    have HF6 := Lib.hid (HF5.out.setCell (x := ⟨L, 4, none⟩) (.inl (.inl rfl)) (.slice (some ⟨g1, 0, none⟩) (k + 1) cap1))
    have l5 : (w5.setCell ⟨L, 4, none⟩ (.slice (some ⟨g1, 0, none⟩) (k + 1) cap1)).cell? ⟨L, 5, none⟩ = some (.map (some mc)) := HL6.out.cell rfl
    obtain ⟨gs, hst, hgs⟩ := cstores HM6.out hN hp
    have HGS := Lib.hid hgs
    have HG5B := Lib.hid hg5
    have HG5S : Hid (w3.heap.size + 2 ≤ w5.heap.size) := Lib.hid (by have := hg5.size; simp at this; omega)
    clear ho5 hg5 hfr hgs
    go_wp2_with fail
    go_end0
    obtain ⟨hM7, hT7⟩ := HGS.out (ptr w3.heap.size)
    have hg7 := hT7.grown
    have kp : ∀ b, b < w3.heap.size → (F b ∨ FO' b) → (gs (ptr w3.heap.size)).heap[b]? = w3.heap[b]? := fun b hb hf => by
      have n1 : b ≠ L ∧ b ≠ mc ∧ vb.ownBlock ≠ some b := hf.elim (fun h => by have := (HF1.out b h).1; exact ⟨by omega, by omega, fun e => by have := (HOLT.out b e); omega⟩) (fun h => (HF2.out b h).2.1.elim (fun h => (HFO.out b h).2) (fun h => ⟨by omega, by omega, fun e => by have := (HOLT.out b e); omega⟩))
      refine (hg7.block b (by simp [World.setCell]; have := HG5S.out; omega) (fun e => n1.2.1 (by cases e; rfl))).trans ((Below.heap_setCell _ ⟨L, 4, none⟩ _ b n1.1).trans ((HG5B.out.block b (by simp; omega) (fun e => n1.2.2 e.symm)).trans ?_))
      exact (Below.heap_alloc _ _ b (by simp; omega)).trans (Below.heap_alloc _ _ b hb)
    have hsz : w3.heap.size ≤ (gs (ptr w3.heap.size)).heap.size := by have h1 := hg7.size; have h2 := HG5S.out; simp [World.setCell] at h1; omega
    refine ⟨rfl, w3.heap.size, .slice (some ⟨g1, 0, none⟩) (k + 1) cap1, opOf opv er, F, FO', HL6.out.same (hg7.block L HL6.out.lt (fun e => HM6.out.ne_row HL6.out (by cases e; rfl))), HI6.out.same (hg7.block _ HI6.out.lt (fun e => HM6.out.ne_row HI6.out (by cases e; rfl))), hM7, HO6.out.kept hg7 ?_,
      ⟨by omega, fun h => by have := (HF1.out _ h).2; omega, fun h => by have := (HF2.out _ h).1; omega⟩, K.obj_keep HOB3.out (fun b h => kp b (HF2.out b h).1 (.inr h)) (fun _ h => h), HOP3.out.keep (fun b h => kp b (HF1.out b h).2 (.inl h)) (fun _ h => h),
      fun b h => ⟨(HF1.out b h).1, Nat.lt_of_lt_of_le (HF1.out b h).2 hsz⟩, fun b h => ⟨Nat.lt_of_lt_of_le (HF2.out b h).1 hsz, (HF2.out b h).2⟩, fun b h => HL5b.out.imp (fun e => by rw [← e]; exact h) (fun e => by
        have e2 : w3.heap.size + 1 ≤ b := by rw [e] at h; simp at h; omega
        exact ⟨by omega, fun h => by have := (HF1.out _ h).2; omega, fun h => by have := (HF2.out _ h).1; omega⟩), HF6.out.trans (ButS.of_grown hg7 (fun k hk => .inr (.inl (by cases hk; rfl))))⟩
    cases hb : (Value.slice (some ⟨g1, 0, none⟩) (k + 1) cap1).ownBlock with
    | none => exact .inl rfl
    | some g => right; intro e; exact owns_no_map HM6.out HO6.out (by rw [hb]; exact e)
end
end
section
open Go.RowKit

structure LA where
  B0 : Nat
  L : Nat
  top : Nat
  lb : Nat
  mb : Nat
  bm : Nat
  bw : Nat
  mc : Nat
  gc : Nat
  go : Nat
  capo : Nat
  capC : Nat
  aoC : Option Addr
section
variable {M : Mach}

/-- an event's invocation, as it lies -/
def InvG (K : MachRel M) (w : World) (L : Nat) (col : Nat → Nat) (e g : Nat) (v : Ev M) : Prop :=
  ∃ lv kv opv : Value, RowBlk 148 w g (invVs v.i v.inv v.resp v.steps v.ans.err v.ans.val lv kv opv) ∧
    (v.resp = 0 → v.ans = ⟨0, 0, []⟩ ∧ lv = .slice none 0 0 ∧ kv = .slice none 0 0 ∧ v.key = [] ∧ OpQ K w opv v.q (fun b => col b = e + 2)) ∧
    ListAt w 37 mkU (fun b => L < b ∧ col b = 0) lv v.ans.list ∧ ListAt w 3 mkI (fun b => L < b ∧ col b = 0) kv v.key
theorem InvG.keep {K : MachRel M} {w w' : World} {L : Nat} {col col' : Nat → Nat} {e g : Nat} {v : Ev M} (h : InvG K w L col e g v) (hg : w'.heap[g]? = w.heap[g]?) (ho : ∀ b, col b = e + 2 → w'.heap[b]? = w.heap[b]? ∧ col' b = e + 2)
    (hl : ∀ b t, BlkT w b t → (t = 37 ∨ t = 3) → L < b → col b = 0 → w'.heap[b]? = w.heap[b]? ∧ col' b = 0) : InvG K w' L col' e g v := by
  obtain ⟨lv, kv, opv, h1, h2, h3, h4⟩ := h
  exact ⟨lv, kv, opv, h1.same hg, fun h => by
    obtain ⟨a, b, c, d, f⟩ := h2 h
    exact ⟨a, b, c, d, f.keep (fun k hk => (ho k hk).1) (fun k hk => (ho k hk).2)⟩,
    h3.keep (fun b ht hp => ⟨(hl b _ ht (.inl rfl) hp.1 hp.2).1, hp.1, (hl b _ ht (.inl rfl) hp.1 hp.2).2⟩), h4.keep (fun b ht hp => ⟨(hl b _ ht (.inr rfl) hp.1 hp.2).1, hp.1, (hl b _ ht (.inr rfl) hp.1 hp.2).2⟩)⟩

/-- what a thread's current invocation is in the map -/
def curV (ps : List Nat) (cur : Int → Option Nat) (p : Int) : Value := match cur p with | none => .pointer none | some e => match ps[e]? with | none => .pointer none | some g => ptr g

structure RestG (K : MachRel M) (cs : List CallV) (a : LA) (col : Nat → Nat) (w : World) (st : St M) (ps : List Nat) : Prop where
  invs : ∀ e v, st.evs[e]? = some v → ∃ g, ps[e]? = some g ∧ a.L < g ∧ col g = 0 ∧ InvG K w a.L col e g v
  mem : MemIs 139 w a.bm a.bw st.ws st.cn
  calls : CallsAt w a.gc 0 cs
  objs : ObjsAt w a.go K.objs
  obj : K.Obj w st.s (fun b => col b = 1)
/-- how the blocks lie -/
structure LaysG (cs : List CallV) (a : LA) (col : Nat → Nat) (n : Nat) (w : World) : Prop where
  haC : 0 < cs.length → a.aoC = some ⟨a.gc, 0, none⟩
  gsep : 0 < cs.length → a.gc < a.L ∧ a.gc ≠ a.bm ∧ a.gc ≠ a.bw ∧ a.gc ≠ a.mc ∧ a.gc ≠ a.mb ∧ a.top ≤ a.gc ∧ col a.gc = 0
  osep : a.go < a.L ∧ a.go ≠ a.bm ∧ a.go ≠ a.bw ∧ a.go ≠ a.mc ∧ a.go ≠ a.mb ∧ a.top ≤ a.go ∧ col a.go = 0
  lsep : a.bm < a.L ∧ a.bw < a.L ∧ a.mc < a.L
  t1 : a.top ≤ a.L ∧ a.top ≤ a.bm ∧ a.top ≤ a.bw ∧ a.top ≤ a.mc ∧ a.mb < a.top ∧ a.top ≤ w.heap.size
  b0 : a.B0 ≤ a.L ∧ a.B0 ≤ a.bm ∧ a.B0 ≤ a.bw ∧ a.B0 ≤ a.mc ∧ a.B0 ≤ a.mb
  mne : a.mc ≠ a.bm ∧ a.mc ≠ a.bw ∧ a.bm ≠ a.bw
  c0 : col a.L = 0 ∧ col a.mb = 0 ∧ col a.bm = 0 ∧ col a.bw = 0 ∧ col a.mc = 0
  cT : ∀ b, col b ≠ 0 → a.top ≤ b ∧ b < w.heap.size ∧ a.B0 ≤ b
  cL : ∀ b, 2 ≤ col b → a.L < b
  cE : ∀ b, col b < n + 2
  cl : cs.length ≤ 1000
structure LoomG (K : MachRel M) (cs : List CallV) (a : LA) (j : Nat) (col : Nat → Nat) (w : World) (st : St M) : Prop where
  blk : ∃ (vb : Value) (ps : List Nat), RowBlk 104 w a.L (loomVs (.slice a.aoC cs.length a.capC) a.lb a.bm (.slice (some ⟨a.go, 0, none⟩) K.objs.length a.capo) vb a.mc st.ticks st.idle) ∧
    w.ownsRow (a.L + 1) 107 1 vb st.evs.length (ps.map ptr) ∧ ps.length = st.evs.length ∧ (∀ i k x : Nat, ps[i]? = some x → ps[k]? = some x → i = k) ∧ (∀ k, vb.ownBlock = some k → col k = 0) ∧ RestG K cs a col w st ps ∧
    ∃ N, MapIs Try.prog 3 w a.mc N (.pointer none) (curV ps st.cur) ∧ N ≤ st.evs.length
  line : ∃ f N, LineIs w a.top a.lb a.mb N f (ownL (thr cs) st.fin) ∧ N ≤ cs.length + st.fin.count true
  lays : LaysG cs a col st.evs.length w
  tj : st.ticks + st.idle = j
  jl : j ≤ 65536
  evl : st.evs.length ≤ st.ticks
  stl : ∀ v ∈ st.evs, v.steps ≤ st.ticks

variable {K : MachRel M} {cs : List CallV} {a : LA} {col col' : Nat → Nat} {w w' : World} {st : St M} {ps : List Nat} {j n : Nat}
theorem RestG.keep (h : RestG K cs a col w st ps) (hl : LaysG cs a col st.evs.length w) (hb : ∀ k, k < w.heap.size → k ≠ a.L → k ≠ a.mc → k ≠ a.mb → w'.heap[k]? = w.heap[k]?) : RestG K cs a col w' st ps := by
  have h1 := hl.lsep
  have h2 := hl.t1
  have h3 := hl.mne
  have h4 := hl.c0
  refine ⟨fun e v hv => ?_, h.mem.of_blocks (hb _ h.mem.lt1 (by omega) (by omega) (by omega)) (hb _ h.mem.lt2 (by omega) (by omega) (by omega)), ?_, ?_, K.obj_keep h.obj (fun k hk => ?_) (fun _ h => h)⟩
  · obtain ⟨g, hg, hgl, hgc, hi⟩ := h.invs e v hv
    refine ⟨g, hg, hgl, hgc, hi.keep (hb g ?_ (by omega) (by omega) (by omega)) (fun b hb' => ⟨hb b (hl.cT b (by omega)).2.1 (fun e => by rw [e] at hb'; omega) (fun e => by rw [e] at hb'; omega) (fun e => by rw [e] at hb'; omega), hb'⟩) (fun b t ht _ hlt hc => ⟨hb b ht.lt (by omega) (by omega) (by omega), hc⟩)⟩
    obtain ⟨_, _, _, hr, _⟩ := hi
    exact hr.lt
  · intro i x hx
    have hl0 : 0 < cs.length := by have := (List.getElem?_eq_some_iff.1 hx).1; omega
    have hg := hl.gsep hl0
    have hc := h.calls i x hx
    have e : ∀ o, w'.cell? ⟨a.gc, o, none⟩ = w.cell? ⟨a.gc, o, none⟩ := fun o => by
      unfold World.cell?
      rw [hb a.gc (World.block_lt_of_cell? w ⟨a.gc, _, none⟩ hc.1) (by omega) (by omega) (by omega)]
    rw [e, e, e, e, e, e]
    exact hc
  · intro i v hv
    have hg := hl.osep
    have hc := h.objs i v hv
    rw [← hc]
    unfold World.cell?
    rw [hb a.go (World.block_lt_of_cell? w ⟨a.go, _, none⟩ hc) (by omega) (by omega) (by omega)]
  · exact hb k (hl.cT k (by omega)).2.1 (fun e => by rw [e] at hk; omega) (fun e => by rw [e] at hk; omega) (fun e => by rw [e] at hk; omega)
theorem LaysG.grow (h : LaysG cs a col n w) (hs : w.heap.size ≤ w'.heap.size) : LaysG cs a col n w' :=
  ⟨h.haC, h.gsep, h.osep, h.lsep, by have := h.t1; exact ⟨this.1, this.2.1, this.2.2.1, this.2.2.2.1, this.2.2.2.2.1, by omega⟩, h.b0, h.mne, h.c0, fun b hb => by have := h.cT b hb; exact ⟨this.1, by omega, this.2.2⟩, h.cL, h.cE, h.cl⟩

theorem count_set_true : ∀ {l : List Bool} {i : Nat}, l[i]? = some false → (l.set i true).count true = l.count true + 1
  | [], i, h => by simp at h
  | x :: l, 0, h => by
    simp at h; subst h
    simp
  | x :: l, i + 1, h => by
    have h' : l[i]? = some false := by simpa using h
    have ih := count_set_true h'
    rw [List.set_cons_succ, List.count_cons, List.count_cons, ih]
    omega

/-- a tick -/
theorem LoomG.tick (h : LoomG K cs a j col w st) (hj : j < 65536) (hs : w'.heap.size = w.heap.size) (hw : w' = w.setCell ⟨a.L, 6, none⟩ (.int .i64 ((st.ticks : Int) + 1))) : LoomG K cs a (j + 1) col w' st.tick := by
  subst hw
  obtain ⟨vb, ps, hL, ho, hpl, hnd, hvb, hR, N, hM, hN⟩ := h.blk
  obtain ⟨f, N2, hline, hN2⟩ := h.line
  refine ⟨⟨vb, ps, ?_, owns_set ho (Nat.lt_succ_self a.L) _, hpl, hnd, hvb, ?_, N, hM.setCell (fun e => hM.ne_row hL e.symm) _, hN⟩, ⟨f, N2, hline.stays (B := a.top) ((Below.refl a.top w).setCell (show a.top ≤ (⟨a.L, 6, none⟩ : Addr).block from h.lays.t1.1) _) (Nat.le_refl _), hN2⟩, h.lays.grow (Nat.le_of_eq hs.symm), ?_, by omega, ?_, ?_⟩
  · have := hL.put 6 (.int .i64 ((st.ticks : Int) + 1))
    exact this
  · have := hR.keep (w' := w.setCell ⟨a.L, 6, none⟩ (.int .i64 ((st.ticks : Int) + 1))) h.lays (fun k _ h1 _ _ => Below.heap_setCell _ _ _ _ h1)
    exact ⟨this.invs, this.mem, this.calls, this.objs, this.obj⟩
  · have := h.tj; show st.ticks + 1 + st.idle = j + 1; omega
  · have := h.evl; show st.evs.length ≤ st.ticks + 1; omega
  · intro v hv; have := h.stl v hv; show v.steps ≤ st.ticks + 1; omega
theorem LoomG.idle (h : LoomG K cs a j col w st) (hj : j < 65536) (hs : w'.heap.size = w.heap.size) (hw : w' = w.setCell ⟨a.L, 7, none⟩ (.int .i64 ((st.idle : Int) + 1))) : LoomG K cs a (j + 1) col w' { st with idle := st.idle + 1 } := by
  subst hw
  obtain ⟨vb, ps, hL, ho, hpl, hnd, hvb, hR, N, hM, hN⟩ := h.blk
  obtain ⟨f, N2, hline, hN2⟩ := h.line
  refine ⟨⟨vb, ps, ?_, owns_set ho (Nat.lt_succ_self a.L) _, hpl, hnd, hvb, ?_, N, hM.setCell (fun e => hM.ne_row hL e.symm) _, hN⟩, ⟨f, N2, hline.stays (B := a.top) ((Below.refl a.top w).setCell (show a.top ≤ (⟨a.L, 7, none⟩ : Addr).block from h.lays.t1.1) _) (Nat.le_refl _), hN2⟩, h.lays.grow (Nat.le_of_eq hs.symm), ?_, by omega, h.evl, h.stl⟩
  · have := hL.put 7 (.int .i64 ((st.idle : Int) + 1))
    exact this
  · have := hR.keep (w' := w.setCell ⟨a.L, 7, none⟩ (.int .i64 ((st.idle : Int) + 1))) h.lays (fun k _ h1 _ _ => Below.heap_setCell _ _ _ _ h1)
    exact ⟨this.invs, this.mem, this.calls, this.objs, this.obj⟩
  · have := h.tj; show st.ticks + (st.idle + 1) = j + 1; omega

theorem recol_ex (F FO' : Nat → Prop) (old : Nat → Nat) (c wipe : Nat) : ∃ col' : Nat → Nat, ∀ b, (F b → col' b = c) ∧ (¬ F b → FO' b → col' b = 1) ∧ (¬ F b → ¬ FO' b → (old b = 1 ∨ old b = wipe) → col' b = 0) ∧ (¬ F b → ¬ FO' b → old b ≠ 1 → old b ≠ wipe → col' b = old b) := by
  classical
  refine ⟨fun b => if F b then c else if FO' b then 1 else if old b = 1 ∨ old b = wipe then 0 else old b, fun b => ⟨fun h => ?_, fun h h' => ?_, fun h h' h2 => ?_, fun h h' h2 h3 => ?_⟩⟩
  · simp only [if_pos h]
  · simp only [if_neg h, if_pos h']
  · simp only [if_neg h, if_neg h', if_pos h2]
  · simp only [if_neg h, if_neg h', if_neg (not_or.2 ⟨h2, h3⟩)]
theorem curV_eq {ps qs : List Nat} {cur cur' : Int → Option Nat} {p : Int} (h : cur p = cur' p) (h2 : ∀ e, cur p = some e → ps[e]? = qs[e]?) : curV ps cur p = curV qs cur' p := by
  unfold curV
  rw [← h]
  cases hc : cur p with
  | none => rfl
  | some e => simp only [h2 e hc]

/-- behind invoke -/
theorem LoomG.begun (h : LoomG K cs a j col w st) {i : Nat} {x : CallV} {p : Int} {vb : Value} {N0 : Nat} {en : Ending}
    (hL : RowBlk 104 w a.L (loomVs (.slice a.aoC cs.length a.capC) a.lb a.bm (.slice (some ⟨a.go, 0, none⟩) K.objs.length a.capo) vb a.mc st.ticks st.idle))
    (ho : w.ownsRow (a.L + 1) 107 1 vb st.evs.length (ps.map ptr)) (hpl : ps.length = st.evs.length) (hnd : ∀ i k x : Nat, ps[i]? = some x → ps[k]? = some x → i = k) (hvb : ∀ k, vb.ownBlock = some k → col k = 0) (hR : RestG K cs a col w st ps) (hN : N0 ≤ st.evs.length) (hM : MapIs Try.prog 3 w a.mc N0 (.pointer none) (curV ps st.cur))
    (hev : st.evs.length < st.ticks) (hcur : ∀ p e, st.cur p = some e → e < st.evs.length)
    (hI : InvPost K (invQ st.s x) (fun b => col b = 1) (.slice a.aoC cs.length a.capC) a.L a.lb a.bm (.slice (some ⟨a.go, 0, none⟩) K.objs.length a.capo) vb a.mc st.ticks st.idle i N0 st.evs.length p (curV ps st.cur) (ps.map ptr) w en w') :
    en = .returned (.tuple #[]) ∧ (∃ col', LoomG K cs a j col' w' (st.begin i x p)) ∧ Below a.B0 w w' := by
  obtain ⟨rfl, g, vb', opv, F, FO', hL', hG', hM', ho', ⟨hg, hgF, hgO⟩, hO', hQ', hF, hFO, hvb', hB⟩ := hI
  have hl := h.lays
  have h1 := hl.lsep
  have h2 := hl.t1
  have h3 := hl.mne
  have h4 := hl.c0
  have h5 := hl.b0
  have hlt := hL.lt
  have hz := hB.size
  have hmcl := hM.lt
  obtain ⟨col', hcol⟩ := recol_ex F FO' col (st.evs.length + 2) 1
  have out : ∀ b, w.heap.size ≤ b → col b = 0 := fun b hb => by
    rcases Nat.eq_zero_or_pos (col b) with h | h
    · exact h
    · have := (hl.cT b (by omega)).2.1; omega
  have nF : ∀ b, b < w.heap.size → ¬ F b := fun b hb h => by have := (hF b h).1; omega
  have nO : ∀ b, b < w.heap.size → col b ≠ 1 → ¬ FO' b := fun b hb hc h => (hFO b h).2.1.elim hc (fun h => by omega)
  have same : ∀ b, b < w.heap.size → col b ≠ 1 → col' b = col b := fun b hb hc => (hcol b).2.2.2 (nF b hb) (nO b hb hc) hc hc
  have z0 : ∀ b, b < w.heap.size → col b = 0 → col' b = 0 := fun b hb hc => (same b hb (by omega)).trans hc
  have ge : ∀ b, w.heap.size ≤ b → ¬ F b → ¬ FO' b → col' b = 0 := fun b hb h h' => by
    have h0 := out b hb
    rw [(hcol b).2.2.2 h h' (by omega) (by omega)]
    exact h0
  have own : ∀ k, vb.ownBlock = some k → a.L + 1 ≤ k ∧ k < w.heap.size := fun k hk => ho.lt k hk
  have blk : ∀ b, b < w.heap.size → b ≠ a.L → b ≠ a.mc → vb.ownBlock ≠ some b → col b ≠ 1 → w'.heap[b]? = w.heap[b]? := fun b hb c1 c2 c3 c4 => hB.block b hb (fun h => h.elim c1 (fun h => h.elim c2 (fun h => h.elim c3 c4)))
  have low : ∀ b, b < w.heap.size → b < a.L → b ≠ a.mc → col b = 0 → w'.heap[b]? = w.heap[b]? := fun b hb c1 c2 c3 => blk b hb (by omega) c2 (fun e => by have := own b e; omega) (by omega)
  have hgps : ∀ k x, ps[k]? = some x → x < w.heap.size := fun k x hk => by
    have hkl := (List.getElem?_eq_some_iff.1 hk).1
    obtain ⟨v, hv⟩ : ∃ v, st.evs[k]? = some v := ⟨st.evs[k]'(by omega), List.getElem?_eq_getElem _⟩
    obtain ⟨g', hg', _, _, _, _, _, hr, _⟩ := hR.invs k v hv
    rw [hk] at hg'; cases hg'
    exact hr.lt
  refine ⟨rfl, ⟨col', ⟨vb', ps ++ [g], hL', ?_, ?_, ?_, ?_, ⟨?_, ?_, ?_, ?_, ?_⟩, N0 + 1, ?_, ?_⟩, ?_, ?_, h.tj, h.jl, ?_, ?_⟩, ?_⟩
  · rw [List.map_append]
    show w'.ownsRow (a.L + 1) 107 1 vb' (st.evs ++ [_]).length _
    rw [List.length_append]
    exact ho'
  · show (ps ++ [g]).length = (st.evs ++ [_]).length
    rw [List.length_append, List.length_append, hpl]; rfl
  · intro i k x hi hk
    have cases1 : ∀ n, (ps ++ [g])[n]? = some x → (ps[n]? = some x ∧ n < ps.length) ∨ (n = ps.length ∧ x = g) := fun n hn => by
      by_cases hnl : n < ps.length
      · rw [List.getElem?_append_left hnl] at hn; exact .inl ⟨hn, hnl⟩
      · rw [List.getElem?_append_right (by omega)] at hn
        have h0 : n - ps.length = 0 := by have := (List.getElem?_eq_some_iff.1 hn).1; simp at this; omega
        rw [h0] at hn; cases hn
        exact .inr ⟨by omega, rfl⟩
    rcases cases1 i hi with ⟨c1, _⟩ | ⟨c1, c2⟩ <;> rcases cases1 k hk with ⟨d1, _⟩ | ⟨d1, d2⟩
    · exact hnd i k x c1 d1
    · have := hgps i x c1; omega
    · have := hgps k x d1; omega
    · omega
  · intro k hk
    rcases hvb' k hk with h | ⟨c1, c2, c3⟩
    · exact z0 k (own k h).2 (hvb k h)
    · exact ge k c1 c2 c3
  · intro e v hv
    have hv' : (st.evs ++ [⟨i, st.ticks, 0, 0, ⟨0, 0, []⟩, [], (invQ st.s x).2⟩])[e]? = some v := hv
    by_cases he : e < st.evs.length
    · rw [List.getElem?_append_left he] at hv'
      obtain ⟨g', hg', c1, c2, c3⟩ := hR.invs e v hv'
      obtain ⟨vs0, hr⟩ : ∃ vs, RowBlk 148 w g' vs := by obtain ⟨_, _, _, hr, _⟩ := c3; exact ⟨_, hr⟩
      refine ⟨g', by rw [List.getElem?_append_left (by omega)]; exact hg', c1, z0 g' hr.lt c2, c3.keep (blk g' hr.lt (by omega) (by omega) (row_owns_ne hr ho (by decide)) (by omega)) (fun b hb => ?_) (fun b t ht htt hlb hcb => ?_)⟩
      · have hbs := (hl.cT b (by omega)).2.1
        exact ⟨blk b hbs (fun e => by rw [e] at hb; omega) (fun e => by rw [e] at hb; omega) (fun e => by have := hvb b e; omega) (by omega), by rw [same b hbs (by omega)]; exact hb⟩
      · exact ⟨blk b ht.lt (by omega) (by omega) (BlkT.ne_owns ht ho (by rcases htt with rfl | rfl <;> decide)) (by omega), z0 b ht.lt hcb⟩
    · rw [List.getElem?_append_right (by omega)] at hv'
      have h0 : e - st.evs.length = 0 := by have := (List.getElem?_eq_some_iff.1 hv').1; simp at this; omega
      rw [h0] at hv'; cases hv'
      have he' : e = st.evs.length := by omega
      subst he'
      refine ⟨g, by rw [List.getElem?_append_right (by omega), hpl, Nat.sub_self]; rfl, by omega, ge g hg hgF hgO, _, _, opv, hG', fun _ => ⟨rfl, rfl, rfl, rfl, hQ'.keep (fun _ _ => rfl) (fun b hb => (hcol b).1 hb)⟩, ListAt.nil _ _ _ _, ListAt.nil _ _ _ _⟩
  · exact hR.mem.of_blocks (low _ hR.mem.lt1 (by omega) (by omega) (by omega)) (low _ hR.mem.lt2 (by omega) (by omega) (by omega))
  · intro i x hx
    have hl0 : 0 < cs.length := by have := (List.getElem?_eq_some_iff.1 hx).1; omega
    have hg := hl.gsep hl0
    have hc := hR.calls i x hx
    have e : ∀ o, w'.cell? ⟨a.gc, o, none⟩ = w.cell? ⟨a.gc, o, none⟩ := fun o => by
      unfold World.cell?
      rw [low a.gc (World.block_lt_of_cell? w ⟨a.gc, _, none⟩ hc.1) (by omega) (by omega) (by omega)]
    rw [e, e, e, e, e, e]
    exact hc
  · intro i v hv
    have hg := hl.osep
    have hc := hR.objs i v hv
    rw [← hc]
    unfold World.cell?
    rw [low a.go (World.block_lt_of_cell? w ⟨a.go, _, none⟩ hc) (by omega) (by omega) (by omega)]
  · exact K.obj_keep hO' (fun _ _ => rfl) (fun b hb => (hcol b).2.1 (hFO b hb).2.2 hb)
  · have e : updF (curV ps st.cur) p (ptr g) = curV (ps ++ [g]) (st.begin i x p).cur := by
      funext q
      by_cases hq : q = p
      · subst hq
        rw [updF_same]
        unfold curV
        have : (st.begin i x q).cur q = some st.evs.length := updF_same _ _ _
        rw [this]
        simp only
        rw [List.getElem?_append_right (by omega), hpl, Nat.sub_self]
        rfl
      · rw [updF_other _ _ hq]
        exact curV_eq (updF_other _ _ hq).symm (fun e he => (List.getElem?_append_left (by rw [hpl]; exact hcur q e he)).symm)
    rw [← e]
    exact hM'
  · show N0 + 1 ≤ (st.evs ++ [_]).length
    rw [List.length_append]; exact Nat.succ_le_succ hN
  · obtain ⟨f, N2, hline, hN2⟩ := h.line
    exact ⟨f, N2, hline.stays (B := a.top) (hB.below (fun k hk => hk.elim (fun e => by omega) (fun hk => hk.elim (fun e => by omega) (fun hk => hk.elim (fun e => by have := own k e; omega) (fun e => (hl.cT k (by omega)).1)))) (by omega)) (Nat.le_refl _), hN2⟩
  · show LaysG cs a col' (st.evs ++ [_]).length w'
    rw [List.length_append]
    refine ⟨hl.haC, fun h0 => ?_, ?_, h1, ⟨h2.1, h2.2.1, h2.2.2.1, h2.2.2.2.1, h2.2.2.2.2.1, by omega⟩, h5, h3, ⟨z0 _ hlt h4.1, z0 _ (by omega) h4.2.1, z0 _ (by omega) h4.2.2.1, z0 _ (by omega) h4.2.2.2.1, z0 _ (by omega) h4.2.2.2.2⟩, fun b hb => ?_, fun b hb => ?_, fun b => ?_, hl.cl⟩
    · have hg := hl.gsep h0
      exact ⟨hg.1, hg.2.1, hg.2.2.1, hg.2.2.2.1, hg.2.2.2.2.1, hg.2.2.2.2.2.1, z0 _ (by omega) hg.2.2.2.2.2.2⟩
    · have hg := hl.osep
      exact ⟨hg.1, hg.2.1, hg.2.2.1, hg.2.2.2.1, hg.2.2.2.2.1, hg.2.2.2.2.2.1, z0 _ (by omega) hg.2.2.2.2.2.2⟩
    · by_cases hb1 : F b
      · have := hF b hb1; omega
      · by_cases hb2 : FO' b
        · have hb3 := hFO b hb2
          exact ⟨hb3.2.1.elim (fun h => (hl.cT b (by omega)).1) (fun h => by omega), hb3.1, hb3.2.1.elim (fun h => (hl.cT b (by omega)).2.2) (fun h => by omega)⟩
        · by_cases hb3 : col b = 1
          · have := (hcol b).2.2.1 hb1 hb2 (.inl hb3); omega
          · have hb4 := (hcol b).2.2.2 hb1 hb2 hb3 hb3
            have hb5 := hl.cT b (by omega)
            exact ⟨hb5.1, by omega, hb5.2.2⟩
    · by_cases hb1 : F b
      · have := hF b hb1; omega
      · by_cases hb2 : FO' b
        · have := (hcol b).2.1 hb1 hb2; omega
        · by_cases hb3 : col b = 1
          · have := (hcol b).2.2.1 hb1 hb2 (.inl hb3); omega
          · have hb4 := (hcol b).2.2.2 hb1 hb2 hb3 hb3
            exact hl.cL b (by omega)
    · show col' b < st.evs.length + 1 + 2
      have hb0 := hl.cE b
      by_cases hb1 : F b
      · have := (hcol b).1 hb1; omega
      · by_cases hb2 : FO' b
        · have := (hcol b).2.1 hb1 hb2; omega
        · by_cases hb3 : col b = 1
          · have := (hcol b).2.2.1 hb1 hb2 (.inl hb3); omega
          · have hb4 := (hcol b).2.2.2 hb1 hb2 hb3 hb3
            omega
  · show (st.evs ++ [_]).length ≤ st.ticks
    rw [List.length_append]; exact hev
  · intro v hv
    rcases List.mem_append.1 (show v ∈ st.evs ++ [_] from hv) with hv | hv
    · exact h.stl v hv
    · rw [List.mem_singleton] at hv; subst hv; exact Nat.zero_le _
  · exact hB.below (fun k hk => hk.elim (fun e => by omega) (fun hk => hk.elim (fun e => by omega) (fun hk => hk.elim (fun e => by have := own k e; omega) (fun e => (hl.cT k (by omega)).2.2)))) (by omega)
end
end
section
open Go.RowKit
section
variable {M : Mach} {K : MachRel M} {cs : List CallV} {a : LA} {col col' : Nat → Nat} {w w' : World} {st : St M} {ps : List Nat} {j n : Nat}

def midEv (st : St M) (v : Ev M) : Ev M :=
  match (stepQ st.s v.q st.ws st.cn st.ticks).ans with
  | none => v.more (stepQ st.s v.q st.ws st.cn st.ticks).q
  | some an => v.done (stepQ st.s v.q st.ws st.cn st.ticks).q st.ticks an (keyQ (stepQ st.s v.q st.ws st.cn st.ticks).s (stepQ st.s v.q st.ws st.cn st.ticks).q)
def St.mid (st : St M) (e : Nat) (v : Ev M) : St M :=
  { st with s := (stepQ st.s v.q st.ws st.cn st.ticks).s, ws := (stepQ st.s v.q st.ws st.cn st.ticks).ws, cn := (stepQ st.s v.q st.ws st.cn st.ticks).cn, evs := st.evs.set e (midEv st v) }
theorem step_none {i : Nat} {p : Int} {e : Nat} {v : Ev M} (h : (stepQ st.s v.q st.ws st.cn st.ticks).ans = none) : st.step i p e v = st.mid e v := by
  unfold St.step St.mid midEv; simp only [h]
theorem step_some {i : Nat} {p : Int} {e : Nat} {v : Ev M} {an : Ans} (h : (stepQ st.s v.q st.ws st.cn st.ticks).ans = some an) : st.step i p e v = { st.mid e v with fin := st.fin.set i true, cur := updF st.cur p none } := by
  unfold St.step St.mid midEv; simp only [h]

theorem LoomG.drew (h : LoomG K cs a j col w st) : LoomG K cs a j col w.drew st := by
  obtain ⟨vb, ps, hL, ho, hpl, hnd, hvb, hR, N, hM, hN⟩ := h.blk
  obtain ⟨f, N2, hline, hN2⟩ := h.line
  exact ⟨⟨vb, ps, hL, ho, hpl, hnd, hvb, ⟨fun e v hv => by
    obtain ⟨g, h1, h2, h3, h4⟩ := hR.invs e v hv
    exact ⟨g, h1, h2, h3, h4.keep rfl (fun b hb => ⟨rfl, hb⟩) (fun b t _ _ _ hc => ⟨rfl, hc⟩)⟩, hR.mem, hR.calls, hR.objs, K.obj_keep hR.obj (fun _ _ => rfl) (fun _ h => h)⟩, N, hM, hN⟩, ⟨f, N2, hline.drew, hN2⟩, h.lays.grow (Nat.le_refl _), h.tj, h.jl, h.evl, h.stl⟩

/-- behind a step -/
theorem LoomG.stepped (h : LoomG K cs a j col w st) {e g : Nat} {v : Ev M} {vb opv : Value} {N0 : Nat} {en : Ending}
    (hL : RowBlk 104 w a.L (loomVs (.slice a.aoC cs.length a.capC) a.lb a.bm (.slice (some ⟨a.go, 0, none⟩) K.objs.length a.capo) vb a.mc st.ticks st.idle))
    (ho : w.ownsRow (a.L + 1) 107 1 vb st.evs.length (ps.map ptr)) (hpl : ps.length = st.evs.length) (hnd : ∀ i k x : Nat, ps[i]? = some x → ps[k]? = some x → i = k) (hvb : ∀ k, vb.ownBlock = some k → col k = 0) (hR : RestG K cs a col w st ps) (hN : N0 ≤ st.evs.length) (hM : MapIs Try.prog 3 w a.mc N0 (.pointer none) (curV ps st.cur))
    (hv : st.evs[e]? = some v) (hg : ps[e]? = some g) (hr0 : v.resp = 0) (hst : v.steps < st.ticks) (ht0 : 0 < st.ticks) (hkey : v.key = []) (hans : v.ans = ⟨0, 0, []⟩)
    (hI : InvStep K (stepQ st.s v.q st.ws st.cn st.ticks) opv g a.bm a.bw (fun b => col b = e + 2) (fun b => col b = 1) v.i v.inv v.steps st.ticks w en w') :
    en = .returned (.bool (stepQ st.s v.q st.ws st.cn st.ticks).ans.isSome) ∧ (∃ col', LoomG K cs a j col' w' (st.mid e v)) ∧ ButS (fun k => k = g ∨ k = a.bm ∨ k = a.bw ∨ col k = e + 2 ∨ col k = 1) w w' := by
  have hl := h.lays
  have h1 := hl.lsep
  have h2 := hl.t1
  have h3 := hl.mne
  have h4 := hl.c0
  have h5 := hl.b0
  have hlt := hL.lt
  have hB := hI.but
  have hz := hB.size
  have hmcl := hM.lt
  have hel : e < st.evs.length := (List.getElem?_eq_some_iff.1 hv).1
  obtain ⟨g0, hg0, hgL, hgc, hGI⟩ := hR.invs e v hv
  rw [hg] at hg0; cases hg0
  obtain ⟨vs0, hgr⟩ : ∃ vs, RowBlk 148 w g vs := by obtain ⟨_, _, _, hr, _⟩ := hGI; exact ⟨_, hr⟩
  obtain ⟨F', FO', hF, hFO, hO', hQ', hA⟩ := hI.ex
  have hend : en = .returned (.bool (stepQ st.s v.q st.ws st.cn st.ticks).ans.isSome) := by
    cases hx : (stepQ st.s v.q st.ws st.cn st.ticks).ans with
    | none => rw [hx] at hA; exact hA.1
    | some an => rw [hx] at hA; exact hA.1
  obtain ⟨Fk, hFk1, hFk2, hFk3⟩ : ∃ Fk : Nat → Prop, (∀ b, Fk b → F' b) ∧ ((stepQ st.s v.q st.ws st.cn st.ticks).ans = none → ∀ b, F' b → Fk b) ∧ (∀ an, (stepQ st.s v.q st.ws st.cn st.ticks).ans = some an → ∀ b, ¬ Fk b) := by
    cases hx : (stepQ st.s v.q st.ws st.cn st.ticks).ans with
    | none => exact ⟨F', fun _ h => h, fun _ _ h => h, fun an h => by cases h⟩
    | some an => exact ⟨fun _ => False, fun _ h => h.elim, fun h => (by cases h), fun _ _ _ h => h⟩
  obtain ⟨col', hcol⟩ := recol_ex Fk FO' col (e + 2) (e + 2)
  have out : ∀ b, w.heap.size ≤ b → col b = 0 := fun b hb => by
    rcases Nat.eq_zero_or_pos (col b) with h | h
    · exact h
    · have := (hl.cT b (by omega)).2.1; omega
  have nF : ∀ b, b < w.heap.size → col b ≠ e + 2 → ¬ Fk b := fun b hb hc h => (hF b (hFk1 b h)).2.elim hc (fun h => by omega)
  have nO : ∀ b, b < w.heap.size → col b ≠ 1 → ¬ FO' b := fun b hb hc h => (hFO b h).2.1.elim hc (fun h => by omega)
  have same : ∀ b, b < w.heap.size → col b ≠ 1 → col b ≠ e + 2 → col' b = col b := fun b hb hc hd => (hcol b).2.2.2 (nF b hb hd) (nO b hb hc) hc hd
  have z0 : ∀ b, b < w.heap.size → col b = 0 → col' b = 0 := fun b hb hc => (same b hb (by omega) (by omega)).trans hc
  have own : ∀ k, vb.ownBlock = some k → a.L + 1 ≤ k ∧ k < w.heap.size := fun k hk => ho.lt k hk
  have blk : ∀ b, b < w.heap.size → b ≠ g → b ≠ a.bm → b ≠ a.bw → col b ≠ e + 2 → col b ≠ 1 → w'.heap[b]? = w.heap[b]? := fun b hb c1 c2 c3 c4 c5 => hB.block b hb (fun h => h.elim c1 (fun h => h.elim c2 (fun h => h.elim c3 (fun h => h.elim c4 c5))))
  have low : ∀ b, b < w.heap.size → b ≤ a.L → b ≠ a.bm → b ≠ a.bw → col b = 0 → w'.heap[b]? = w.heap[b]? := fun b hb c1 c2 c3 c4 => blk b hb (by omega) c2 c3 (by omega) (by omega)
  refine ⟨hend, ⟨col', ⟨vb, ps, hL.same (low _ hlt (by omega) (by omega) (by omega) h4.1), ?_, ?_, hnd, fun k hk => z0 k (own k hk).2 (hvb k hk), ⟨?_, hI.mem, ?_, ?_, ?_⟩, N0, hM.sameB (low _ hmcl (by omega) (by omega) (by omega) h4.2.2.2.2), ?_⟩, ?_, ?_, h.tj, h.jl, ?_, ?_⟩, hB⟩
  · show w'.ownsRow (a.L + 1) 107 1 vb (st.evs.set e _).length _
    rw [List.length_set]
    exact owns_sameB ho (fun k hk => blk k (own k hk).2 (fun e => row_owns_ne hgr ho (by decide) (by rw [← e]; exact hk)) (by have := own k hk; omega) (by have := own k hk; omega) (by have := hvb k hk; omega) (by have := hvb k hk; omega))
  · show ps.length = (st.evs.set e _).length
    rw [List.length_set]; exact hpl
  · intro f u hu
    have hu' : (st.evs.set e (midEv st v))[f]? = some u := hu
    by_cases hfe : f = e
    · subst hfe
      rw [List.getElem?_set_self hel] at hu'
      cases hu'
      refine ⟨g, hg, hgL, z0 g hgr.lt hgc, ?_⟩
      cases hx : (stepQ st.s v.q st.ws st.cn st.ticks).ans with
      | none =>
        rw [hx] at hA
        have em : midEv st v = v.more (stepQ st.s v.q st.ws st.cn st.ticks).q := by unfold midEv; rw [hx]
        rw [em]
        refine ⟨.slice none 0 0, .slice none 0 0, opv, ?_, fun _ => ⟨hans, rfl, rfl, hkey, hQ'.keep (fun _ _ => rfl) (fun b hb => (hcol b).1 (hFk2 hx b hb))⟩, ?_, ?_⟩
        · have := hA.2
          show RowBlk _ w' g (invVs v.i v.inv v.resp ((v.steps + 1 : Nat) : Int) v.ans.err v.ans.val _ _ opv)
          rw [hr0, hans]
          exact this
        · show ListAt _ _ _ _ _ v.ans.list
          rw [hans]; exact ListAt.nil _ _ _ _
        · show ListAt _ _ _ _ _ v.key
          rw [hkey]; exact ListAt.nil _ _ _ _
      | some an =>
        rw [hx] at hA
        have em : midEv st v = v.done (stepQ st.s v.q st.ws st.cn st.ticks).q st.ticks an (keyQ (stepQ st.s v.q st.ws st.cn st.ticks).s (stepQ st.s v.q st.ws st.cn st.ticks).q) := by unfold midEv; rw [hx]
        rw [em]
        obtain ⟨_, lv, kv, hrow, hlv, hkv⟩ := hA
        refine ⟨lv, kv, opv, hrow, fun h0 => ?_, hlv.keep (fun b ht hb => ⟨rfl, ?_⟩), hkv.keep (fun b ht hb => ⟨rfl, by omega, ?_⟩)⟩
        · have h0' : st.ticks = 0 := h0
          omega
        · refine ⟨hb.1.elim (fun h => hl.cL b (by omega)) (fun h => by omega), ?_⟩
          by_cases hce : col b = f + 2
          · exact (hcol b).2.2.1 (hFk3 an hx b) hb.2.2 (.inr hce)
          · have h0 := out b (hb.1.elim (fun h => absurd h hce) id)
            rw [(hcol b).2.2.2 (hFk3 an hx b) hb.2.2 (by omega) (by omega)]; exact h0
        · have h0 := out b hb.1
          rw [(hcol b).2.2.2 (hFk3 an hx b) hb.2.2 (by omega) (by omega)]; exact h0
    · rw [List.getElem?_set_ne (fun h => hfe h.symm)] at hu'
      obtain ⟨g', hg', c1, c2, c3⟩ := hR.invs f u hu'
      obtain ⟨vs1, hr⟩ : ∃ vs, RowBlk 148 w g' vs := by obtain ⟨_, _, _, hr, _⟩ := c3; exact ⟨_, hr⟩
      have hgg : g' ≠ g := fun e' => hfe (hnd f e g' hg' (by rw [e']; exact hg))
      refine ⟨g', hg', c1, z0 g' hr.lt c2, c3.keep (blk g' hr.lt hgg (by omega) (by omega) (by omega) (by omega)) (fun b hb => ?_) (fun b t ht htt hlb hcb => ?_)⟩
      · have hbs := (hl.cT b (by omega)).2.1
        exact ⟨blk b hbs (fun e => by rw [e] at hb; omega) (fun e => by rw [e] at hb; omega) (fun e => by rw [e] at hb; omega) (by omega) (by omega), by rw [same b hbs (by omega) (by omega)]; exact hb⟩
      · exact ⟨blk b ht.lt (fun e => BlkT.ne ht (BlkT.of_row hgr) (by rcases htt with rfl | rfl <;> decide) e) (by omega) (by omega) (by omega) (by omega), z0 b ht.lt hcb⟩
  · intro i x hx
    have hl0 : 0 < cs.length := by have := (List.getElem?_eq_some_iff.1 hx).1; omega
    have hg := hl.gsep hl0
    have hc := hR.calls i x hx
    have e : ∀ o, w'.cell? ⟨a.gc, o, none⟩ = w.cell? ⟨a.gc, o, none⟩ := fun o => by
      unfold World.cell?
      rw [low a.gc (World.block_lt_of_cell? w ⟨a.gc, _, none⟩ hc.1) (by omega) (by omega) (by omega) (by omega)]
    rw [e, e, e, e, e, e]
    exact hc
  · intro i v hv
    have hg := hl.osep
    have hc := hR.objs i v hv
    rw [← hc]
    unfold World.cell?
    rw [low a.go (World.block_lt_of_cell? w ⟨a.go, _, none⟩ hc) (by omega) (by omega) (by omega) (by omega)]
  · exact K.obj_keep hO' (fun _ _ => rfl) (fun b hb => (hcol b).2.1 (fun h => (hFO b hb).2.2 (hFk1 b h)) hb)
  · show N0 ≤ (st.evs.set e _).length
    rw [List.length_set]; exact hN
  · obtain ⟨f, N2, hline, hN2⟩ := h.line
    exact ⟨f, N2, hline.stays (B := a.top) (hB.below (fun k hk => hk.elim (fun e => by omega) (fun hk => hk.elim (fun e => by omega) (fun hk => hk.elim (fun e => by omega) (fun hk => (hl.cT k (by omega)).1)))) (by omega)) (Nat.le_refl _), hN2⟩
  · show LaysG cs a col' (st.evs.set e _).length w'
    rw [List.length_set]
    refine ⟨hl.haC, fun h0 => ?_, ?_, h1, ⟨h2.1, h2.2.1, h2.2.2.1, h2.2.2.2.1, h2.2.2.2.2.1, by omega⟩, h5, h3, ⟨z0 _ hlt h4.1, z0 _ (by omega) h4.2.1, z0 _ (by omega) h4.2.2.1, z0 _ (by omega) h4.2.2.2.1, z0 _ (by omega) h4.2.2.2.2⟩, fun b hb => ?_, fun b hb => ?_, fun b => ?_, hl.cl⟩
    · have hg := hl.gsep h0
      exact ⟨hg.1, hg.2.1, hg.2.2.1, hg.2.2.2.1, hg.2.2.2.2.1, hg.2.2.2.2.2.1, z0 _ (by omega) hg.2.2.2.2.2.2⟩
    · have hg := hl.osep
      exact ⟨hg.1, hg.2.1, hg.2.2.1, hg.2.2.2.1, hg.2.2.2.2.1, hg.2.2.2.2.2.1, z0 _ (by omega) hg.2.2.2.2.2.2⟩
    · by_cases hb1 : Fk b
      · have hb3 := hF b (hFk1 b hb1)
        exact ⟨hb3.2.elim (fun h => (hl.cT b (by omega)).1) (fun h => by omega), hb3.1, hb3.2.elim (fun h => (hl.cT b (by omega)).2.2) (fun h => by omega)⟩
      · by_cases hb2 : FO' b
        · have hb3 := hFO b hb2
          exact ⟨hb3.2.1.elim (fun h => (hl.cT b (by omega)).1) (fun h => by omega), hb3.1, hb3.2.1.elim (fun h => (hl.cT b (by omega)).2.2) (fun h => by omega)⟩
        · by_cases hb3 : col b = 1 ∨ col b = e + 2
          · have := (hcol b).2.2.1 hb1 hb2 hb3; omega
          · have hb4 := (hcol b).2.2.2 hb1 hb2 (fun h => hb3 (.inl h)) (fun h => hb3 (.inr h))
            have hb5 := hl.cT b (by omega)
            exact ⟨hb5.1, by omega, hb5.2.2⟩
    · by_cases hb1 : Fk b
      · have hb3 := hF b (hFk1 b hb1)
        exact hb3.2.elim (fun h => hl.cL b (by omega)) (fun h => by omega)
      · by_cases hb2 : FO' b
        · have := (hcol b).2.1 hb1 hb2; omega
        · by_cases hb3 : col b = 1 ∨ col b = e + 2
          · have := (hcol b).2.2.1 hb1 hb2 hb3; omega
          · have hb4 := (hcol b).2.2.2 hb1 hb2 (fun h => hb3 (.inl h)) (fun h => hb3 (.inr h))
            exact hl.cL b (by omega)
    · have hb0 := hl.cE b
      by_cases hb1 : Fk b
      · have := (hcol b).1 hb1; omega
      · by_cases hb2 : FO' b
        · have := (hcol b).2.1 hb1 hb2; omega
        · by_cases hb3 : col b = 1 ∨ col b = e + 2
          · have := (hcol b).2.2.1 hb1 hb2 hb3; omega
          · have hb4 := (hcol b).2.2.2 hb1 hb2 (fun h => hb3 (.inl h)) (fun h => hb3 (.inr h))
            omega
  · show (st.evs.set e _).length ≤ st.ticks
    rw [List.length_set]; exact h.evl
  · intro u hu
    obtain ⟨f, hf⟩ := List.mem_iff_getElem?.1 (show u ∈ st.evs.set e _ from hu)
    by_cases hfe : f = e
    · subst hfe
      rw [List.getElem?_set_self hel] at hf
      cases hf
      show (midEv st v).steps ≤ st.ticks
      unfold midEv
      split
      · exact hst
      · exact hst
    · rw [List.getElem?_set_ne (fun h => hfe h.symm)] at hf
      exact h.stl u (List.mem_of_getElem? hf)

/-- behind the delete -/
theorem LoomG.cut (h : LoomG K cs a j col w st) {p : Int} {vb : Value} {N0 : Nat}
    (hL : RowBlk 104 w a.L (loomVs (.slice a.aoC cs.length a.capC) a.lb a.bm (.slice (some ⟨a.go, 0, none⟩) K.objs.length a.capo) vb a.mc st.ticks st.idle))
    (ho : w.ownsRow (a.L + 1) 107 1 vb st.evs.length (ps.map ptr)) (hpl : ps.length = st.evs.length) (hnd : ∀ i k x : Nat, ps[i]? = some x → ps[k]? = some x → i = k) (hvb : ∀ k, vb.ownBlock = some k → col k = 0) (hR : RestG K cs a col w st ps) (hN : N0 ≤ st.evs.length)
    (hM : MapIs Try.prog 3 w' a.mc N0 (.pointer none) (updF (curV ps st.cur) p (.pointer none))) (hT : w.mapTurned w' a.mc) : LoomG K cs a j col w' { st with cur := updF st.cur p none } := by
  have hg := hT.grown
  have hl := h.lays
  have h1 := hl.lsep
  have h2 := hl.t1
  have hz := hg.size
  have blk : ∀ k, k < w.heap.size → k ≠ a.mc → w'.heap[k]? = w.heap[k]? := fun k hk hne => hg.block k hk (fun e => hne (by cases e; rfl))
  obtain ⟨f, N2, hline, hN2⟩ := h.line
  have hR' := hR.keep hl (w' := w') (fun k hk _ hm _ => blk k hk hm)
  refine ⟨⟨vb, ps, hL.same (blk _ hL.lt (by omega)), owns_sameB ho (fun k hk => blk k (ho.lt k hk).2 (by have := (ho.lt k hk).1; omega)), hpl, hnd, hvb, ⟨hR'.invs, hR'.mem, hR'.calls, hR'.objs, hR'.obj⟩, N0, ?_, hN⟩, ⟨f, N2, hline.stays (B := a.top) ⟨hg.os, hg.tape, hg.output, hg.size, fun k hk => blk k (by omega) (by omega)⟩ (Nat.le_refl _), hN2⟩, hl.grow hz, h.tj, h.jl, h.evl, h.stl⟩
  have e : updF (curV ps st.cur) p (.pointer none) = curV ps (updF st.cur p none) := by
    funext q
    by_cases hq : q = p
    · subst hq; rw [updF_same]; unfold curV; rw [updF_same]
    · rw [updF_other _ _ hq]
      exact curV_eq (updF_other _ _ hq).symm (fun _ _ => rfl)
  rw [← e]; exact hM

/-- behind Finish -/
theorem LoomG.finished (h : LoomG K cs a j col w st) {p : Int} {i N2 : Nat} {f' : Int → Value} (hn : nowOf (thr cs) st.fin p = some i) (hN2 : N2 ≤ cs.length + st.fin.count true)
    (hli : LineIs w' a.top a.lb a.mb (N2 + 1) f' (updF (ownL (thr cs) st.fin) p (ownL (thr cs) st.fin p).tail)) (hB : But a.mb a.mb w w') : LoomG K cs a j col w' { st with fin := st.fin.set i true } := by
  have hl := h.lays
  have h1 := hl.lsep
  have h2 := hl.t1
  have hz := hB.size
  have blk : ∀ k, k < w.heap.size → k ≠ a.mb → w'.heap[k]? = w.heap[k]? := fun k hk hne => hB.block k hk hne hne
  obtain ⟨vb, ps, hL, ho, hpl, hnd, hvb, hR, N, hM, hN⟩ := h.blk
  have hR' := hR.keep hl (w' := w') (fun k hk _ _ hm => blk k hk hm)
  refine ⟨⟨vb, ps, hL.same (blk _ hL.lt (by omega)), owns_sameB ho (fun k hk => blk k (ho.lt k hk).2 (by have := (ho.lt k hk).1; omega)), hpl, hnd, hvb, ⟨hR'.invs, hR'.mem, hR'.calls, hR'.objs, hR'.obj⟩, N, hM.sameB (blk _ hM.lt (by omega)), hN⟩, ⟨f', N2 + 1, ?_, ?_⟩, hl.grow hz, h.tj, h.jl, h.evl, h.stl⟩
  · show LineIs w' a.top a.lb a.mb (N2 + 1) f' (ownL (thr cs) (st.fin.set i true))
    rw [own_set_fun hn]; exact hli
  · show N2 + 1 ≤ cs.length + (st.fin.set i true).count true
    rw [count_set_true (now_open hn).2.2]; omega
end
end
section
open Go.RowKit
theorem wpList_delete_map {P : Program} {w : World} {ops : Array Oper} {rest : List Oper} {o : Oper} {a : Act} {Q : Exit → Act → World → Prop} (hg : o.guard = none) (m x : Operand) (t k e : TypeId)
    (hop : o.op = Op.call { callee := Callee.builtin Builtin.delete, args := #[m, x], argTypes := #[t, k] }) (hk : P.underlying k = some (.int .i64)) (ht : P.underlying t = some (.map k e)) (b n : Nat) (z : Value) (f : Int → Value)
    (hm : a.eval m = .map (some b)) (hM : MapIs P k w b n z f) (p : Int) (hx : a.eval x = .int .i64 p) (hp : 0 ≤ p ∧ p < 16)
    (hK : ∀ w', MapIs P k w' b n z (updF f p z) → w.mapTurned w' b → wpList P ops Q rest (a.put o.dst (.tuple #[])) w') : wpList P ops Q (o :: rest) a w := by
  refine wpList_plain hg fun K' hK' => ?_
  obtain ⟨w', hrun, r1, r2⟩ := hM.drop hk ht hp o.type
  unfold Oper.wp
  simp [execOp, hop, resolve, invoke, builtin, hm, hx, hrun, Result.andThen]
  exact hK' _ _ (hK w' r1 r2)
section
variable {M : Mach}
/-- what a machine's package owes -/
structure MachOk (K : MachRel M) (cs : List CallV) (I : St M → Prop) : Prop where
  olen : K.objs.length = M.m
  inv : ∀ (st : St M) (i : Nat) (x : CallV), I st → cs[i]? = some x → 0 ≤ x.o → x.o < M.m → ∀ (W : World) (FO : Nat → Prop), K.Obj W st.s FO → (∀ b, FO b → b < W.heap.size) → InvC K (objOf K.objs x.o) x (M.inv st.s x) FO W
  step : ∀ (st : St M) (p : Int) (e : Nat) (v : Ev M) (q : M.Q), I st → Wf cs st → st.cur p = some e → st.evs[e]? = some v → v.q = .inl q → (st.cn.r + st.cn.w + st.cn.s + st.cn.a < st.ticks ∧ st.cn.f = 0) → st.ticks ≤ 70000 → ∀ (W : World) (opv : Value) (bm bw : Nat) (F FO : Nat → Prop), K.Op W opv q F → K.Obj W st.s FO → MemIs 139 W bm bw st.ws st.cn → Sep bm bw F FO W →
    StepC K (stepQ st.s (.inl q) st.ws st.cn st.ticks) st.ticks opv bm bw F FO W
  key : ∀ (W : World) (s : M.S) (q : M.Q) (opv : Value) (F FO : Nat → Prop), K.Op W opv q F → K.Obj W s FO → KeyOk opv (M.key s q) W
  turn : ∀ (st : St M) (p : Int) (i : Nat) (x : CallV), I st → Wf cs st → nowOf (thr cs) st.fin p = some i → cs[i]? = some x → I (st.turn i x p)
  stepI : ∀ (st : St M) (p : Int) (i e : Nat) (v : Ev M), I st → Wf cs st → 0 < st.ticks → nowOf (thr cs) st.fin p = some i → st.cur p = some e → st.evs[e]? = some v → I (st.step i p e v)
  idle : ∀ st : St M, I st → I { st with idle := st.idle + 1 }
variable {K : MachRel M} {cs : List CallV} {I : St M → Prop}
theorem MachOk.pick (h : MachOk K cs I) {st : St M} (hI : I st) (hw : Wf cs st) (p : Int) : I (pickM cs st p) := by
  cases hn : nowOf (thr cs) st.fin p with
  | none => rw [pickM_idle hn]; exact h.idle st hI
  | some i =>
    have hil := (now_open hn).1
    rw [thr_len] at hil
    obtain ⟨x, hx⟩ : ∃ x, cs[i]? = some x := ⟨cs[i], List.getElem?_eq_getElem hil⟩
    obtain ⟨e, v, h1, h2, _, _, h5⟩ := pickM_cases hw hn hx
    rw [h5]
    exact h.stepI _ p i e v (h.turn st p i x hI hw hn hx) (hw.turn x hn) (by rw [turn_ticks]; omega) (by rw [turn_fin]; exact hn) h1 h2
theorem keyOk_any (h : MachOk K cs I) (W : World) (s : M.S) (q : M.Q ⊕ Nat) (opv : Value) (F FO : Nat → Prop) (hO : K.Obj W s FO) (hQ : OpQ K W opv q F) : KeyOk opv (keyQ s q) W := by
  cases q with
  | inl q => exact h.key W s q opv F FO hQ hO
  | inr e =>
    obtain ⟨rfl, _⟩ := hQ
    exact .inl ⟨noKey_refusal _, rfl⟩
theorem refusal_c (s : M.S) (e : Nat) (l : List Nat) (c : Cn) (t : Nat) (opv : Value) (bm bw : Nat) (F FO : Nat → Prop) (w : World) (hQ : OpQ K w opv (.inr e) F) (hO : K.Obj w s FO) (hM : MemIs 139 w bm bw l c) (hs : Sep bm bw F FO w) : StepC K (stepQ s (.inr e) l c t) t opv bm bw F FO w := by
  obtain ⟨rfl, he⟩ := hQ
  refine ⟨_, _, _, rfl, meth_refusal _, enter_refusal, fun W hW => (refusal_step e bm bw t l c W (hM.of_blocks (hW.block _ hM.lt1) (hW.block _ hM.lt2))).mono fun en w' ⟨hen, hm, hb⟩ => ?_⟩
  refine ⟨hm, ButS.of_but hb (.inl rfl) (.inr (.inl rfl)), fun _ => False, FO, fun b h => h.elim, fun b h => ⟨Nat.lt_of_lt_of_le (hs.2 b h).1 (Nat.le_trans hW.size hb.size), .inl h, id⟩, K.obj_keep hO (fun k hk => ?_) (fun _ h => h), ⟨rfl, he⟩, ?_⟩
  · have h1 := hs.2 k hk
    exact (hb.block k (Nat.lt_of_lt_of_le h1.1 hW.size) h1.2.1 h1.2.2).trans (hW.block k h1.1)
  · exact ⟨_, hen, ListAt.nil _ _ _ _⟩
theorem inv_any (h : MachOk K cs I) (st : St M) (i : Nat) (x : CallV) (hI : I st) (hx : cs[i]? = some x) (W : World) (FO : Nat → Prop) (hO : K.Obj W st.s FO) (hlt : ∀ b, FO b → b < W.heap.size) : InvC K (objOf K.objs x.o) x (invQ st.s x) FO W := by
  unfold invQ
  by_cases hx0 : x.o < 0 ∨ (M.m : Int) ≤ x.o
  · rw [if_pos hx0]
    have e : objOf K.objs x.o = .iface 163 (.agg #[]) := by
      unfold objOf
      by_cases h0 : x.o < 0
      · rw [if_pos h0]
      · rw [if_neg h0, List.getD_eq_getElem?_getD, List.getElem?_eq_none (by have := h.olen; omega)]; rfl
    rw [e]
    exact inv_nowhere K x st.s FO W hO hlt
  · rw [if_neg hx0]
    exact h.inv st i x hI hx (by omega) (by omega) W FO hO hlt

theorem RestG.drew {a : LA} {col : Nat → Nat} {w : World} {st : St M} {ps : List Nat} (hR : RestG K cs a col w st ps) : RestG K cs a col w.drew st ps :=
  ⟨fun e v hv => by
    obtain ⟨g, h1, h2, h3, h4⟩ := hR.invs e v hv
    exact ⟨g, h1, h2, h3, h4.keep rfl (fun b hb => ⟨rfl, hb⟩) (fun b t _ _ _ hc => ⟨rfl, hc⟩)⟩, hR.mem, hR.calls, hR.objs, K.obj_keep hR.obj (fun _ _ => rfl) (fun _ h => h)⟩

/-- the step of a thread's invocation -/
theorem invstep_any (hK : MachOk K cs I) {a : LA} {j : Nat} {col : Nat → Nat} {w : World} {st : St M} {ps : List Nat} {p : Int} {e g : Nat} {v : Ev M} {vb : Value} {N0 : Nat} (h : LoomG K cs a j col w st) (hI : I st) (hw : Wf cs st) (hc : st.cur p = some e)
    (hL : RowBlk 104 w a.L (loomVs (.slice a.aoC cs.length a.capC) a.lb a.bm (.slice (some ⟨a.go, 0, none⟩) K.objs.length a.capo) vb a.mc st.ticks st.idle))
    (ho : w.ownsRow (a.L + 1) 107 1 vb st.evs.length (ps.map ptr)) (hpl : ps.length = st.evs.length) (hnd : ∀ i k x : Nat, ps[i]? = some x → ps[k]? = some x → i = k) (hvb : ∀ k, vb.ownBlock = some k → col k = 0) (hR : RestG K cs a col w st ps) (hN : N0 ≤ st.evs.length) (hM : MapIs Try.prog 3 w a.mc N0 (.pointer none) (curV ps st.cur))
    (hv : st.evs[e]? = some v) (hg : ps[e]? = some g) (hr0 : v.resp = 0) (hst : v.steps < st.ticks) (ht : st.ticks ≤ 70000) (hcn : st.cn.r + st.cn.w + st.cn.s + st.cn.a < st.ticks ∧ st.cn.f = 0) :
    Calls Try.prog 55 #[.pointer (some ⟨g, 0, none⟩), turnAgg a.bm (st.ticks : Int)] w fun en w' => en = .returned (.bool (stepQ st.s v.q st.ws st.cn st.ticks).ans.isSome) ∧ (∃ col', LoomG K cs a j col' w' (st.mid e v)) ∧ ButS (fun k => k = g ∨ k = a.bm ∨ k = a.bw ∨ col k = e + 2 ∨ col k = 1) w w' := by
  obtain ⟨g0, hg0, hgL, hgc, lv, kv, opv, hrow, hpend, _, _⟩ := hR.invs e v hv
  rw [hg] at hg0; cases hg0
  obtain ⟨hans, rfl, rfl, hkey, hop⟩ := hpend hr0
  have hl := h.lays
  have hsep : Sep a.bm a.bw (fun b => col b = e + 2) (fun b => col b = 1) w := ⟨fun b hb => ⟨(hl.cT b (by omega)).2.1, fun e => by rw [e] at hb; have := hl.c0; omega, fun e => by rw [e] at hb; have := hl.c0; omega, by omega⟩, fun b hb => ⟨(hl.cT b (by omega)).2.1, fun e => by rw [e] at hb; have := hl.c0; omega, fun e => by rw [e] at hb; have := hl.c0; omega⟩⟩
  have hSC : StepC K (stepQ st.s v.q st.ws st.cn st.ticks) st.ticks opv a.bm a.bw (fun b => col b = e + 2) (fun b => col b = 1) w := by
    cases hq : v.q with
    | inl q => rw [hq] at hop; exact hK.step st p e v q hI hw hc hv hq hcn ht w opv a.bm a.bw _ _ hop hR.obj hR.mem hsep
    | inr er => rw [hq] at hop; exact refusal_c st.s er st.ws st.cn st.ticks opv a.bm a.bw _ _ w hop hR.obj hR.mem hsep
  have hrow' : RowBlk 148 w g (invVs v.i v.inv 0 v.steps 0 0 (.slice none 0 0) (.slice none 0 0) opv) := by
    have := hrow
    rw [hr0, hans] at this
    exact this
  have hfin := fun (en : Ending) (w' : World) (hs : InvStep K (stepQ st.s v.q st.ws st.cn st.ticks) opv g a.bm a.bw (fun b => col b = e + 2) (fun b => col b = 1) v.i v.inv v.steps st.ticks w en w') => LoomG.stepped h hL ho hpl hnd hvb hR hN hM hv hg hr0 hst (by omega) hkey hans hs
  cases ha : (stepQ st.s v.q st.ws st.cn st.ticks).ans with
  | none =>
    refine (step_more K (stepQ st.s v.q st.ws st.cn st.ticks) opv g a.bm a.bw _ _ v.i v.inv v.steps st.ticks st.ws st.cn w hSC hsep hR.mem hrow' ⟨by omega, by omega⟩ (by omega) ha).mono fun en w' hs => ?_
    have := hfin en w' hs
    rw [ha] at this
    exact this
  | some an =>
    refine (step_last K (stepQ st.s v.q st.ws st.cn st.ticks) opv g a.bm a.bw _ _ v.i v.inv v.steps st.ticks st.ws st.cn w hSC hsep hR.mem hrow' ⟨by omega, by omega⟩ (by omega) (by omega) ha (fun W F' FO' hO hQ => keyOk_any hK W _ _ opv F' FO' hO hQ)).mono fun en w' hs => ?_
    have := hfin en w' hs
    rw [ha] at this
    exact this

theorem below_of_drew {B : Nat} {w w' : World} (h : Below B w.drew w') : Below B w w' := ⟨h.os, h.tape, h.output, h.size, h.block⟩
def PickPost (K : MachRel M) (cs : List CallV) (a : LA) (j : Nat) (st : St M) (w : World) (e : Ending) (w' : World) : Prop :=
  e = .returned (.tuple #[]) ∧ (∃ col', LoomG K cs a j col' w' st) ∧ Below a.B0 w w'

set_option maxRecDepth 100000 in
set_option maxHeartbeats 4000000 in
theorem pickG_idle (K : MachRel M) (a : LA) (j : Nat) (col : Nat → Nat) (w : World) (st : St M) (p : Int) (h : LoomG K cs a j col w st) (hp : -9223372036854775808 ≤ p ∧ p ≤ 9223372036854775807)
    (hj : j < 65536) (hn : nowOf (thr cs) st.fin p = none) :
    Calls Try.prog 37 #[.pointer (some ⟨a.L, 0, none⟩), .int .i64 p] w (PickPost K cs a (j + 1) (pickM cs st p) w) := by
  rw [pickM_idle hn]
  obtain ⟨vb, ps, hL, _⟩ := h.blk
  obtain ⟨f, N, hline, hN⟩ := h.line
  have H := Lib.hid h
  have l1 : w.cell? ⟨a.L, 1, none⟩ = some (.pointer (some ⟨a.lb, 0, none⟩)) := hL.cell rfl
  have l7 : w.cell? ⟨a.L, 7, none⟩ = some (.int .i64 (st.idle : Int)) := hL.cell rfl
  have lf : w.frozen? ⟨a.L, 7, none⟩ = false := hL.free
  have hid : st.idle ≤ 65536 := by have := h.tj; omega
  have HLN := Lib.hid hline
  have HNW := Lib.hid (now_nil.1 hn)
  clear h hL hline hn
  go_enter Try.func37, Try.ntmps37
  go_wp2_with fail
  refine (now_done p _ HLN.out hp HNW.out).mono ?_
  rintro e w1 ⟨rfl, rfl⟩
  go_wp2_with fail
  first
    | go_end0
    | (refine bodyPost_ret (results_none rfl _ _ _) rfl ?_)
  have h := H.out
  exact ⟨rfl, ⟨col, h.idle hj (by simp [World.setCell]) rfl⟩, (Below.refl a.B0 w).setCell (show a.B0 ≤ (⟨a.L, 7, none⟩ : Addr).block from h.lays.b0.1) _⟩

set_option maxRecDepth 100000 in
set_option maxHeartbeats 4000000 in
theorem pickG_turn (hK : MachOk K cs I) (a : LA) (j : Nat) (col : Nat → Nat) (w : World) (st : St M) (p : Int) (h : LoomG K cs a j col w st) (hw : Wf cs st) (hI : I st) (hcn : st.cn.r + st.cn.w + st.cn.s + st.cn.a ≤ st.ticks ∧ st.cn.f = 0)
    (hj : j < 65536) {i : Nat} (hn : nowOf (thr cs) st.fin p = some i) :
    Calls Try.prog 37 #[.pointer (some ⟨a.L, 0, none⟩), .int .i64 p] w (PickPost K cs a (j + 1) (pickM cs st p) w) := by
  have hil := (now_open hn).1
  rw [thr_len] at hil
  obtain ⟨x, hx⟩ : ∃ x, cs[i]? = some x := ⟨cs[i], List.getElem?_eq_getElem hil⟩
  obtain ⟨e, v, he, hv, hr0, hvi, hpk⟩ := pickM_cases hw hn hx
  rw [hpk]
  have hI2 := hK.turn st p i x hI hw hn hx
  have hw2 := hw.turn x hn
  have ht2 : (st.turn i x p).ticks = st.ticks + 1 := turn_ticks
  have hst2 : ∀ u ∈ (st.turn i x p).evs, u.steps < (st.turn i x p).ticks := fun u hu => by
    rw [ht2]
    have : u ∈ st.evs ∨ u.steps = 0 := by
      unfold St.turn at hu
      split at hu
      · exact .inl hu
      · rcases List.mem_append.1 (show u ∈ st.evs ++ [_] from hu) with h | h
        · exact .inl h
        · rw [List.mem_singleton] at h; subst h; exact .inr rfl
    rcases this with h' | h'
    · have := h.stl u h'; omega
    · omega
  obtain ⟨vb, ps, hL, ho, hpl, hnd, hvb, hR, nc, hcur, hnc⟩ := h.blk
  obtain ⟨f, N, hline, hN⟩ := h.line
  have hpd := hline.dom p (by rw [now_cons hn]; simp)
  have hp : -9223372036854775808 ≤ p ∧ p ≤ 9223372036854775807 := by omega
  have hjj := h.tj
  have hst : st.ticks ≤ 65536 := by omega
  have l1 : w.cell? ⟨a.L, 1, none⟩ = some (.pointer (some ⟨a.lb, 0, none⟩)) := hL.cell rfl
  have l6 : w.cell? ⟨a.L, 6, none⟩ = some (.int .i64 (st.ticks : Int)) := hL.cell rfl
  have lf : w.frozen? ⟨a.L, 6, none⟩ = false := hL.free
  have H1 : Hid (LoomG K cs a (j + 1) col (w.setCell ⟨a.L, 6, none⟩ (.int .i64 ((st.ticks : Int) + 1))) st.tick) := Lib.hid (h.tick hj (by simp [World.setCell]) rfl)
  have HB1 : Hid (Below a.B0 w (w.setCell ⟨a.L, 6, none⟩ (.int .i64 ((st.ticks : Int) + 1)))) := Lib.hid ((Below.refl a.B0 w).setCell (show a.B0 ≤ (⟨a.L, 6, none⟩ : Addr).block from h.lays.b0.1) _)
  obtain ⟨vb1, ps1, hL1, ho1, hpl1, hnd1, hvb1, hR1, nc1, hcur1, hnc1⟩ := H1.out.blk
  have l5 : (w.setCell ⟨a.L, 6, none⟩ (.int .i64 ((st.ticks : Int) + 1))).cell? ⟨a.L, 5, none⟩ = some (.map (some a.mc)) := hL1.cell rfl
  have hlk := hcur1.look (t := 101) (e := 107) (a := p) Try.underlying3 Try.underlying101 (zeroPt _) (WalkArith.wf_i64 hp)
  have HPRE : Hid (True ∧ RestG K cs a col (w.setCell ⟨a.L, 6, none⟩ (.int .i64 ((st.ticks : Int) + 1))) st.tick ps1) := Lib.hid ⟨trivial, hR1⟩
  have HCN : Hid ((st.turn i x p).cn.r + (st.turn i x p).cn.w + (st.turn i x p).cn.s + (st.turn i x p).cn.a < (st.turn i x p).ticks ∧ (st.turn i x p).cn.f = 0) := Lib.hid (by
    have e : (st.turn i x p).cn = st.cn := by unfold St.turn; split <;> rfl
    rw [e, turn_ticks]; omega)
  have HLN := Lib.hid hline
  have HNW := Lib.hid (now_cons hn)
  have HN := Lib.hid hn
  have HX := Lib.hid hx
  have HOK := Lib.hid hK
  have HI := Lib.hid hI
  have HI2 := Lib.hid hI2
  have HW2 := Lib.hid hw2
  have HST2 := Lib.hid hst2
  have HE := Lib.hid he
  have HV := Lib.hid hv
  have HR0 := Lib.hid hr0
  have HT2 := Lib.hid ht2
  have HEV := Lib.hid h.evl
  have HWF := Lib.hid hw
  have HBLK1 : Hid (RowBlk 104 (w.setCell ⟨a.L, 6, none⟩ (.int .i64 ((st.ticks : Int) + 1))) a.L (loomVs (.slice a.aoC cs.length a.capC) a.lb a.bm (.slice (some ⟨a.go, 0, none⟩) K.objs.length a.capo) vb1 a.mc st.tick.ticks st.tick.idle) ∧ (w.setCell ⟨a.L, 6, none⟩ (.int .i64 ((st.ticks : Int) + 1))).ownsRow (a.L + 1) 107 1 vb1 st.tick.evs.length (ps1.map ptr) ∧ ps1.length = st.tick.evs.length ∧ (∀ i k x : Nat, ps1[i]? = some x → ps1[k]? = some x → i = k) ∧ (∀ k, vb1.ownBlock = some k → col k = 0) ∧
      MapIs Try.prog 3 (w.setCell ⟨a.L, 6, none⟩ (.int .i64 ((st.ticks : Int) + 1))) a.mc nc1 (.pointer none) (curV ps1 st.tick.cur) ∧ nc1 ≤ st.tick.evs.length) := Lib.hid ⟨hL1, ho1, hpl1, hnd1, hvb1, hcur1, hnc1⟩
  have hLlt := hL.lt
  cases hc : st.cur p with
  | none =>
    have hcv : curV ps1 st.tick.cur p = .pointer none := by unfold curV; have : st.tick.cur p = none := hc; rw [this]
    rw [hcv] at hlk
    have HTU : Hid (st.turn i x p = st.tick.begin i x p) := Lib.hid (by unfold St.turn; rw [hc])
    have HC := Lib.hid hc
    clear h hL ho hpl hnd hvb hR hcur hline hn hx hK hI hI2 hw2 hst2 he hv hr0 ht2 hL1 ho1 hpl1 hnd1 hvb1 hR1 hcur1 hnc1 hpk hc hcv hvi hw hnc
    go_enter Try.func37, Try.ntmps37
    go_wp2_with fail
    refine (now_at p _ HLN.out hp HNW.out).mono ?_
    rintro e1 w1 ⟨rfl, rfl⟩
    go_wp2_with fail
    generalize w.setCell ⟨a.L, 6, none⟩ (.int .i64 ((st.ticks : Int) + 1)) = W1 at H1 HB1 HPRE HBLK1 ⊢
    obtain ⟨hL1, ho1, hpl1, hnd1, hvb1, hcur1, hnc1⟩ := HBLK1.out
    have hinv := inv_any HOK.out st i x HI.out HX.out W1 (fun b => col b = 1) HPRE.out.2.obj (fun b hb => (H1.out.lays.cT b (by omega)).2.1)
    have hIV := invoke_gen K (invQ st.s x) (fun b => col b = 1) a.L a.lb a.bm a.mc a.go a.capo a.gc a.capC nc1 st.tick.evs.length i K.objs a.aoC cs x vb1 st.tick.ticks st.tick.idle p (curV ps1 st.tick.cur) (ps1.map ptr) W1 hL1 HPRE.out.2.objs HPRE.out.2.calls H1.out.lays.haC H1.out.lays.cl HX.out hinv hcur1 (by have := HEV.out; have e : st.tick.evs.length = st.evs.length := rfl; unfold maxLen; omega) hpd ho1 (by have := HEV.out; have e : st.tick.evs.length = st.evs.length := rfl; omega)
      (fun b hb => ⟨(H1.out.lays.cT b (by omega)).2.1, fun e => by rw [e] at hb; have := H1.out.lays.c0.1; omega, fun e => by rw [e] at hb; have := H1.out.lays.c0.2.2.2.2; omega, fun e => by have := hvb1 b e; omega⟩)
    refine hIV.mono ?_
    rintro e2 w2 hIP
    have hbg := LoomG.begun (st := st.tick) (x := x) (i := i) (p := p) H1.out hL1 ho1 hpl1 hnd1 hvb1 HPRE.out.2 hnc1 hcur1 (by have := HEV.out; show st.evs.length < st.ticks + 1; omega) (fun q f hq => by
      obtain ⟨u, hu, _⟩ := HWF.out.cur q f hq
      exact (List.getElem?_eq_some_iff.1 hu).1) hIP
    obtain ⟨rfl, ⟨col2, hG2⟩, hB2⟩ := hbg
    rw [← HTU.out] at hG2
    have HG2 := Lib.hid hG2
    have HBW := Lib.hid (HB1.out.trans hB2)
    clear hIP hIV hinv hG2 hB2 hL1 ho1 hpl1 hnd1 hvb1 hcur1 hnc1 HBLK1 HPRE H1 HB1 l1 l6 lf l5 hlk
    have hfin2 : (st.turn i x p).fin = st.fin := turn_fin
    have HFIN := Lib.hid hfin2
    clear HTU hfin2
    obtain ⟨s2, hs2⟩ : ∃ s2, st.turn i x p = s2 := ⟨_, rfl⟩
    rw [hs2] at HG2 HE HV HT2 HST2 HW2 HI2 HFIN HCN
    have HS2 := Lib.hid hs2
    clear hs2
    obtain ⟨vb2, ps2, hL2, ho2, hpl2, hnd2, hvb2, hR2, nc2, hcur2, hnc2⟩ := HG2.out.blk
    obtain ⟨g, hg, hgL, hgc, _⟩ := hR2.invs e v HV.out
    have hcv2 : curV ps2 s2.cur p = ptr g := by unfold curV; rw [HE.out]; simp only [hg]
    have hT65 : s2.ticks ≤ 65537 := by have := HT2.out; omega
    have u5 : w2.cell? ⟨a.L, 5, none⟩ = some (.map (some a.mc)) := hL2.cell rfl
    have u2 : w2.cell? ⟨a.L, 2, none⟩ = some (.pointer (some ⟨a.bm, 0, none⟩)) := hL2.cell rfl
    have u6 : w2.cell? ⟨a.L, 6, none⟩ = some (.int .i64 (s2.ticks : Int)) := hL2.cell rfl
    have ulk := hcur2.look (t := 101) (e := 107) (a := p) Try.underlying3 Try.underlying101 (zeroPt _) (WalkArith.wf_i64 hp)
    have ulk0 := hcur2.drew.look (t := 101) (e := 107) (a := p) Try.underlying3 Try.underlying101 (zeroPt _) (WalkArith.wf_i64 hp)
    rw [hcv2] at ulk ulk0
    unfold ptr at ulk ulk0
    have HSTEP := Lib.hid (invstep_any HOK.out HG2.out.drew HI2.out HW2.out HE.out hL2 ho2 hpl2 hnd2 hvb2 hR2.drew hnc2 hcur2 HV.out hg HR0.out (HST2.out v (List.mem_of_getElem? HV.out)) (by omega) HCN.out)
    have HL2 := Lib.hid hL2
    have HCUR2 := Lib.hid hcur2
    have HCV2 := Lib.hid hcv2
    have HLY := Lib.hid HG2.out.lays
    have HGC := Lib.hid hgc
    clear hL2 ho2 hpl2 hnd2 hvb2 hR2 hcur2 hnc2 hg hcv2 hgc
    go_wp2_with fail
    go_region_held3 (fun w' => w'.cell? ⟨a.L, 5, none⟩ = some (.map (some a.mc)) ∧ w'.cell? ⟨a.L, 2, none⟩ = some (.pointer (some ⟨a.bm, 0, none⟩)) ∧ w'.cell? ⟨a.L, 6, none⟩ = some (.int .i64 (s2.ticks : Int)) ∧ (Instr.lookup 101 (.map (some a.mc)) (.int .i64 p) false).run Try.prog w' = .ok (.pointer (some ⟨g, 0, none⟩)) w')
      (first | exact ⟨s5, s2', s6, slk⟩ | exact ⟨u5, u2, u6, ulk0⟩ | go_keep)
      (first
        | (go_at_call 55
           refine HSTEP.out.mono ?_
           rintro e3 w3 ⟨rfl, ⟨col3, hG3⟩, hB3⟩
           have hc0 := HLY.out.c0
           have hls := HLY.out.lsep
           have hL3 : RowBlk 104 w3 a.L (loomVs (.slice a.aoC cs.length a.capC) a.lb a.bm (.slice (some ⟨a.go, 0, none⟩) K.objs.length a.capo) vb2 a.mc s2.ticks s2.idle) := hB3.row HL2.out.drew (fun h => h.elim (by omega) (fun h => h.elim (by omega) (fun h => h.elim (by omega) (fun h => h.elim (by omega) (by omega)))))
           have hC3 : MapIs Try.prog 3 w3 a.mc nc2 (.pointer none) (curV ps2 s2.cur) := HCUR2.out.drew.sameB (hB3.block a.mc HCUR2.out.lt (fun h => h.elim (by omega) (fun h => h.elim (fun e => HLY.out.mne.1 e) (fun h => h.elim (fun e => HLY.out.mne.2.1 e) (fun h => h.elim (by omega) (by omega))))))
           have s5 : w3.cell? ⟨a.L, 5, none⟩ = some (.map (some a.mc)) := hL3.cell rfl
           have s2' : w3.cell? ⟨a.L, 2, none⟩ = some (.pointer (some ⟨a.bm, 0, none⟩)) := hL3.cell rfl
           have s6 : w3.cell? ⟨a.L, 6, none⟩ = some (.int .i64 (s2.ticks : Int)) := hL3.cell rfl
           have slk := hC3.look (t := 101) (e := 107) (a := p) Try.underlying3 Try.underlying101 (zeroPt _) (WalkArith.wf_i64 hp)
           rw [HCV2.out] at slk
           unfold ptr at slk
           have HG3 := Lib.hid hG3
           have HB3 : Hid (Below a.B0 w w3) := Lib.hid (HBW.out.trans (below_of_drew (hB3.below (fun k hk => by
             have hb0 := HLY.out.b0
             exact hk.elim (fun e => by omega) (fun h => h.elim (by omega) (fun h => h.elim (by omega) (fun h => (HLY.out.cT k (by omega)).2.2)))) (by have h1 := HLY.out.b0; have h2 := HL2.out.lt; show a.B0 ≤ w2.heap.size; omega))))
           clear hG3 hB3 hL3 hC3 hc0 hls))
    clear u5 u2 u6 ulk ulk0 s2' s6 slk s5
    cases hx : (stepQ s2.s v.q s2.ws s2.cn s2.ticks).ans with
    | none =>
      go_wp2_with fail
      first
        | go_end0
        | (refine bodyPost_ret (results_none rfl _ _ _) rfl ?_)
      exact ⟨rfl, ⟨col3, by rw [HS2.out, step_none hx]; exact HG3.out⟩, HB3.out⟩
    | some an =>
      have HANS := Lib.hid hx
      clear hx
      obtain ⟨vb3, ps3, hL3, ho3, hpl3, hnd3, hvb3, hR3, nc3, hcur3, hnc3⟩ := HG3.out.blk
      have s5 : w3.cell? ⟨a.L, 5, none⟩ = some (.map (some a.mc)) := hL3.cell rfl
      have HBL3 := Lib.hid (And.intro hL3 (And.intro ho3 (And.intro hpl3 (And.intro hnd3 (And.intro hvb3 (And.intro hR3 hnc3))))))
      have HC3 := Lib.hid hcur3
      clear hL3 ho3 hpl3 hnd3 hvb3 hR3 hcur3 hnc3
      go_wp2_with (at_delete; refine wpList_delete_map rfl _ _ 101 3 107 rfl Try.underlying3 Try.underlying101 a.mc nc3 (.pointer none) _ rfl HC3.out p rfl hpd ?_)
      intro w4 hC4 hT4
      have hG4 := LoomG.cut HG3.out HBL3.out.1 HBL3.out.2.1 HBL3.out.2.2.1 HBL3.out.2.2.2.1 HBL3.out.2.2.2.2.1 HBL3.out.2.2.2.2.2.1 HBL3.out.2.2.2.2.2.2 hC4 hT4
      obtain ⟨vb4, ps4, hL4, _⟩ := hG4.blk
      have v1 : w4.cell? ⟨a.L, 1, none⟩ = some (.pointer (some ⟨a.lb, 0, none⟩)) := hL4.cell rfl
      obtain ⟨f4, N4, hli4, hN4⟩ := hG4.line
      have HG4 := Lib.hid hG4
      have HB4 : Hid (Below a.B0 w w4) := Lib.hid (HB3.out.trans (by
        have hg4 := hT4.grown
        have h1 := HG3.out.lays.b0
        have h2 := HG3.out.lays.t1
        exact ⟨hg4.os, hg4.tape, hg4.output, hg4.size, fun k hk => hg4.block k (by have := HBL3.out.1.lt; omega) (fun e => by cases e; omega)⟩))
      have HLI4 := Lib.hid hli4
      have hN4' : N4 ≤ 4000 := by
        have h1 := HG4.out.lays.cl
        have h2 : (s2.fin.count true) ≤ s2.fin.length := List.count_le_length
        have h3 := HW2.out.lfin
        have h4 : N4 ≤ cs.length + s2.fin.count true := hN4
        omega
      have HN4 := Lib.hid hN4
      clear hC4 hT4 hG4 hL4 hli4 hN4
      go_wp2_with fail
      refine (finish_at p _ HLI4.out HG4.out.lays.t1.2.2.2.2.2 (by unfold maxLen; omega) (now_cons (by show nowOf (thr cs) s2.fin p = some i; rw [HFIN.out]; exact HN.out))).mono ?_
      rintro e5 w5 ⟨rfl, ⟨f5, hl5⟩, hb5⟩
      have HG5 := Lib.hid (LoomG.finished HG4.out (by show nowOf (thr cs) s2.fin p = some i; rw [HFIN.out]; exact HN.out) HN4.out hl5 hb5)
      have HB5 : Hid (Below a.B0 w w5) := Lib.hid (HB4.out.trans (hb5.below (by have := HG4.out.lays.b0; omega) (by have := HG4.out.lays.b0; omega) (by have h1 := HG4.out.lays.b0; have h2 := HG4.out.lays.t1; omega)))
      clear hl5 hb5
      go_wp2_with fail
      first
        | go_end0
        | (refine bodyPost_ret (results_none rfl _ _ _) rfl ?_)
      exact ⟨rfl, ⟨col3, by rw [HS2.out, step_some HANS.out]; exact HG5.out⟩, HB5.out⟩
  | some e0 =>
    have hee : e0 = e := by
      have h1 : (st.turn i x p).cur p = some e0 := by unfold St.turn; rw [hc]; exact hc
      rw [he] at h1; exact (Option.some.inj h1).symm
    subst hee
    have HTU : Hid (st.turn i x p = st.tick) := Lib.hid (by unfold St.turn; rw [hc])
    obtain ⟨g0, hg0⟩ : ∃ g, ps1[e0]? = some g := by
      have h1 : (st.turn i x p).evs[e0]? = some v := hv
      rw [HTU.out] at h1
      have := (List.getElem?_eq_some_iff.1 h1).1
      exact ⟨ps1[e0]'(by omega), List.getElem?_eq_getElem _⟩
    have hcv : curV ps1 st.tick.cur p = ptr g0 := by unfold curV; have : st.tick.cur p = some e0 := hc; rw [this]; simp only [hg0]
    rw [hcv] at hlk
    unfold ptr at hlk
    have HG2 : Hid (LoomG K cs a (j + 1) col (w.setCell ⟨a.L, 6, none⟩ (.int .i64 ((st.ticks : Int) + 1))) (st.turn i x p)) := Lib.hid (by rw [HTU.out]; exact H1.out)
    have HBW := HB1
    clear h hL ho hpl hnd hvb hR hcur hline hn hx hK hI hI2 hw2 hst2 he hv hr0 ht2 hL1 ho1 hpl1 hnd1 hvb1 hR1 hcur1 hnc1 hpk hcv hvi hw hnc hg0 HPRE HBLK1 hc
    go_enter Try.func37, Try.ntmps37
    go_wp2_with fail
    refine (now_at p _ HLN.out hp HNW.out).mono ?_
    rintro e1 w1 ⟨rfl, rfl⟩
    go_wp2_with fail
    clear l1 l6 lf l5 hlk H1 HB1
    generalize w.setCell ⟨a.L, 6, none⟩ (.int .i64 ((st.ticks : Int) + 1)) = w2 at HG2 HBW ⊢
    have hfin2 : (st.turn i x p).fin = st.fin := turn_fin
    have HFIN := Lib.hid hfin2
    clear HTU hfin2
    obtain ⟨s2, hs2⟩ : ∃ s2, st.turn i x p = s2 := ⟨_, rfl⟩
    rw [hs2] at HG2 HE HV HT2 HST2 HW2 HI2 HFIN HCN
    have HS2 := Lib.hid hs2
    clear hs2
    obtain ⟨vb2, ps2, hL2, ho2, hpl2, hnd2, hvb2, hR2, nc2, hcur2, hnc2⟩ := HG2.out.blk
    obtain ⟨g, hg, hgL, hgc, _⟩ := hR2.invs e0 v HV.out
    have hcv2 : curV ps2 s2.cur p = ptr g := by unfold curV; rw [HE.out]; simp only [hg]
    have hT65 : s2.ticks ≤ 65537 := by have := HT2.out; omega
    have u5 : w2.cell? ⟨a.L, 5, none⟩ = some (.map (some a.mc)) := hL2.cell rfl
    have u2 : w2.cell? ⟨a.L, 2, none⟩ = some (.pointer (some ⟨a.bm, 0, none⟩)) := hL2.cell rfl
    have u6 : w2.cell? ⟨a.L, 6, none⟩ = some (.int .i64 (s2.ticks : Int)) := hL2.cell rfl
    have ulk := hcur2.look (t := 101) (e := 107) (a := p) Try.underlying3 Try.underlying101 (zeroPt _) (WalkArith.wf_i64 hp)
    have ulk0 := hcur2.drew.look (t := 101) (e := 107) (a := p) Try.underlying3 Try.underlying101 (zeroPt _) (WalkArith.wf_i64 hp)
    rw [hcv2] at ulk ulk0
    unfold ptr at ulk ulk0
    have HSTEP := Lib.hid (invstep_any HOK.out HG2.out.drew HI2.out HW2.out HE.out hL2 ho2 hpl2 hnd2 hvb2 hR2.drew hnc2 hcur2 HV.out hg HR0.out (HST2.out v (List.mem_of_getElem? HV.out)) (by omega) HCN.out)
    have HL2 := Lib.hid hL2
    have HCUR2 := Lib.hid hcur2
    have HCV2 := Lib.hid hcv2
    have HLY := Lib.hid HG2.out.lays
    have HGC := Lib.hid hgc
    clear hL2 ho2 hpl2 hnd2 hvb2 hR2 hcur2 hnc2 hg hcv2 hgc
    go_wp2_with fail
    go_region_held3 (fun w' => w'.cell? ⟨a.L, 5, none⟩ = some (.map (some a.mc)) ∧ w'.cell? ⟨a.L, 2, none⟩ = some (.pointer (some ⟨a.bm, 0, none⟩)) ∧ w'.cell? ⟨a.L, 6, none⟩ = some (.int .i64 (s2.ticks : Int)) ∧ (Instr.lookup 101 (.map (some a.mc)) (.int .i64 p) false).run Try.prog w' = .ok (.pointer (some ⟨g, 0, none⟩)) w')
      (first | exact ⟨s5, s2', s6, slk⟩ | exact ⟨u5, u2, u6, ulk0⟩ | go_keep)
      (first
        | (go_at_call 55
           refine HSTEP.out.mono ?_
           rintro e3 w3 ⟨rfl, ⟨col3, hG3⟩, hB3⟩
           have hc0 := HLY.out.c0
           have hls := HLY.out.lsep
           have hL3 : RowBlk 104 w3 a.L (loomVs (.slice a.aoC cs.length a.capC) a.lb a.bm (.slice (some ⟨a.go, 0, none⟩) K.objs.length a.capo) vb2 a.mc s2.ticks s2.idle) := hB3.row HL2.out.drew (fun h => h.elim (by omega) (fun h => h.elim (by omega) (fun h => h.elim (by omega) (fun h => h.elim (by omega) (by omega)))))
           have hC3 : MapIs Try.prog 3 w3 a.mc nc2 (.pointer none) (curV ps2 s2.cur) := HCUR2.out.drew.sameB (hB3.block a.mc HCUR2.out.lt (fun h => h.elim (by omega) (fun h => h.elim (fun e => HLY.out.mne.1 e) (fun h => h.elim (fun e => HLY.out.mne.2.1 e) (fun h => h.elim (by omega) (by omega))))))
           have s5 : w3.cell? ⟨a.L, 5, none⟩ = some (.map (some a.mc)) := hL3.cell rfl
           have s2' : w3.cell? ⟨a.L, 2, none⟩ = some (.pointer (some ⟨a.bm, 0, none⟩)) := hL3.cell rfl
           have s6 : w3.cell? ⟨a.L, 6, none⟩ = some (.int .i64 (s2.ticks : Int)) := hL3.cell rfl
           have slk := hC3.look (t := 101) (e := 107) (a := p) Try.underlying3 Try.underlying101 (zeroPt _) (WalkArith.wf_i64 hp)
           rw [HCV2.out] at slk
           unfold ptr at slk
           have HG3 := Lib.hid hG3
           have HB3 : Hid (Below a.B0 w w3) := Lib.hid (HBW.out.trans (below_of_drew (hB3.below (fun k hk => by
             have hb0 := HLY.out.b0
             exact hk.elim (fun e => by omega) (fun h => h.elim (by omega) (fun h => h.elim (by omega) (fun h => (HLY.out.cT k (by omega)).2.2)))) (by have h1 := HLY.out.b0; have h2 := HL2.out.lt; show a.B0 ≤ w2.heap.size; omega))))
           clear hG3 hB3 hL3 hC3 hc0 hls))
    clear u5 u2 u6 ulk ulk0 s2' s6 slk s5
    cases hx : (stepQ s2.s v.q s2.ws s2.cn s2.ticks).ans with
    | none =>
      go_wp2_with fail
      first
        | go_end0
        | (refine bodyPost_ret (results_none rfl _ _ _) rfl ?_)
      exact ⟨rfl, ⟨col3, by rw [HS2.out, step_none hx]; exact HG3.out⟩, HB3.out⟩
    | some an =>
      have HANS := Lib.hid hx
      clear hx
      obtain ⟨vb3, ps3, hL3, ho3, hpl3, hnd3, hvb3, hR3, nc3, hcur3, hnc3⟩ := HG3.out.blk
      have s5 : w3.cell? ⟨a.L, 5, none⟩ = some (.map (some a.mc)) := hL3.cell rfl
      have HBL3 := Lib.hid (And.intro hL3 (And.intro ho3 (And.intro hpl3 (And.intro hnd3 (And.intro hvb3 (And.intro hR3 hnc3))))))
      have HC3 := Lib.hid hcur3
      clear hL3 ho3 hpl3 hnd3 hvb3 hR3 hcur3 hnc3
      go_wp2_with (at_delete; refine wpList_delete_map rfl _ _ 101 3 107 rfl Try.underlying3 Try.underlying101 a.mc nc3 (.pointer none) _ rfl HC3.out p rfl hpd ?_)
      intro w4 hC4 hT4
      have hG4 := LoomG.cut HG3.out HBL3.out.1 HBL3.out.2.1 HBL3.out.2.2.1 HBL3.out.2.2.2.1 HBL3.out.2.2.2.2.1 HBL3.out.2.2.2.2.2.1 HBL3.out.2.2.2.2.2.2 hC4 hT4
      obtain ⟨vb4, ps4, hL4, _⟩ := hG4.blk
      have v1 : w4.cell? ⟨a.L, 1, none⟩ = some (.pointer (some ⟨a.lb, 0, none⟩)) := hL4.cell rfl
      obtain ⟨f4, N4, hli4, hN4⟩ := hG4.line
      have HG4 := Lib.hid hG4
      have HB4 : Hid (Below a.B0 w w4) := Lib.hid (HB3.out.trans (by
        have hg4 := hT4.grown
        have h1 := HG3.out.lays.b0
        have h2 := HG3.out.lays.t1
        exact ⟨hg4.os, hg4.tape, hg4.output, hg4.size, fun k hk => hg4.block k (by have := HBL3.out.1.lt; omega) (fun e => by cases e; omega)⟩))
      have HLI4 := Lib.hid hli4
      have hN4' : N4 ≤ 4000 := by
        have h1 := HG4.out.lays.cl
        have h2 : (s2.fin.count true) ≤ s2.fin.length := List.count_le_length
        have h3 := HW2.out.lfin
        have h4 : N4 ≤ cs.length + s2.fin.count true := hN4
        omega
      have HN4 := Lib.hid hN4
      clear hC4 hT4 hG4 hL4 hli4 hN4
      go_wp2_with fail
      refine (finish_at p _ HLI4.out HG4.out.lays.t1.2.2.2.2.2 (by unfold maxLen; omega) (now_cons (by show nowOf (thr cs) s2.fin p = some i; rw [HFIN.out]; exact HN.out))).mono ?_
      rintro e5 w5 ⟨rfl, ⟨f5, hl5⟩, hb5⟩
      have HG5 := Lib.hid (LoomG.finished HG4.out (by show nowOf (thr cs) s2.fin p = some i; rw [HFIN.out]; exact HN.out) HN4.out hl5 hb5)
      have HB5 : Hid (Below a.B0 w w5) := Lib.hid (HB4.out.trans (hb5.below (by have := HG4.out.lays.b0; omega) (by have := HG4.out.lays.b0; omega) (by have h1 := HG4.out.lays.b0; have h2 := HG4.out.lays.t1; omega)))
      clear hl5 hb5
      go_wp2_with fail
      first
        | go_end0
        | (refine bodyPost_ret (results_none rfl _ _ _) rfl ?_)
      exact ⟨rfl, ⟨col3, by rw [HS2.out, step_some HANS.out]; exact HG5.out⟩, HB5.out⟩
end
end
end Go.Proofs.Ytpoebpnmbogmnaa
