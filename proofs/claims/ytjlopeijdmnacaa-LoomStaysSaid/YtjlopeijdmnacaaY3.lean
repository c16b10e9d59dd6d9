/- Operations of cells; walks of loom: object, invoke. -/
import Derived.Test.YtjlopeijdmnacaaY2
namespace Go.Proofs.Ytjlopeijdmnacaa
open Go.RowKit

/-- what a call on cells answers, and leaves -/
def cellRes (size : Nat) (x : CallV) (l : List Nat) (c : Cn) : Nat × Nat × List Nat × Cn :=
  if x.o ≠ 0 then (12, 0, l, c) else if x.k < 0 ∨ 3 < x.k then (9, 0, l, c) else if size ≤ x.a then (10, 0, l, c) else
  if x.k = 0 then (0, l.getD x.a 0, l, { c with r := c.r + 1 }) else if x.k = 1 then (0, 0, l.set x.a x.b, { c with w := c.w + 1 }) else
  if x.k = 2 then (if l.getD x.a 0 = x.b then (0, 1, l.set x.a x.c, { c with s := c.s + 1 }) else (0, 0, l, { c with s := c.s + 1 })) else
  (0, l.getD x.a 0, l.set x.a ((l.getD x.a 0 + x.b) % 18446744073709551616), { c with a := c.a + 1 })

def cellsObj (size base : Nat) : Value := .iface 182 (.agg #[.int .i64 size, .int .i64 base])

/-- an object's method Invoke -/
def InvOk (obj : Value) (x : CallV) (opv : Value) (e : Int) : Prop :=
  ∃ (tid : TypeId) (v : Value) (fid : FuncId), obj = .iface tid v ∧ (∀ w : World, (method 295 tid v "Invoke").run Try.prog w = .ok (fid, v) w) ∧ (∀ (args : Array Value) (w : World), (callFunc fid args).run Try.prog w = .ok (.enter fid args) w) ∧
    ∀ W : World, Calls Try.prog fid #[v, callAgg x] W fun en w' => en = .returned (.tuple #[opv, .int .i64 e]) ∧ Below W.heap.size W w'

theorem enter_nowhere (args : Array Value) (w : World) : (callFunc 83 args).run Try.prog w = .ok (.enter 83 args) w := by kernel_rfl
theorem enter_placed (args : Array Value) (w : World) : (callFunc 85 args).run Try.prog w = .ok (.enter 85 args) w := by kernel_rfl
theorem enter_read (args : Array Value) (w : World) : (callFunc 86 args).run Try.prog w = .ok (.enter 86 args) w := by kernel_rfl
theorem enter_write (args : Array Value) (w : World) : (callFunc 87 args).run Try.prog w = .ok (.enter 87 args) w := by kernel_rfl
theorem enter_swap (args : Array Value) (w : World) : (callFunc 88 args).run Try.prog w = .ok (.enter 88 args) w := by kernel_rfl
theorem enter_add (args : Array Value) (w : World) : (callFunc 89 args).run Try.prog w = .ok (.enter 89 args) w := by kernel_rfl
theorem enter_refusal (args : Array Value) (w : World) : (callFunc 82 args).run Try.prog w = .ok (.enter 82 args) w := by kernel_rfl
theorem meth_nowhere (w : World) : (method 295 160 (.agg #[]) "Invoke").run Try.prog w = .ok (83, .agg #[]) w := by kernel_rfl
theorem meth_placed (a b : Int) (w : World) : (method 295 182 (.agg #[.int .i64 a, .int .i64 b]) "Invoke").run Try.prog w = .ok (85, .agg #[.int .i64 a, .int .i64 b]) w := by kernel_rfl
theorem meth_read (a : Int) (w : World) : (method 295 185 (.agg #[.int .i64 a]) "Step").run Try.prog w = .ok (86, .agg #[.int .i64 a]) w := by kernel_rfl
theorem meth_write (a b : Int) (w : World) : (method 295 187 (.agg #[.int .i64 a, .int .u64 b]) "Step").run Try.prog w = .ok (87, .agg #[.int .i64 a, .int .u64 b]) w := by kernel_rfl
theorem meth_swap (a b d : Int) (w : World) : (method 295 189 (.agg #[.int .i64 a, .int .u64 b, .int .u64 d]) "Step").run Try.prog w = .ok (88, .agg #[.int .i64 a, .int .u64 b, .int .u64 d]) w := by kernel_rfl
theorem meth_add (a b : Int) (w : World) : (method 295 191 (.agg #[.int .i64 a, .int .u64 b]) "Step").run Try.prog w = .ok (89, .agg #[.int .i64 a, .int .u64 b]) w := by kernel_rfl
theorem meth_refusal (a : Int) (w : World) : (method 295 149 (.agg #[.int .i64 a]) "Step").run Try.prog w = .ok (82, .agg #[.int .i64 a]) w := by kernel_rfl

/-- which operation comes of what Invoke tells -/
def opOf (opv : Value) (e : Int) : Value := if e = 0 then opv else .iface 149 (.agg #[.int .i64 e])

/-- a call on cells: whatever its object and its kind are, an operation that responds in one step comes of it -/
theorem cell_op (size : Nat) (x : CallV) (l : List Nat) (c : Cn) (bm bw : Nat) (tick : Int) (hs : size ≤ 64) (hl : l.length = size) (hc : c.r < 9223372036854775807 ∧ c.w < 9223372036854775807 ∧ c.s < 9223372036854775807 ∧ c.a < 9223372036854775807) :
    ∃ opv e, InvOk (if x.o = 0 then cellsObj size 0 else .iface 160 (.agg #[])) x opv e ∧ OneStep (opOf opv e) bm bw tick (cellRes size x l c).1 (cellRes size x l c).2.1 l (cellRes size x l c).2.2.1 c (cellRes size x l c).2.2.2 := by
  have hrefuse : ∀ e : Int, e ≠ 0 → OneStep (opOf .nilIface e) bm bw tick e 0 l l c c := fun e he => by
    unfold opOf
    rw [if_neg he]
    exact ⟨noKey_refusal _, 149, _, 82, rfl, meth_refusal e, enter_refusal, fun W hM => refusal_step e bm bw tick l c W hM⟩
  by_cases ho : x.o = 0
  · rw [if_pos ho]
    by_cases hk : x.k < 0
    · have e : cellRes size x l c = (9, 0, l, c) := by unfold cellRes; rw [if_neg (by simpa using ho), if_pos (.inl hk)]
      rw [e]
      exact ⟨.nilIface, 9, ⟨_, _, _, rfl, meth_placed _ _, enter_placed, fun W => inv_kind_low size 0 x W hk⟩, hrefuse 9 (by decide)⟩
    · by_cases hk2 : 3 < x.k
      · have e : cellRes size x l c = (9, 0, l, c) := by unfold cellRes; rw [if_neg (by simpa using ho), if_pos (.inr hk2)]
        rw [e]
        exact ⟨.nilIface, 9, ⟨_, _, _, rfl, meth_placed _ _, enter_placed, fun W => inv_kind_high size 0 x W hk2⟩, hrefuse 9 (by decide)⟩
      · by_cases ha : size ≤ x.a
        · have e : cellRes size x l c = (10, 0, l, c) := by unfold cellRes; rw [if_neg (by simpa using ho), if_neg (by omega), if_pos ha]
          rw [e]
          exact ⟨.nilIface, 10, ⟨_, _, _, rfl, meth_placed _ _, enter_placed, fun W => inv_range size 0 x W hk hk2 ha hs⟩, hrefuse 10 (by decide)⟩
        · have hx : l[x.a]? = some (l.getD x.a 0) := by rw [List.getD_eq_getElem?_getD, List.getElem?_eq_getElem (by omega)]; rfl
          have z : ((0 : Nat) : Int) + (x.a : Int) = (x.a : Int) := by omega
          have hn : l.length ≤ 65536 := by omega
          by_cases k0 : x.k = 0
          · have e : cellRes size x l c = (0, l.getD x.a 0, l, { c with r := c.r + 1 }) := by unfold cellRes; rw [if_neg (by simpa using ho), if_neg (by omega), if_neg ha, if_pos k0]
            rw [e]
            refine ⟨_, 0, ⟨_, _, _, rfl, meth_placed _ _, enter_placed, fun W => inv_read size 0 x W k0 (by omega) hs (by omega)⟩, ?_⟩
            unfold opOf
            rw [if_pos rfl, z]
            exact ⟨noKey_read _, _, _, _, rfl, meth_read _, enter_read, fun W hM => read_step bm bw x.a _ tick l c W hM hx hn hc.1⟩
          · by_cases k1 : x.k = 1
            · have e : cellRes size x l c = (0, 0, l.set x.a x.b, { c with w := c.w + 1 }) := by unfold cellRes; rw [if_neg (by simpa using ho), if_neg (by omega), if_neg ha, if_neg k0, if_pos k1]
              rw [e]
              refine ⟨_, 0, ⟨_, _, _, rfl, meth_placed _ _, enter_placed, fun W => inv_write size 0 x W k1 (by omega) hs (by omega)⟩, ?_⟩
              unfold opOf
              rw [if_pos rfl, z]
              exact ⟨noKey_write _, _, _, _, rfl, meth_write _ _, enter_write, fun W hM => write_step bm bw x.a _ x.b tick l c W hM hx hn hc.2.1⟩
            · by_cases k2 : x.k = 2
              · by_cases hy : l.getD x.a 0 = x.b
                · have e : cellRes size x l c = (0, 1, l.set x.a x.c, { c with s := c.s + 1 }) := by unfold cellRes; rw [if_neg (by simpa using ho), if_neg (by omega), if_neg ha, if_neg k0, if_neg k1, if_pos k2, if_pos hy]
                  rw [e]
                  refine ⟨_, 0, ⟨_, _, _, rfl, meth_placed _ _, enter_placed, fun W => inv_swap size 0 x W k2 (by omega) hs (by omega)⟩, ?_⟩
                  unfold opOf
                  rw [if_pos rfl, z, ← hy]
                  exact ⟨noKey_swap _, _, _, _, rfl, meth_swap _ _ _, enter_swap, fun W hM => swapHit_step bm bw x.a _ x.c tick l c W hM hx hn hc.2.2.1⟩
                · have e : cellRes size x l c = (0, 0, l, { c with s := c.s + 1 }) := by unfold cellRes; rw [if_neg (by simpa using ho), if_neg (by omega), if_neg ha, if_neg k0, if_neg k1, if_pos k2, if_neg hy]
                  rw [e]
                  refine ⟨_, 0, ⟨_, _, _, rfl, meth_placed _ _, enter_placed, fun W => inv_swap size 0 x W k2 (by omega) hs (by omega)⟩, ?_⟩
                  unfold opOf
                  rw [if_pos rfl, z]
                  exact ⟨noKey_swap _, _, _, _, rfl, meth_swap _ _ _, enter_swap, fun W hM => swapMiss_step bm bw x.a _ x.b x.c tick l c W hM hx hn hc.2.2.1 hy⟩
              · have e : cellRes size x l c = (0, l.getD x.a 0, l.set x.a ((l.getD x.a 0 + x.b) % 18446744073709551616), { c with a := c.a + 1 }) := by unfold cellRes; rw [if_neg (by simpa using ho), if_neg (by omega), if_neg ha, if_neg k0, if_neg k1, if_neg k2]
                rw [e]
                refine ⟨_, 0, ⟨_, _, _, rfl, meth_placed _ _, enter_placed, fun W => inv_add size 0 x W (by omega) (by omega) hs (by omega)⟩, ?_⟩
                unfold opOf
                rw [if_pos rfl, z]
                exact ⟨noKey_add _, _, _, _, rfl, meth_add _ _, enter_add, fun W hM => add_step bm bw x.a _ x.b tick l c W hM hx hn hc.2.2.2⟩
  · rw [if_neg ho]
    have e : cellRes size x l c = (12, 0, l, c) := by unfold cellRes; rw [if_pos ho]
    rw [e]
    exact ⟨.nilIface, 12, ⟨_, _, _, rfl, meth_nowhere, enter_nowhere, fun W => nowhere_any x W⟩, hrefuse 12 (by decide)⟩

/-- a loom's struct -/
def loomVs (cv : Value) (lb bm : Nat) (ov vb : Value) (mc : Nat) (ticks idle : Int) : List Value := [cv, .pointer (some ⟨lb, 0, none⟩), .pointer (some ⟨bm, 0, none⟩), ov, vb, .map (some mc), .int .i64 ticks, .int .i64 idle]

set_option maxRecDepth 20000 in
set_option maxHeartbeats 1000000 in
theorem object_any (L lb bm mc go capo : Nat) (cv vb obj : Value) (ticks idle k : Int) (w : World) (hL : RowBlk 118 w L (loomVs cv lb bm (.slice (some ⟨go, 0, none⟩) 1 capo) vb mc ticks idle)) (ho : w.cell? ⟨go, 0, none⟩ = some obj) :
    Calls Try.prog 56 #[.pointer (some ⟨L, 0, none⟩), .int .i64 k] w fun e w' => e = .returned (if k = 0 then obj else .iface 160 (.agg #[])) ∧ w = w' := by
  have c3 : w.cell? ⟨L, 3, none⟩ = some (.slice (some ⟨go, 0, none⟩) 1 capo) := hL.cell rfl
  have hlt := hL.lt
  clear hL
  by_cases hk : k = 0
  · subst hk
    rw [if_pos rfl]
    go_enter Try.func56, Try.ntmps56
    go_wp2
    go_ret
    exact ⟨rfl, rfl⟩
  · rw [if_neg hk]
    by_cases h0 : k < 0
    · go_enter Try.func56, Try.ntmps56
      go_wp2
      go_ret
      exact ⟨rfl, rfl⟩
    · have h1 : 1 ≤ k := by omega
      go_enter Try.func56, Try.ntmps56
      go_wp2
      go_ret
      exact ⟨rfl, rfl⟩

/-- append of one cell, where it must be known in which block what comes of it lies -/
theorem append_at1 {P : Program} {w : World} {ops : Array Oper} {rest : List Oper} {o : Oper} {a : Act} {Q : Exit → Act → World → Prop} (hgd : o.guard = none) (s x : Operand) (t : TypeId)
    (ho : o.op = .call { callee := .builtin .append, args := #[s, x], argTypes := #[t, t] })
    (base : Nat) (e : TypeId) (i : TypeInfo) (z : Value) (ht : P.underlying t = some (.slice e)) (hi : P.info? e = some i) (hz : i.zero = some z)
    (hsize : i.size = 1) (hby : i.bytes = 8) (hzs : z.cells.size = 1)
    (v : Value) (n : Nat) (xs : List Value) (hs : a.eval s = v) (hown : w.ownsRow base e 1 v n xs)
    (u : Value) (g0 : Nat) (hg0 : g0 = w.heap.size) (hx : a.eval x = .slice (some ⟨g0, 0, none⟩) 1 1) (h1 : u.oneCell' = true)
    (hn : n ≤ 4294967296) (hbase : base ≤ w.heap.size)
    (h : ∀ v' w', w'.ownsRow base e 1 v' (n + 1) (xs ++ [u]) → (w.alloc (.cells #[u] e)).grownBy w' v.ownBlock → (v'.ownBlock = v.ownBlock ∨ v'.ownBlock = some (w.heap.size + 1)) → wpList P ops Q rest (a.put o.dst v') w') :
    wpList P ops Q (o :: rest) a (w.alloc (.cells #[u] e)) := by
  subst hg0
  refine wpList_append_own_at _ hgd s x t ho base e i z 1 8 ht hi hz hsize hby hzs (by decide) v n xs hs (hown.alloc _) ⟨w.heap.size, 0, none⟩ 1 1 [u] hx rfl ?_ (by simpa using h1) (by unfold maxLen; omega) (by omega) (by simp; omega) ?_
  · intro j y hj
    rw [addr_add _ j w.heap.size 0 rfl, World.cell?_alloc_at _ _ _ _ rfl]
    simpa using hj
  · intro v' w' h2 h3 _ h5
    refine h v' w' h2 h3 (h5.imp id (fun h => by rw [h]; simp))

/-- a row of the call's own is no map -/
theorem owns_no_map {P : Program} {k e : TypeId} {w : World} {b n B sz m : Nat} {z v : Value} {f : Int → Value} {xs : List Value} (h : MapIs P k w b n z f) (ho : w.ownsRow B e sz v m xs) : v.ownBlock ≠ some b := by
  intro e1
  obtain ⟨_, ⟨rfl, _⟩ | ⟨g, cap, cur, rfl, _, hh, _⟩⟩ := ho
  · cases e1
  · cases e1; exact h.no_cells hh
end Go.Proofs.Ytjlopeijdmnacaa
