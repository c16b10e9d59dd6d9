/- Cells as a machine; walk of Cells. -/
import Derived.Test.YtihhjbcphdnkhaaY1c
import Derived.Test.YtihhjbcphdnkhaaZE
import Derived.Test.YtihhjbcphdnkhaaOA
namespace Go.Proofs.Ytihhjbcphdnkhaa
open Go.RowKit
set_option linter.unusedVariables false
theorem enter_placed (args : Array Value) (w : World) : (callFunc 72 args).run Try.prog w = .ok (.enter 72 args) w := by kernel_rfl
theorem enter_read (args : Array Value) (w : World) : (callFunc 73 args).run Try.prog w = .ok (.enter 73 args) w := by kernel_rfl
theorem enter_write (args : Array Value) (w : World) : (callFunc 74 args).run Try.prog w = .ok (.enter 74 args) w := by kernel_rfl
theorem enter_swap (args : Array Value) (w : World) : (callFunc 75 args).run Try.prog w = .ok (.enter 75 args) w := by kernel_rfl
theorem enter_add (args : Array Value) (w : World) : (callFunc 76 args).run Try.prog w = .ok (.enter 76 args) w := by kernel_rfl
theorem meth_placed (a b : Int) (w : World) : (method 280 167 (.agg #[.int .i64 a, .int .i64 b]) "Invoke").run Try.prog w = .ok (72, .agg #[.int .i64 a, .int .i64 b]) w := by kernel_rfl
theorem meth_read (a : Int) (w : World) : (method 280 170 (.agg #[.int .i64 a]) "Step").run Try.prog w = .ok (73, .agg #[.int .i64 a]) w := by kernel_rfl
theorem meth_write (a b : Int) (w : World) : (method 280 172 (.agg #[.int .i64 a, .int .u64 b]) "Step").run Try.prog w = .ok (74, .agg #[.int .i64 a, .int .u64 b]) w := by kernel_rfl
theorem meth_swap (a b d : Int) (w : World) : (method 280 174 (.agg #[.int .i64 a, .int .u64 b, .int .u64 d]) "Step").run Try.prog w = .ok (75, .agg #[.int .i64 a, .int .u64 b, .int .u64 d]) w := by kernel_rfl
theorem meth_add (a b : Int) (w : World) : (method 280 176 (.agg #[.int .i64 a, .int .u64 b]) "Step").run Try.prog w = .ok (76, .agg #[.int .i64 a, .int .u64 b]) w := by kernel_rfl
def cellsV (size : Int) : Value := .iface 80 (.agg #[.int .i64 size])
theorem meth_size (a : Int) (w : World) : (method 280 80 (.agg #[.int .i64 a]) "Size").run Try.prog w = .ok (66, .agg #[.int .i64 a]) w := by kernel_rfl
theorem meth_place (a : Int) (w : World) : (method 280 80 (.agg #[.int .i64 a]) "Place").run Try.prog w = .ok (65, .agg #[.int .i64 a]) w := by kernel_rfl
theorem notFilled (v : Value) (w : World) : (Instr.typeAssert (.iface 80 v) 64 118 true).run Try.prog w = .ok (.tuple #[.nilIface, .bool false]) w :=
  run_typeAssert_lacksB Try.underlying118 (by kernel_rfl) (by kernel_rfl) v 64 w
set_option maxHeartbeats 400000 in
theorem size_ok (size n : Int) (w : World) (h1 : 1 ≤ size) (h2 : size ≤ 64) : Calls Try.prog 66 #[.agg #[.int .i64 size], .int .i64 n] w fun e w' => e = .returned (.tuple #[.int .i64 size, .int .i64 0]) ∧ Below w.heap.size w w' := by
  go_enter Try.func66, Try.ntmps66
  go_wp2
  go_ret2
  exact ⟨rfl, (Below.refl _ _).alloc (Nat.le_refl _) _⟩
set_option maxHeartbeats 400000 in
theorem size_bad (size n : Int) (w : World) (h : size < 1 ∨ 64 < size) : Calls Try.prog 66 #[.agg #[.int .i64 size], .int .i64 n] w fun e w' => e = .returned (.tuple #[.int .i64 0, .int .i64 10]) ∧ Below w.heap.size w w' := by
  by_cases h1 : size < 1
  · go_enter Try.func66, Try.ntmps66
    go_wp2
    go_ret2
    exact ⟨rfl, (Below.refl _ _).alloc (Nat.le_refl _) _⟩
  · have h2 : 64 < size := by omega
    go_enter Try.func66, Try.ntmps66
    go_wp2
    go_ret2
    exact ⟨rfl, (Below.refl _ _).alloc (Nat.le_refl _) _⟩
set_option maxHeartbeats 400000 in
theorem place_one (size n b : Int) (w : World) : Calls Try.prog 65 #[.agg #[.int .i64 size], .int .i64 n, .int .i64 b] w fun e w' => e = .returned (.iface 167 (.agg #[.int .i64 size, .int .i64 b])) ∧ Below w.heap.size w w' := by
  go_enter Try.func65, Try.ntmps65
  go_wp2
  go_ret
  exact ⟨rfl, (Below.refl _ _).alloc (Nat.le_refl _) _⟩


structure CellQ where
  k : Nat
  a : Nat
  b : Nat
  c : Nat
def cellAcc (q : CellQ) : Acc := if q.k = 0 then .rd q.a else if q.k = 1 then .wr q.a q.b else if q.k = 2 then .sw q.a q.b q.c else .ad q.a q.b
def cellsM (size : Nat) : Mach where
  S := Unit
  Q := CellQ
  m := 1
  inv := fun s x => (s, if x.k < 0 ∨ 3 < x.k then .inr 9 else if size ≤ x.a then .inr 10 else .inl ⟨x.k.toNat, x.a, x.b, x.c⟩)
  acc := fun _ q => cellAcc q
  next := fun s q r _ => (s, q, some ⟨0, r, []⟩)
  key := fun _ _ => []
def cellOp (q : CellQ) : Value :=
  if q.k = 0 then .iface 170 (.agg #[.int .i64 (q.a : Int)]) else if q.k = 1 then .iface 172 (.agg #[.int .i64 (q.a : Int), .int .u64 (q.b : Int)]) else
  if q.k = 2 then .iface 174 (.agg #[.int .i64 (q.a : Int), .int .u64 (q.b : Int), .int .u64 (q.c : Int)]) else .iface 176 (.agg #[.int .i64 (q.a : Int), .int .u64 (q.b : Int)])
def cellsObj (size : Nat) : Value := .iface 167 (.agg #[.int .i64 size, .int .i64 ((0 : Nat) : Int)])
def cellsK (size : Nat) : MachRel (cellsM size) where
  objs := [cellsObj size]
  Obj := fun _ _ _ => True
  Op := fun _ v q _ => v = cellOp q ∧ q.a < size
  obj_keep := fun _ _ _ => trivial
  op_keep := fun h _ _ => h
  op_iface := fun h => by
    obtain ⟨rfl, _⟩ := h
    unfold cellOp
    split
    · exact ⟨_, _, rfl⟩
    · split
      · exact ⟨_, _, rfl⟩
      · split
        · exact ⟨_, _, rfl⟩
        · exact ⟨_, _, rfl⟩
theorem cells_inv_eq (size : Nat) (s : (cellsM size).S) (x : CallV) : (cellsM size).inv s x = (s, ((if x.k < 0 ∨ 3 < x.k then Sum.inr 9 else if size ≤ x.a then Sum.inr 10 else Sum.inl (⟨x.k.toNat, x.a, x.b, x.c⟩ : CellQ)) : CellQ ⊕ Nat)) := rfl
theorem stepEnd_rel (size : Nat) (s : Unit) (q : CellQ) (opv : Value) (l l' : List Nat) (c c' : Cn) (bm bw t v : Nat) (F FO : Nat → Prop) (w : World) (hs : Sep bm bw F FO w) (W : World) (hW : Below w.heap.size w W) (he : (cellAcc q).run l c = (v, l', c')) (hop : opv = cellOp q ∧ q.a < size) {en : Ending} {w' : World} (h : StepEnd 0 v bm bw l' c' W en w') :
    StepRel (cellsK size) (stepQ (M := cellsM size) s (.inl q) l c t) opv bm bw F FO W en w' := by
  obtain ⟨hen, hm, hb⟩ := h
  have e : (cellsM size).acc s q = cellAcc q := rfl
  have e1 : (stepQ (M := cellsM size) s (.inl q) l c t).ws = l' := by show ((cellAcc q).run l c).2.1 = _; rw [he]
  have e2 : (stepQ (M := cellsM size) s (.inl q) l c t).cn = c' := by show ((cellAcc q).run l c).2.2 = _; rw [he]
  have e3 : (stepQ (M := cellsM size) s (.inl q) l c t).ans = some ⟨0, v, []⟩ := by show some (⟨0, ((cellAcc q).run l c).1, []⟩ : Ans) = _; rw [he]
  refine ⟨by rw [e1, e2]; exact hm, ButS.of_but hb (.inl rfl) (.inr (.inl rfl)), fun _ => False, FO, fun b h => h.elim, fun b h => ⟨Nat.lt_of_lt_of_le (hs.2 b h).1 (Nat.le_trans hW.size hb.size), .inl h, id⟩, trivial, hop, ?_⟩
  rw [e3]
  exact ⟨_, hen, ListAt.nil _ _ _ _⟩
theorem cells_ok (size : Nat) (cs : List CallV) (h64 : size ≤ 64) : MachOk (cellsK size) cs (fun st => st.ws.length = size) where
  olen := rfl
  inv := fun st i x _ _ h0 h1 W FO _ hlt => by
    have hx0 : x.o = 0 := by have : ((cellsM size).m : Int) = 1 := rfl; omega
    have e : objOf (cellsK size).objs x.o = cellsObj size := by rw [hx0]; rfl
    rw [e]
    refine ⟨_, _, _, rfl, meth_placed _ _, enter_placed, fun W' hW' => ?_⟩
    have mk : ∀ (er : Nat), er ≤ 1000 → er ≠ 0 → ((cellsM size).inv st.s x) = (st.s, .inr er) → Calls Try.prog 72 #[.agg #[.int .i64 size, .int .i64 ((0 : Nat) : Int)], callAgg x] W' (fun en w' => en = .returned (.tuple #[.nilIface, .int .i64 (er : Int)]) ∧ Below W'.heap.size W' w') →
        Calls Try.prog 72 #[.agg #[.int .i64 size, .int .i64 ((0 : Nat) : Int)], callAgg x] W' (InvRel (cellsK size) ((cellsM size).inv st.s x) FO W') := fun er h1000 hne hin hc => hc.mono fun en w' ⟨hen, hb⟩ => by
      rw [hin]
      exact ⟨ButS.of_below hb, .nilIface, er, fun _ => False, FO, hen, trivial, ⟨by unfold opOf; rw [if_neg (by omega)], h1000⟩, fun b h => h.elim, fun b h => ⟨Nat.lt_of_lt_of_le (hlt b h) (Nat.le_trans hW'.size hb.size), .inl h, id⟩⟩
    have mk2 : ∀ (q : CellQ), q.a < size → ((cellsM size).inv st.s x) = (st.s, .inl q) → Calls Try.prog 72 #[.agg #[.int .i64 size, .int .i64 ((0 : Nat) : Int)], callAgg x] W' (fun en w' => en = .returned (.tuple #[cellOp q, .int .i64 0]) ∧ Below W'.heap.size W' w') →
        Calls Try.prog 72 #[.agg #[.int .i64 size, .int .i64 ((0 : Nat) : Int)], callAgg x] W' (InvRel (cellsK size) ((cellsM size).inv st.s x) FO W') := fun q ha hin hc => hc.mono fun en w' ⟨hen, hb⟩ => by
      rw [hin]
      exact ⟨ButS.of_below hb, cellOp q, 0, fun _ => False, FO, hen, trivial, ⟨by unfold opOf; rw [if_pos rfl], ha⟩, fun b h => h.elim, fun b h => ⟨Nat.lt_of_lt_of_le (hlt b h) (Nat.le_trans hW'.size hb.size), .inl h, id⟩⟩
    have z : ((0 : Nat) : Int) + (x.a : Int) = (x.a : Int) := by omega
    by_cases hk : x.k < 0
    · exact mk 9 (by omega) (by omega) (by rw [cells_inv_eq, if_pos (.inl hk)]; rfl) (inv_kind_low size 0 x W' hk)
    · by_cases hk2 : 3 < x.k
      · exact mk 9 (by omega) (by omega) (by rw [cells_inv_eq, if_pos (.inr hk2)]; rfl) (inv_kind_high size 0 x W' hk2)
      · by_cases ha : size ≤ x.a
        · exact mk 10 (by omega) (by omega) (by rw [cells_inv_eq, if_neg (by omega), if_pos ha]; rfl) (inv_range size 0 x W' hk hk2 ha h64)
        · refine mk2 ⟨x.k.toNat, x.a, x.b, x.c⟩ (by show x.a < size; omega) (by rw [cells_inv_eq, if_neg (by omega), if_neg ha]; rfl) ?_
          unfold cellOp
          by_cases k0 : x.k = 0
          · rw [if_pos (by show x.k.toNat = 0; omega)]
            have := inv_read size 0 x W' k0 (by omega) h64 (by omega)
            rw [z] at this; exact this
          · rw [if_neg (by show ¬ x.k.toNat = 0; omega)]
            by_cases k1 : x.k = 1
            · rw [if_pos (by show x.k.toNat = 1; omega)]
              have := inv_write size 0 x W' k1 (by omega) h64 (by omega)
              rw [z] at this; exact this
            · rw [if_neg (by show ¬ x.k.toNat = 1; omega)]
              by_cases k2 : x.k = 2
              · rw [if_pos (by show x.k.toNat = 2; omega)]
                have := inv_swap size 0 x W' k2 (by omega) h64 (by omega)
                rw [z] at this; exact this
              · rw [if_neg (by show ¬ x.k.toNat = 2; omega)]
                have := inv_add size 0 x W' (by omega) (by omega) h64 (by omega)
                rw [z] at this; exact this
  step := fun st p e v q hI _ hc hv hq hcn ht W opv bm bw F FO hop _ hM hs => by
    have hop' := hop
    obtain ⟨rfl, ha⟩ := hop
    have hn : st.ws.length ≤ 65536 := by rw [hI]; omega
    have hx : st.ws[q.a]? = some (st.ws.getD q.a 0) := getD_get (by rw [hI]; exact ha)
    have hM' : ∀ W' : World, Below W.heap.size W W' → MemIs 126 W' bm bw st.ws st.cn := fun W' hW' => hM.of_blocks (hW'.block _ hM.lt1) (hW'.block _ hM.lt2)
    by_cases k0 : q.k = 0
    · have e : cellOp q = .iface 170 (.agg #[.int .i64 (q.a : Int)]) := by unfold cellOp; rw [if_pos k0]
      exact ⟨_, _, _, e, meth_read _, enter_read, fun W' hW' => (read_step bm bw q.a _ st.ticks st.ws st.cn W' (hM' W' hW') hx hn (by omega)).mono fun en w' h => stepEnd_rel size st.s q _ _ _ _ _ bm bw st.ticks _ F FO W hs W' hW' (by unfold cellAcc; rw [if_pos k0]; rfl) hop' h⟩
    · by_cases k1 : q.k = 1
      · have e : cellOp q = .iface 172 (.agg #[.int .i64 (q.a : Int), .int .u64 (q.b : Int)]) := by unfold cellOp; rw [if_neg k0, if_pos k1]
        exact ⟨_, _, _, e, meth_write _ _, enter_write, fun W' hW' => (write_step bm bw q.a _ q.b st.ticks st.ws st.cn W' (hM' W' hW') hx hn (by omega)).mono fun en w' h => stepEnd_rel size st.s q _ _ _ _ _ bm bw st.ticks 0 F FO W hs W' hW' (by unfold cellAcc; rw [if_neg k0, if_pos k1]; rfl) hop' h⟩
      · by_cases k2 : q.k = 2
        · have e : cellOp q = .iface 174 (.agg #[.int .i64 (q.a : Int), .int .u64 (q.b : Int), .int .u64 (q.c : Int)]) := by unfold cellOp; rw [if_neg k0, if_neg k1, if_pos k2]
          by_cases hy : st.ws.getD q.a 0 = q.b
          · refine ⟨_, _, _, e, meth_swap _ _ _, enter_swap, fun W' hW' => ?_⟩
            rw [← hy]
            exact (swapHit_step bm bw q.a _ q.c st.ticks st.ws st.cn W' (hM' W' hW') hx hn (by omega)).mono fun en w' h => stepEnd_rel size st.s q _ _ _ _ _ bm bw st.ticks 1 F FO W hs W' hW' (by unfold cellAcc; rw [if_neg k0, if_neg k1, if_pos k2]; simp only [Acc.run]; rw [if_pos hy]) hop' h
          · exact ⟨_, _, _, e, meth_swap _ _ _, enter_swap, fun W' hW' => (swapMiss_step bm bw q.a _ q.b q.c st.ticks st.ws st.cn W' (hM' W' hW') hx hn (by omega) hy).mono fun en w' h => stepEnd_rel size st.s q _ _ _ _ _ bm bw st.ticks 0 F FO W hs W' hW' (by unfold cellAcc; rw [if_neg k0, if_neg k1, if_pos k2]; simp only [Acc.run]; rw [if_neg hy]) hop' h⟩
        · have e : cellOp q = .iface 176 (.agg #[.int .i64 (q.a : Int), .int .u64 (q.b : Int)]) := by unfold cellOp; rw [if_neg k0, if_neg k1, if_neg k2]
          exact ⟨_, _, _, e, meth_add _ _, enter_add, fun W' hW' => (add_step bm bw q.a _ q.b st.ticks st.ws st.cn W' (hM' W' hW') hx hn (by omega)).mono fun en w' h => stepEnd_rel size st.s q _ _ _ _ _ bm bw st.ticks _ F FO W hs W' hW' (by unfold cellAcc; rw [if_neg k0, if_neg k1, if_neg k2]; rfl) hop' h⟩
  key := fun W s q opv F FO hop _ => by
    obtain ⟨rfl, _⟩ := hop
    refine .inl ⟨?_, rfl⟩
    unfold cellOp
    split
    · exact noKey_read _
    · split
      · exact noKey_write _
      · split
        · exact noKey_swap _
        · exact noKey_add _
  turn := fun st p i x hI _ _ _ => by
    show (st.turn i x p).ws.length = size
    unfold St.turn
    split <;> exact hI
  stepI := fun st p i e v hI _ _ _ _ hv => by
    show (st.step i p e v).ws.length = size
    have : (st.step i p e v).ws = (stepQ st.s v.q st.ws st.cn st.ticks).ws := by unfold St.step; split <;> rfl
    rw [this, stepQ_len]; exact hI
  idle := fun st hI => hI

def cellsEr (size : Int) : Nat := if size < 1 ∨ 64 < size then 10 else 0
theorem cellsSizeC (size n : Int) : SizeC 80 (.agg #[.int .i64 size]) n (if cellsEr size = 0 then (size.toNat : Int) else 0) (cellsEr size : Nat) := by
  refine ⟨66, fun w' => by kernel_rfl, fun args w' => by kernel_rfl, fun W => ?_⟩
  unfold cellsEr
  by_cases h : size < 1 ∨ 64 < size
  · rw [if_pos h, if_neg (by decide)]; exact size_bad size n W h
  · rw [if_neg h, if_pos rfl]
    have e : ((size.toNat : Nat) : Int) = size := by omega
    rw [e]; exact size_ok size n W (by omega) (by omega)
theorem cellsPlaceC (size : Nat) (cs : List CallV) (n : Int) (h64 : size ≤ 64) : PlaceC (M := cellsM size) cs (fun st => st.ws.length = size) () 80 (.agg #[.int .i64 size]) n := ⟨65, fun w' => by kernel_rfl, fun args w' => by kernel_rfl, fun W => (place_one size n 0 W).mono fun e w' ⟨he, hb⟩ =>
  ⟨cellsObj size, he, ⟨cellsK size, fun _ => False, ⟨_, _, rfl⟩, rfl, cells_ok size cs h64, trivial, fun b h => h.elim⟩, hb⟩⟩
set_option maxHeartbeats 400000 in
theorem newCells_one (size : Int) (w : World) : Calls Try.prog 14 #[.int .i64 size] w fun e w' => e = .returned (cellsV size) ∧ w = w' := by
  go_enter Try.func14, Try.ntmps14
  go_wp2
  go_ret
  exact ⟨rfl, rfl⟩
set_option maxRecDepth 100000 in
set_option maxHeartbeats 4000000 in
theorem cells_play (n size : Int) (sz er : Nat) (ao : Option Addr) (b o cap : Nat) (cs : List CallV) (ao3 : Option Addr) (b3 o3 cap3 : Nat) (picks : List Int) (w : World) (ha : 0 < cs.length → ao = some ⟨b, o, none⟩) (hb : 0 < cs.length → b < w.heap.size) (hc : CallsAt w b o cs) (hcap : ao = none → cap = 0)
    (ha3 : 0 < picks.length → ao3 = some ⟨b3, o3, none⟩) (hb3 : 0 < picks.length → b3 < w.heap.size) (hc3 : ICells w b3 o3 picks) (hnp : picks.length ≤ 9223372036854775807) (hS : SizeC 80 (.agg #[.int .i64 size]) n (sz : Int) (er : Int)) (hP : er = 0 → NotFilled 80 (.agg #[.int .i64 size]) ∧ PlaceC (M := cellsM sz) cs (fun st => st.ws.length = sz) () 80 (.agg #[.int .i64 size]) n ∧ 1 ≤ sz ∧ sz ≤ 65536) :
    Calls Try.prog 6 #[.int .i64 n, .int .i64 size, .slice ao cs.length cap, .slice ao3 picks.length cap3] w (PlayG (cellsM sz) n er cs (List.replicate sz 0) () picks w) := by
  have HA := Lib.hid ha
  have HB := Lib.hid hb
  have HC := Lib.hid hc
  have HA3 := Lib.hid ha3
  have HB3 := Lib.hid hb3
  have HC3 := Lib.hid hc3
  have HCP := Lib.hid hcap
  have HSZ : Hid (checkL n (thr cs) picks.length = 0 → SizeC 80 (.agg #[.int .i64 size]) n (sz : Int) (er : Int)) := Lib.hid (fun _ => hS)
  have HPL : Hid (checkL n (thr cs) picks.length = 0 → er = 0 → NotFilled 80 (.agg #[.int .i64 size]) ∧ PlaceC (M := cellsM sz) cs (fun st => st.ws.length = sz) () 80 (.agg #[.int .i64 size]) n ∧ 1 ≤ sz ∧ sz ≤ 65536 ∧ (stM (M := cellsM sz) cs (List.replicate sz 0) ()).ws.length = sz) := Lib.hid (fun _ h0 => by
    obtain ⟨a1, a2, a3, a4⟩ := hP h0
    exact ⟨a1, a2, a3, a4, by show (List.replicate sz 0).length = _; rw [List.length_replicate]⟩)
  clear hS hP
  clear ha hb hc ha3 hb3 hc3 hcap
  go_enter Try.func6, Try.ntmps6
  go_wp2_with fail
  refine (newCells_one size _).mono ?_
  rintro e w1 ⟨rfl, rfl⟩
  unfold cellsV
  go_wp2_with fail
  generalize hw2 : (w.alloc (.cells #[.slice none 0 0, .slice none 0 0, .int .i64 0, .int .i64 0, .int .i64 0, .int .i64 0, .int .i64 0, .int .i64 0, .int .i64 0] 32)).alloc (.cells #[.iface 80 (.agg #[.int .i64 size])] 64) = w2
  have HBa : Hid (Below w.heap.size w w2) := Lib.hid (by rw [← hw2]; exact ((Below.refl w.heap.size w).alloc (Nat.le_refl _) _).alloc (by simp) _)
  have hsz2 : w2.heap.size = w.heap.size + 2 := by rw [← hw2]; simp
  have hz2 : RowBlk 32 w2 w.heap.size zeroVs := by rw [← hw2]; exact (RowBlk.new w zeroVs 32).alloc _
  have hob2 : w2.cell? ⟨w.heap.size + 1, 0, none⟩ = some (cellsV size) := by rw [← hw2, World.cell?_alloc_at _ _ _ _ (by simp)]; rfl
  have HZ2 := Lib.hid hz2
  clear hz2 hw2
  refine (play_any (M := cellsM sz) (fun st => st.ws.length = sz) () 80 (.agg #[.int .i64 size]) n sz er ao b o cap cs ao3 b3 o3 cap3 picks (w.heap.size + 1) 1 w2 HA.out (fun h => by have := HB.out h; omega) (HC.out.stays HBa.out HB.out) HCP.out HA3.out (fun h => by have := HB3.out h; omega) (HC3.out.stays HBa.out HB3.out) hnp hob2 HSZ.out HPL.out).mono ?_
  rintro e w3 ⟨a1, n1, c1, a2, n2, c2, i0, i1, i2, i3, i4, i5, i6, v, rfl, rfl, hv1, hv2, hb3⟩
  have hz := HZ2.out.same (hb3.block _ (by omega))
  have HB3' : Hid (Below w.heap.size w w3) := Lib.hid (HBa.out.trans (hb3.mono (by omega)))
  have HV1 := Lib.hid hv1
  have HV2 := Lib.hid hv2
  have r0 := hz.cell (i := 0) rfl
  have r1 := hz.cell (i := 1) rfl
  have r2 := hz.cell (i := 2) rfl
  have r3 := hz.cell (i := 3) rfl
  have r4 := hz.cell (i := 4) rfl
  have r5 := hz.cell (i := 5) rfl
  have r6 := hz.cell (i := 6) rfl
  have r7 := hz.cell (i := 7) rfl
  have r8 := hz.cell (i := 8) rfl
  have fr : ∀ k, w3.frozen? ⟨w.heap.size, k, none⟩ = false := fun k => hz.free
  have HZ3 := Lib.hid hz
  clear hb3 hz hob2 hv1 hv2
  go_wp2_with fail
  have H7 : Hid (RowBlk 32 (((((((((w3.setCell ⟨w.heap.size, 0, none⟩ (.slice a1 n1 c1)).setCell ⟨w.heap.size, 1, none⟩ (.slice a2 n2 c2)).setCell ⟨w.heap.size, 2, none⟩ (.int .i64 i0)).setCell ⟨w.heap.size, 3, none⟩ (.int .i64 i1)).setCell ⟨w.heap.size, 4, none⟩ (.int .i64 i2)).setCell ⟨w.heap.size, 5, none⟩ (.int .i64 i3)).setCell ⟨w.heap.size, 6, none⟩ (.int .i64 i4)).setCell ⟨w.heap.size, 7, none⟩ (.int .i64 i5)).setCell ⟨w.heap.size, 8, none⟩ (.int .i64 i6)) w.heap.size [.slice a1 n1 c1, .slice a2 n2 c2, .int .i64 i0, .int .i64 i1, .int .i64 i2, .int .i64 i3, .int .i64 i4, .int .i64 i5, .int .i64 i6] ∧
      (playErr n cs picks.length er = 0 → RepG w.heap.size (((((((((w3.setCell ⟨w.heap.size, 0, none⟩ (.slice a1 n1 c1)).setCell ⟨w.heap.size, 1, none⟩ (.slice a2 n2 c2)).setCell ⟨w.heap.size, 2, none⟩ (.int .i64 i0)).setCell ⟨w.heap.size, 3, none⟩ (.int .i64 i1)).setCell ⟨w.heap.size, 4, none⟩ (.int .i64 i2)).setCell ⟨w.heap.size, 5, none⟩ (.int .i64 i3)).setCell ⟨w.heap.size, 6, none⟩ (.int .i64 i4)).setCell ⟨w.heap.size, 7, none⟩ (.int .i64 i5)).setCell ⟨w.heap.size, 8, none⟩ (.int .i64 i6)) (.agg #[.slice a1 n1 c1, .slice a2 n2 c2, .int .i64 i0, .int .i64 i1, .int .i64 i2, .int .i64 i3, .int .i64 i4, .int .i64 i5, .int .i64 i6]) (repOf (endM (M := cellsM sz) cs (List.replicate sz 0) () picks))) ∧ Below w.heap.size w (((((((((w3.setCell ⟨w.heap.size, 0, none⟩ (.slice a1 n1 c1)).setCell ⟨w.heap.size, 1, none⟩ (.slice a2 n2 c2)).setCell ⟨w.heap.size, 2, none⟩ (.int .i64 i0)).setCell ⟨w.heap.size, 3, none⟩ (.int .i64 i1)).setCell ⟨w.heap.size, 4, none⟩ (.int .i64 i2)).setCell ⟨w.heap.size, 5, none⟩ (.int .i64 i3)).setCell ⟨w.heap.size, 6, none⟩ (.int .i64 i4)).setCell ⟨w.heap.size, 7, none⟩ (.int .i64 i5)).setCell ⟨w.heap.size, 8, none⟩ (.int .i64 i6))) := Lib.hid
    ⟨(((((((((HZ3.out.put 0 _).put 1 _).put 2 _).put 3 _).put 4 _).put 5 _).put 6 _).put 7 _).put 8 _),
     fun h => ((HV2.out h).mono (by omega)).other HZ3.out (fun k _ hk => by rw [heap_far hk, heap_far hk, heap_far hk, heap_far hk, heap_far hk, heap_far hk, heap_far hk, heap_far hk, heap_far hk]),
     (((((((((HB3'.out.setCell (Nat.le_refl _) _).setCell (Nat.le_refl _) _).setCell (Nat.le_refl _) _).setCell (Nat.le_refl _) _).setCell (Nat.le_refl _) _).setCell (Nat.le_refl _) _).setCell (Nat.le_refl _) _).setCell (Nat.le_refl _) _).setCell (Nat.le_refl _) _)⟩
  generalize ((((((((w3.setCell ⟨w.heap.size, 0, none⟩ (.slice a1 n1 c1)).setCell ⟨w.heap.size, 1, none⟩ (.slice a2 n2 c2)).setCell ⟨w.heap.size, 2, none⟩ (.int .i64 i0)).setCell ⟨w.heap.size, 3, none⟩ (.int .i64 i1)).setCell ⟨w.heap.size, 4, none⟩ (.int .i64 i2)).setCell ⟨w.heap.size, 5, none⟩ (.int .i64 i3)).setCell ⟨w.heap.size, 6, none⟩ (.int .i64 i4)).setCell ⟨w.heap.size, 7, none⟩ (.int .i64 i5)).setCell ⟨w.heap.size, 8, none⟩ (.int .i64 i6) = W7 at H7 ⊢
  have q0 := H7.out.1.cell (i := 0) rfl
  have q1 := H7.out.1.cell (i := 1) rfl
  have q2 := H7.out.1.cell (i := 2) rfl
  have q3 := H7.out.1.cell (i := 3) rfl
  have q4 := H7.out.1.cell (i := 4) rfl
  have q5 := H7.out.1.cell (i := 5) rfl
  have q6 := H7.out.1.cell (i := 6) rfl
  have q7 := H7.out.1.cell (i := 7) rfl
  have q8 := H7.out.1.cell (i := 8) rfl
  exact bodyPost_ret (v := .tuple #[.agg #[.slice a1 n1 c1, .slice a2 n2 c2, .int .i64 i0, .int .i64 i1, .int .i64 i2, .int .i64 i3, .int .i64 i4, .int .i64 i5, .int .i64 i6], .int .i64 (playErr n cs picks.length er : Nat)]) (by simp [results, Try.results6, go_sem, q0, q1, q2, q3, q4, q5, q6, q7, q8]) rfl
    ⟨_, _, _, _, _, _, _, _, _, _, _, _, _, _, rfl, rfl, HV1.out, H7.out.2.1, H7.out.2.2⟩
theorem cells_any (n size : Int) (ao : Option Addr) (b o cap : Nat) (cs : List CallV) (ao3 : Option Addr) (b3 o3 cap3 : Nat) (picks : List Int) (w : World) (ha : 0 < cs.length → ao = some ⟨b, o, none⟩) (hb : 0 < cs.length → b < w.heap.size) (hc : CallsAt w b o cs) (hcap : ao = none → cap = 0)
    (ha3 : 0 < picks.length → ao3 = some ⟨b3, o3, none⟩) (hb3 : 0 < picks.length → b3 < w.heap.size) (hc3 : ICells w b3 o3 picks) (hnp : picks.length ≤ 9223372036854775807) :
    ∃ sz, (cellsEr size = 0 → sz = size.toNat ∧ 1 ≤ sz ∧ sz ≤ 64) ∧ Calls Try.prog 6 #[.int .i64 n, .int .i64 size, .slice ao cs.length cap, .slice ao3 picks.length cap3] w (PlayG (cellsM sz) n (cellsEr size) cs (List.replicate sz 0) () picks w) := by
  have h := cellsSizeC size n
  by_cases h0 : cellsEr size = 0
  · rw [if_pos h0] at h
    have hs : ¬ (size < 1 ∨ 64 < size) := fun h => by unfold cellsEr at h0; rw [if_pos h] at h0; cases h0
    have e : ((size.toNat : Nat) : Int) = size := by omega
    have hp := cellsPlaceC size.toNat cs n (by omega)
    rw [e] at hp
    exact ⟨size.toNat, fun _ => ⟨rfl, by omega, by omega⟩, cells_play n size size.toNat (cellsEr size) ao b o cap cs ao3 b3 o3 cap3 picks w ha hb hc hcap ha3 hb3 hc3 hnp h (fun _ => ⟨notFilled _, hp, by omega, by omega⟩)⟩
  · rw [if_neg h0] at h
    exact ⟨0, fun h' => absurd h' h0, cells_play n size 0 (cellsEr size) ao b o cap cs ao3 b3 o3 cap3 picks w ha hb hc hcap ha3 hb3 hc3 hnp h (fun h' => absurd h' h0)⟩
end Go.Proofs.Ytihhjbcphdnkhaa
