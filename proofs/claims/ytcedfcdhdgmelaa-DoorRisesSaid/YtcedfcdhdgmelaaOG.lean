/- The door at the program: MachOk; Size, Place, Play. -/
import Derived.Test.YtcedfcdhdgmelaaOF
import Derived.Test.YtcedfcdhdgmelaaOH
namespace Go.Proofs.Ytcedfcdhdgmelaa
open Go.RowKit
set_option linter.unusedVariables false

def doorObj (n : Nat) : Value := .iface 191 (.agg #[.int .i64 (n : Int), .int .i64 0])
def DoorOpR (n : Nat) (w : World) (v : Value) (F : Nat → Prop) : DoorQ → Prop
  | .look a => v = .iface 214 (.agg #[.int .i64 (a : Int)])
  | .ent k own g => ∃ ge gl ao cap, v = .iface 210 (.pointer (some ⟨ge, 0, none⟩)) ∧ F ge ∧ F gl ∧ RowBlk 212 w ge (EntVs n k own g ao cap) ∧ (∀ j < n, w.cell? ⟨gl, j, none⟩ = some (.int .i64 (j : Int))) ∧ BlkT w gl 3 ∧ (k < n → ao = some ⟨gl, k, none⟩) ∧ n - k ≤ cap
def doorK (n : Nat) : MachRel (doorM n) where
  objs := [doorObj n]
  Obj := fun _ _ _ => True
  Op := fun w v q F => DoorOpR n w v F q
  obj_keep := fun _ _ _ => trivial
  op_keep := fun {w w' v q F G} h hb hG => by
    match q, h with
    | .look a, h => exact h
    | .ent k own g, h =>
      obtain ⟨ge, gl, ao, cap, h1, h2, h3, h4, h5, h6, h7, h8⟩ := h
      exact ⟨ge, gl, ao, cap, h1, hG ge h2, hG gl h3, h4.same (hb ge h2), fun j hj => (cell_of_eq (hb gl h3)).trans (h5 j hj), h6.same (hb gl h3), h7, h8⟩
  op_iface := fun {w v q F} h => by
    match q, h with
    | .look a, h => exact ⟨_, _, h⟩
    | .ent k own g, h =>
      obtain ⟨ge, gl, ao, cap, h1, _⟩ := h
      exact ⟨_, _, h1⟩
theorem doorM_meth (a b : Int) (w : World) : (method 348 191 (.agg #[.int .i64 a, .int .i64 b]) "Invoke").run Try.prog w = .ok (118, .agg #[.int .i64 a, .int .i64 b]) w := by kernel_rfl
theorem doorM_enter (args : Array Value) (w : World) : (callFunc 118 args).run Try.prog w = .ok (.enter 118 args) w := by kernel_rfl
theorem noKey_look (v : Value) : NoKey (.iface 214 v) := fun w => run_typeAssert_lacksB Try.underlying161 (by kernel_rfl) (by kernel_rfl) v 138 w
theorem noKey_entry (v : Value) : NoKey (.iface 210 v) := fun w => run_typeAssert_lacksB Try.underlying161 (by kernel_rfl) (by kernel_rfl) v 138 w
theorem door_ok (n : Nat) (hn : 1 ≤ n ∧ n ≤ 16) (cs : List CallV) (hth : ∀ x ∈ cs, 0 ≤ x.t ∧ x.t < n) : MachOk (doorK n) cs (DoorI n cs) where
  olen := rfl
  inv := fun st i x _ hx h0 h1 W FO _ hlt => by
    have hm : ((doorM n).m : Int) = 1 := rfl
    have hx0 : x.o = 0 := by omega
    have ht := hth x (List.mem_of_getElem? hx)
    have e : objOf (doorK n).objs x.o = doorObj n := by rw [hx0]; rfl
    rw [e]
    refine ⟨_, _, _, rfl, doorM_meth _ _, doorM_enter, fun W' hW' => ?_⟩
    have mk : ∀ (er : Nat), er ≤ 1000 → er ≠ 0 → ((doorM n).inv st.s x) = (st.s, .inr er) → Calls Try.prog 118 #[.agg #[.int .i64 (n : Int), .int .i64 0], callAgg x] W' (fun en w' => en = .returned (.tuple #[.nilIface, .int .i64 (er : Int)]) ∧ Below W'.heap.size W' w') →
        Calls Try.prog 118 #[.agg #[.int .i64 (n : Int), .int .i64 0], callAgg x] W' (InvRel (doorK n) ((doorM n).inv st.s x) FO W') := fun er h1000 hne hin hc => hc.mono fun en w' ⟨hen, hb⟩ => by
      rw [hin]
      exact ⟨ButS.of_below hb, .nilIface, er, fun _ => False, FO, hen, trivial, ⟨by unfold opOf; rw [if_neg (by omega)], h1000⟩, fun b h => h.elim, fun b h => ⟨Nat.lt_of_lt_of_le (hlt b h) (Nat.le_trans hW'.size hb.size), .inl h, id⟩⟩
    by_cases k0 : x.k = 0
    · have hin : (doorM n).inv st.s x = (st.s, .inl (.ent 0 x.t.toNat 0)) := by rw [door_inv_eq, if_pos k0]
      refine (door_entry n hn x x.t.toNat W' k0 (by omega) (by omega)).mono fun en w' ⟨g, gl, cap, hen, hr, hcl, hbt, hcap, hg, hgl, hb⟩ => ?_
      rw [hin]
      refine ⟨ButS.of_below hb, _, 0, fun b => b = g ∨ b = gl, FO, hen, trivial, ?_, fun b h => ?_, fun b h => ⟨Nat.lt_of_lt_of_le (hlt b h) (Nat.le_trans hW'.size hb.size), .inl h, fun e => ?_⟩⟩
      · exact ⟨g, gl, _, cap, by unfold opOf; rw [if_pos rfl], .inl rfl, .inr rfl, by unfold EntVs; exact hr, hcl, hbt, fun _ => rfl, hcap⟩
      · have l1 := hr.lt
        have l2 := hbt.lt
        rcases h with rfl | rfl
        · exact ⟨hg, l1⟩
        · exact ⟨hgl, l2⟩
      · have h3 := hlt b h
        have h4 := hW'.size
        rcases e with rfl | rfl <;> omega
    · by_cases k1 : x.k = 1
      · by_cases ha : n ≤ x.a
        · exact mk 10 (by omega) (by omega) (by rw [door_inv_eq, if_neg k0, if_pos k1, if_pos ha]) (door_range n x W' hn.2 k1 ha)
        · have hin : (doorM n).inv st.s x = (st.s, .inl (.look x.a)) := by rw [door_inv_eq, if_neg k0, if_pos k1, if_neg ha]
          refine (door_looks n x W' hn.2 k1 (by omega)).mono fun en w' ⟨hen, hb⟩ => ?_
          rw [hin]
          refine ⟨ButS.of_below hb, _, 0, fun _ => False, FO, hen, trivial, ?_, fun b h => h.elim, fun b h => ⟨Nat.lt_of_lt_of_le (hlt b h) (Nat.le_trans hW'.size hb.size), .inl h, id⟩⟩
          exact (show opOf (.iface 214 (.agg #[.int .i64 (x.a : Int)])) 0 = .iface 214 (.agg #[.int .i64 (x.a : Int)]) by unfold opOf; rw [if_pos rfl])
      · exact mk 9 (by omega) (by omega) (by rw [door_inv_eq, if_neg k0, if_neg k1]) (door_bad n x W' k0 k1)
  step := fun st p e v q hI hw hc hv hq hcn ht W opv bm bw F FO hop _ hM hs => by
    have hF := hI (by omega)
    have hr0 : v.resp = 0 := by
      obtain ⟨v', hv', hr, _⟩ := hw.cur p e hc
      rw [hv] at hv'; cases hv'; exact hr
    have hO := hF.ev e v hv hr0
    have hlen := hF.len
    rw [hq] at hO
    match q, hop, hO with
    | .look a, hop, hO =>
      obtain rfl : opv = .iface 214 (.agg #[.int .i64 (a : Int)]) := hop
      rw [door_stepQ]
      refine ⟨_, _, _, rfl, doorLook_meth _, doorLook_enter, fun W' hW' => ?_⟩
      have hM' := hM.of_blocks (hW'.block _ hM.lt1) (hW'.block _ hM.lt2)
      refine (doorLook_step bm bw a st.ticks st.ws st.cn W' hM' (by rw [hlen]; exact hO.1) (by omega) (by omega)).mono fun en w' ⟨he, hm2, hb⟩ => ?_
      have hz := hb.size
      exact ⟨hm2, ButS.of_but hb (.inl rfl) (.inr (.inl rfl)), F, FO, fun b h => ⟨Nat.lt_of_lt_of_le (hs.1 b h).1 (Nat.le_trans hW'.size hz), .inl h⟩, fun b h => ⟨Nat.lt_of_lt_of_le (hs.2 b h).1 (Nat.le_trans hW'.size hz), .inl h, fun h' => (hs.1 b h').2.2.2 h⟩, trivial, rfl, _, he, ListAt.nil _ _ _ _⟩
    | .ent k own g, hop, hO =>
      obtain ⟨ge, gl, ao, cap, rfl, hFg, hFl, hr, hcl, hbt, hao, hcap⟩ := hop
      obtain ⟨x, h1, h2, h3, h4, h5, h6, h7, h8, h9, h10⟩ := hO
      have hdw := hF.dw
      have e0 := door_stepQ st.s (.ent k own g) st.ws st.cn st.ticks
      by_cases hk : k < n
      · obtain rfl := hao hk
        rw [door_acc_rd hk] at e0
        have e0' : stepQ (M := doorM n) st.s (.inl (.ent k own g)) st.ws st.cn st.ticks = ⟨st.s, .inl (.ent (k + 1) own (max g (st.ws.getD k 0))), st.ws, { st.cn with r := st.cn.r + 1 }, none⟩ := by
          rw [e0]
          show (⟨st.s, .inl (doorNext n (.ent k own g) (st.ws.getD k 0)).1, st.ws, { st.cn with r := st.cn.r + 1 }, (doorNext n (.ent k own g) (st.ws.getD k 0)).2⟩ : Out (doorM n)) = _
          rw [door_next_rd hk]
        rw [e0']
        have hwk : st.ws.getD k 0 ≤ doneN cs st.evs := by
          have hkl : k < st.ws.length := by rw [hlen]; exact hk
          refine hF.wF _ ?_
          rw [List.getD_eq_getElem?_getD, List.getElem?_eq_getElem hkl]
          exact List.getElem_mem hkl
        refine ⟨_, _, _, rfl, doorEnt_meth _, doorEnt_enter, fun W' hW' => ?_⟩
        have hM' := hM.of_blocks (hW'.block _ hM.lt1) (hW'.block _ hM.lt2)
        have hr' := hr.same (hW'.block _ hr.lt)
        have hbt' := hbt.same (hW'.block _ hbt.lt)
        have hcl' : ∀ j < n, W'.cell? ⟨gl, j, none⟩ = some (.int .i64 (j : Int)) := fun j hj => (cell_of_eq (hW'.block _ hbt.lt)).trans (hcl j hj)
        have hsl := hs.1 gl hFl
        have hne : gl ≠ ge := hbt'.ne (BlkT.of_row hr') (by decide)
        refine (door_reads n k own g ge gl cap bm bw hn.2 hk hcap st.ws st.cn st.ticks W' hM' hr' (hcl' k hk) ⟨hsl.2.1, hsl.2.2.1, hne⟩ hlen (by omega) (by omega) (by omega)).mono fun en w' ⟨he, hm2, hb, ao', cap', hr2, hao2, hcap2⟩ => ?_
        have hz := hb.size
        have hgb : w'.heap[gl]? = W'.heap[gl]? := hb.block gl hbt'.lt (fun h => h.elim hsl.2.1 (fun h => h.elim hsl.2.2.1 hne))
        refine ⟨hm2, hb.mono (fun b _ h => h.elim .inl (fun h => h.elim (fun h => .inr (.inl h)) (fun h => .inr (.inr (.inl (h ▸ hFg)))))), F, FO, fun b h => ⟨Nat.lt_of_lt_of_le (hs.1 b h).1 (Nat.le_trans hW'.size hz), .inl h⟩, fun b h => ⟨Nat.lt_of_lt_of_le (hs.2 b h).1 (Nat.le_trans hW'.size hz), .inl h, fun h' => (hs.1 b h').2.2.2 h⟩, trivial, ?_, he⟩
        exact ⟨ge, gl, ao', cap', rfl, hFg, hFl, hr2, fun j hj => (cell_of_eq hgb).trans (hcl' j hj), hbt'.same hgb, hao2, hcap2⟩
      · have hkn : k = n := by omega
        have hmod : (g + 1) % 18446744073709551616 = g + 1 := Nat.mod_eq_of_lt (by omega)
        have e0' : stepQ (M := doorM n) st.s (.inl (.ent k own g)) st.ws st.cn st.ticks = ⟨st.s, .inl (.ent k own g), st.ws.set own (g + 1), { st.cn with w := st.cn.w + 1 }, some ⟨0, g + 1, []⟩⟩ := by
          rw [e0, door_acc_wr hk, hmod]
          show (⟨st.s, .inl (doorNext n (.ent k own g) 0).1, st.ws.set own (g + 1), { st.cn with w := st.cn.w + 1 }, (doorNext n (.ent k own g) 0).2⟩ : Out (doorM n)) = _
          rw [door_next_wr hk, hmod]
        rw [e0']
        refine ⟨_, _, _, rfl, doorEnt_meth _, doorEnt_enter, fun W' hW' => ?_⟩
        have hM' := hM.of_blocks (hW'.block _ hM.lt1) (hW'.block _ hM.lt2)
        have hr' := hr.same (hW'.block _ hr.lt)
        have hbt' := hbt.same (hW'.block _ hbt.lt)
        have hcl' : ∀ j < n, W'.cell? ⟨gl, j, none⟩ = some (.int .i64 (j : Int)) := fun j hj => (cell_of_eq (hW'.block _ hbt.lt)).trans (hcl j hj)
        have hsl := hs.1 gl hFl
        have hne : gl ≠ ge := hbt'.ne (BlkT.of_row hr') (by decide)
        have ev : EntVs n k own g ao cap = [.slice ao 0 cap, .int .i64 (own : Int), .int .u64 (g : Int)] := by unfold EntVs; rw [show n - k = 0 by omega]
        rw [ev] at hr'
        refine (door_writes own g ge cap bm bw ao st.ws st.cn st.ticks W' hM' hr' (by omega) (by omega) (by omega) (by omega)).mono fun en w' ⟨he, hm2, hb, hr2⟩ => ?_
        have hz := hb.size
        have hgb : w'.heap[gl]? = W'.heap[gl]? := hb.block gl hbt'.lt (fun h => h.elim hsl.2.1 (fun h => h.elim hsl.2.2.1 hne))
        refine ⟨hm2, hb.mono (fun b _ h => h.elim .inl (fun h => h.elim (fun h => .inr (.inl h)) (fun h => .inr (.inr (.inl (h ▸ hFg)))))), F, FO, fun b h => ⟨Nat.lt_of_lt_of_le (hs.1 b h).1 (Nat.le_trans hW'.size hz), .inl h⟩, fun b h => ⟨Nat.lt_of_lt_of_le (hs.2 b h).1 (Nat.le_trans hW'.size hz), .inl h, fun h' => (hs.1 b h').2.2.2 h⟩, trivial, ?_, _, he, ListAt.nil _ _ _ _⟩
        exact ⟨ge, gl, ao, cap, rfl, hFg, hFl, by rw [ev]; exact hr2, fun j hj => (cell_of_eq hgb).trans (hcl' j hj), hbt'.same hgb, fun h => absurd h hk, hcap⟩
  key := fun W s q opv F FO hop _ => by
    match q, hop with
    | .look a, hop =>
      obtain rfl : opv = .iface 214 (.agg #[.int .i64 (a : Int)]) := hop
      exact .inl ⟨noKey_look _, rfl⟩
    | .ent k own g, hop =>
      obtain ⟨ge, gl, ao, cap, rfl, _⟩ := hop
      exact .inl ⟨noKey_entry _, rfl⟩
  turn := fun st p i x hI _ hno hx => doorI_turn hth hI hno hx
  stepI := fun st p i e v hI hw ht _ hc hv => by
    obtain ⟨v', hv', hr, _⟩ := hw.cur p e hc
    rw [hv] at hv'; cases hv'
    exact doorI_step hI ht hc hv hr
  idle := fun st hI => doorI_idle hI
set_option maxHeartbeats 400000 in
theorem doorSize (n : Int) (W : World) : Calls Try.prog 108 #[.agg #[], .int .i64 n] W fun e w' => e = .returned (.tuple #[.int .i64 n, .int .i64 0]) ∧ Below W.heap.size W w' := by
  go_enter Try.func108, Try.ntmps108
  go_wp2
  go_ret2
  exact ⟨rfl, (by first | exact Below.refl _ _ | exact (Below.refl _ _).alloc (Nat.le_refl _) _)⟩
set_option maxHeartbeats 400000 in
theorem doorPlace (n : Int) (W : World) : Calls Try.prog 107 #[.agg #[], .int .i64 n, .int .i64 0] W fun e w' => e = .returned (.iface 191 (.agg #[.int .i64 n, .int .i64 0])) ∧ Below W.heap.size W w' := by
  go_enter Try.func107, Try.ntmps107
  go_wp2
  go_ret
  exact ⟨rfl, (by first | exact Below.refl _ _ | exact (Below.refl _ _).alloc (Nat.le_refl _) _)⟩
theorem doorSizeC (n : Int) : SizeC 85 (.agg #[]) n n 0 := ⟨108, fun w' => by kernel_rfl, fun args w' => by kernel_rfl, fun W => doorSize n W⟩
theorem doorPlaceC (k : Nat) (hk : 1 ≤ k ∧ k ≤ 16) (cs : List CallV) (hth : ∀ x ∈ cs, 0 ≤ x.t ∧ x.t < k) : PlaceC (M := doorM k) cs (DoorI k cs) () 85 (.agg #[]) (k : Int) := ⟨107, fun w' => by kernel_rfl, fun args w' => by kernel_rfl, fun W => (doorPlace k W).mono fun e w' ⟨he, hb⟩ =>
  ⟨doorObj k, he, ⟨doorK k, fun _ => False, ⟨_, _, rfl⟩, rfl, door_ok k hk cs hth, trivial, fun b h => h.elim⟩, hb⟩⟩
theorem doorNotFilled : NotFilled 85 (.agg #[]) := fun w => run_typeAssert_lacksB Try.underlying129 (by kernel_rfl) (by kernel_rfl) (.agg #[]) 55 w
theorem check_threads {n : Int} {cs : List CallV} {np : Nat} (h : checkL n (thr cs) np = 0) : (1 ≤ n.toNat ∧ n.toNat ≤ 16) ∧ n = (n.toNat : Int) ∧ ∀ x ∈ cs, 0 ≤ x.t ∧ x.t < (n.toNat : Int) := by
  have h2 := check_zero h
  have h3 := wrongL_threads h2.1
  refine ⟨by omega, by omega, fun x hx => ?_⟩
  have := h3.2 x.t (List.mem_map.2 ⟨x, hx, rfl⟩)
  omega
theorem door_play (n : Int) (ao : Option Addr) (b o cap : Nat) (cs : List CallV) (ao3 : Option Addr) (b3 o3 cap3 : Nat) (picks : List Int) (w : World) (ha : 0 < cs.length → ao = some ⟨b, o, none⟩) (hb : 0 < cs.length → b < w.heap.size) (hc : CallsAt w b o cs) (hcap : ao = none → cap = 0)
    (ha3 : 0 < picks.length → ao3 = some ⟨b3, o3, none⟩) (hb3 : 0 < picks.length → b3 < w.heap.size) (hc3 : ICells w b3 o3 picks) (hnp : picks.length ≤ 9223372036854775807) :
    Calls Try.prog 19 #[.int .i64 n, .slice ao cs.length cap, .slice ao3 picks.length cap3] w (PlayG (doorM n.toNat) n 0 cs (List.replicate n.toNat 0) () picks w) :=
  doorPlay_any n (DoorI n.toNat cs) n.toNat 0 ao b o cap cs ao3 b3 o3 cap3 picks w ha hb hc hcap ha3 hb3 hc3 hnp (fun h => by obtain ⟨_, h2, _⟩ := check_threads h; have := doorSizeC n; rw [h2] at this ⊢; simpa using this) (fun h _ => by
    obtain ⟨h1, h2, h3⟩ := check_threads h
    have hp := doorPlaceC n.toNat h1 cs h3
    rw [← h2] at hp
    exact ⟨doorNotFilled, hp, h1.1, by omega, doorI_first⟩)
end Go.Proofs.Ytcedfcdhdgmelaa
