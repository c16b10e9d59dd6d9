/- Splitters at the program: MachRel, MachOk; Play. -/
import Derived.Test.YtglpalomhhhmhaaSQ5
import Derived.Test.YtglpalomhhhmhaaSQ7
namespace Go.Proofs.Ytglpalomhhhmhaa
open Go.RowKit
set_option linter.unusedVariables false
set_option linter.unusedSimpArgs false
def spRow (bo : Nat) (q : SpQ) : List Value := if q.s = 0 then SpVs bo q.th 0 0 0 0 0 0 else SpVs bo q.th q.s q.r q.c (spName q.r q.c) (2 * spName q.r q.c) (2 * spName q.r q.c + 1)
def SpOpR (bo : Nat) (w : World) (v : Value) (q : SpQ) (F : Nat → Prop) : Prop :=
  ∃ g, v = .iface 157 (.pointer (some ⟨g, 0, none⟩)) ∧ (q.s ≠ 5 → F g ∧ RowBlk 160 w g (spRow bo q)) ∧ (q.s = 0 → q.r = 0 ∧ q.c = 0)
def SpObj (n bo : Nat) (w : World) (s : SpS) (FO : Nat → Prop) : Prop := FO bo ∧ RowBlk 4 w bo (prVs n s.nm)
def spK (n bo : Nat) : MachRel spM where
  objs := [spObjV n bo]
  Obj := SpObj n bo
  Op := SpOpR bo
  obj_keep := fun h hb hG => ⟨hG _ h.1, h.2.same (hb _ h.1)⟩
  op_keep := fun h hb hG => by
    obtain ⟨g, h1, h2, h3⟩ := h
    exact ⟨g, h1, fun h5 => ⟨hG g (h2 h5).1, (h2 h5).2.same (hb g (h2 h5).1)⟩, h3⟩
  op_iface := fun h => by obtain ⟨g, h1, _⟩ := h; exact ⟨_, _, h1⟩
theorem spI_meth (n bo : Nat) (w : World) : (method 276 146 (spArg n bo) "Invoke").run Try.prog w = .ok (71, spArg n bo) w := by kernel_rfl
theorem spI_enter (args : Array Value) (w : World) : (callFunc 71 args).run Try.prog w = .ok (.enter 71 args) w := by kernel_rfl
theorem spS_meth (v : Value) (w : World) : (method 276 157 v "Step").run Try.prog w = .ok (73, v) w := by kernel_rfl
theorem spS_enter (args : Array Value) (w : World) : (callFunc 73 args).run Try.prog w = .ok (.enter 73 args) w := by kernel_rfl
theorem noKey_sp (v : Value) : NoKey (.iface 157 v) := fun w => run_typeAssert_lacksB Try.underlying126 (by kernel_rfl) (by kernel_rfl) v 110 w
theorem sp_invC (n bo : Nat) (hn : n ≤ 16) (s : SpS) (x : CallV) (ht : 0 ≤ x.t ∧ x.t < n) (W : World) (FO : Nat → Prop) (hO : SpObj n bo W s FO) (hlt : ∀ b, FO b → b < W.heap.size) : InvC (spK n bo) (spObjV n bo) x (spInv s x) FO W := by
  refine ⟨_, spArg n bo, _, rfl, spI_meth n bo, spI_enter, fun W' hW' => ?_⟩
  have hp' : RowBlk 4 W' bo (prVs n s.nm) := hO.2.same (hW'.block _ hO.2.lt)
  have hFO : ∀ w' : World, W'.heap.size ≤ w'.heap.size → ∀ (F : Nat → Prop), (∀ b, F b → W'.heap.size ≤ b) → ∀ b, FO b → b < w'.heap.size ∧ (FO b ∨ W'.heap.size ≤ b) ∧ ¬ F b := fun w' hs F hF b h => by
    have h1 := hlt b h
    have h2 := hW'.size
    exact ⟨by omega, .inl h, fun h3 => by have := hF b h3; omega⟩
  have bad : ∀ (er : Nat), er ≤ 1000 → er ≠ 0 → spInv s x = (s, .inr er) → Calls Try.prog 71 #[spArg n bo, callAgg x] W' (fun en w' => en = .returned (.tuple #[.nilIface, .int .i64 (er : Int)]) ∧ Below W'.heap.size W' w') →
      Calls Try.prog 71 #[spArg n bo, callAgg x] W' (InvRel (spK n bo) (spInv s x) FO W') := fun er h1000 hne hin hr => by
    refine hr.mono fun en w' ⟨hen, hb⟩ => ?_
    rw [hin]
    exact ⟨ButS.of_below hb, .nilIface, er, fun _ => False, FO, hen, ⟨hO.1, hp'.same (hb.block _ hp'.lt)⟩, ⟨by unfold opOf; rw [if_neg (by omega)], h1000⟩, fun b h => h.elim, hFO w' hb.size _ (fun b h => h.elim)⟩
  by_cases k0 : x.k = 0
  · obtain ⟨i1, i2⟩ := sp_inv n bo x.t.toNat s.nm x W' hn k0 (by omega) (by omega) hp'
    by_cases kp : s.nm x.t.toNat = true
    · exact bad 8 (by decide) (by decide) (by unfold spInv; rw [if_neg (by simp [k0]), if_pos kp]) (i1 kp)
    · have hin : spInv s x = (s, .inl ⟨x.t.toNat, 0, 0, 0, []⟩) := by unfold spInv; rw [if_neg (by simp [k0]), if_neg kp]
      rw [hin]
      refine (i2 (by simpa using kp)).mono fun en w' ⟨g, hen, hr, hg, hb⟩ => ?_
      have hgl := hr.lt
      refine ⟨ButS.of_below hb, _, 0, fun b => b = g, FO, hen, ⟨hO.1, hp'.same (hb.block _ hp'.lt)⟩, ?_, fun b h => h ▸ ⟨hg, hgl⟩, hFO w' hb.size _ (fun b h => h ▸ hg)⟩
      show SpOpR bo w' (opOf (.iface 157 (.pointer (some ⟨g, 0, none⟩))) 0) _ _
      unfold opOf; rw [if_pos rfl]
      exact ⟨g, rfl, fun _ => ⟨rfl, by unfold spRow; rw [if_pos rfl]; exact hr⟩, fun _ => ⟨rfl, rfl⟩⟩
  · exact bad 9 (by decide) (by decide) (by unfold spInv; rw [if_pos k0]) (sp_bad9 n bo x W' k0)
theorem sp_stepC (n bo : Nat) (hn : 1 ≤ n ∧ n ≤ 16) (cs : List CallV) (st : St spM) (e : Nat) (v : Ev spM) (q : SpQ) (hI : SpF n cs st) (hv : st.evs[e]? = some v) (hq : v.q = .inl q) (hr0 : v.resp = 0) (hcn : st.cn.r + st.cn.w + st.cn.s + st.cn.a < st.ticks ∧ st.cn.f = 0) (ht : st.ticks ≤ 70000) (W : World) (opv : Value) (bm bw : Nat) (F FO : Nat → Prop)
    (hop : SpOpR bo W opv q F) (hOb : SpObj n bo W st.s FO) (hM : MemIs 108 W bm bw st.ws st.cn) (hs : Sep bm bw F FO W) : StepC (spK n bo) (stepQ (M := spM) st.s (.inl q) st.ws st.cn st.ticks) st.ticks opv bm bw F FO W := by
  obtain ⟨g, rfl, hrow0, hz0⟩ := hop
  have hopa : opAt st.evs e = some q := opAt_iff.2 ⟨v, hv, hq⟩
  obtain ⟨t1, _⟩ := hI.w.th e q hopa
  obtain ⟨x, hx⟩ := hI.ev e v q hv hq
  have hst := hx.run hr0
  obtain ⟨hFg, hrow⟩ := hrow0 (by omega)
  have hgr := hI.w.grid (L := st.evs.length) (fun e q h => opAt_lt h) hopa
  have hlen := hI.w.len
  have hnl := spName_lt hgr
  have htl : tri n ≤ 136 := by
    have h1 := tri_mono hn.2
    have h2 : tri 16 = 136 := by decide
    omega
  refine ⟨_, _, _, rfl, spS_meth _, spS_enter, fun W' hW' => ?_⟩
  have hM' : MemIs 108 W' bm bw st.ws st.cn := hM.of_blocks (hW'.block _ hM.lt1) (hW'.block _ hM.lt2)
  have hr' := hrow.same (hW'.block _ hrow.lt)
  have hp' : RowBlk 4 W' bo (prVs n st.s.nm) := hOb.2.same (hW'.block _ hOb.2.lt)
  have hsb := hs.2 bo hOb.1
  have hsg := hs.1 g hFg
  have more : ∀ (q' : SpQ) (ws' : List Nat) (cn' : Cn), q'.s ≠ 0 → q'.th = q.th → stepQ (M := spM) st.s (.inl q) st.ws st.cn st.ticks = ⟨st.s, .inl q', ws', cn', none⟩ →
      Calls Try.prog 73 #[.pointer (some ⟨g, 0, none⟩), turnAgg bm (st.ticks : Int)] W' (SpMore g bo bm bw q.th q'.s q'.r q'.c (spName q'.r q'.c) (2 * spName q'.r q'.c) (2 * spName q'.r q'.c + 1) ws' cn' W') →
      Calls Try.prog 73 #[.pointer (some ⟨g, 0, none⟩), turnAgg bm (st.ticks : Int)] W' (StepRel (spK n bo) (stepQ (M := spM) st.s (.inl q) st.ws st.cn st.ticks) (.iface 157 (.pointer (some ⟨g, 0, none⟩))) bm bw F FO W') := fun q' ws' cn' hs0 hth hS hc => by
    rw [hS]
    refine hc.mono fun en w' ⟨hen, hm, hb, hrw⟩ => ?_
    have hz := hb.size
    refine ⟨hm, hb.mono (fun b _ h => h.elim .inl (fun h => h.elim (fun h => .inr (.inl h)) (fun h => .inr (.inr (.inl (h ▸ hFg)))))), F, FO, fun b h => ⟨Nat.lt_of_lt_of_le (hs.1 b h).1 (Nat.le_trans hW'.size hz), .inl h⟩, fun b h => ⟨Nat.lt_of_lt_of_le (hs.2 b h).1 (Nat.le_trans hW'.size hz), .inl h, fun h' => (hs.1 b h').2.2.2 h⟩, ⟨hOb.1, hp'.same ?_⟩, ?_, hen⟩
    · exact hb.block bo (Nat.lt_of_lt_of_le hsb.1 hW'.size) (fun h => h.elim hsb.2.1 (fun h => h.elim hsb.2.2 (fun h => hsg.2.2.2 (h ▸ hOb.1))))
    · refine ⟨g, rfl, fun _ => ⟨hFg, ?_⟩, fun h => absurd h hs0⟩
      unfold spRow
      rw [if_neg hs0, hth]; exact hrw
  have hsq := sp_stepQ st.s q st.ws st.cn st.ticks
  unfold spNext spAcc at hsq
  have hrs : q.s ≠ 0 → RowBlk 160 W' g (SpVs bo q.th q.s q.r q.c (spName q.r q.c) (2 * spName q.r q.c) (2 * spName q.r q.c + 1)) := fun h => by unfold spRow at hr'; rw [if_neg h] at hr'; exact hr'
  by_cases c1 : q.s ≤ 1
  · simp only [if_pos c1, Acc.run] at hsq
    refine more ⟨q.th, q.r, q.c, 2, q.h⟩ _ _ (by show 2 ≠ 0; omega) rfl hsq ?_
    by_cases c0 : q.s = 0
    · obtain ⟨z1, z2⟩ := hz0 c0
      have e0 : spName q.r q.c = 0 := by rw [z1, z2]; decide
      have hr0' : RowBlk 160 W' g (SpVs bo q.th 0 0 0 0 0 0) := by unfold spRow at hr'; rw [if_pos c0] at hr'; exact hr'
      have := sp_s0 g bo bm bw q.th st.ws st.cn st.ticks W' hM' hr0' (by omega) (by omega) (by omega) (by omega)
      unfold lastW
      rw [e0, z1, z2]
      exact this
    · have c1' : q.s = 1 := by omega
      have hrr := hrs c0
      rw [c1'] at hrr
      exact sp_s1 g bo bm bw q.th q.r q.c (spName q.r q.c) st.ws st.cn st.ticks W' hM' hrr (by omega) (by omega) (by omega) (by omega)
  · have hrr := hrs (by omega)
    by_cases c2 : q.s = 2
    · rw [c2] at hrr
      simp only [if_neg c1, if_pos c2, Acc.run] at hsq
      by_cases hv0 : st.ws.getD (clW q) 0 = 0
      · simp only [if_pos hv0] at hsq
        exact more ⟨q.th, q.r, q.c, 3, q.h⟩ _ _ (by show 3 ≠ 0; omega) rfl hsq (sp_s2n g bo bm bw q.th q.r q.c (spName q.r q.c) st.ws st.cn st.ticks W' hM' hrr (by omega) (by omega) (by omega) (by omega) hv0)
      · simp only [if_neg hv0] at hsq
        exact more ⟨q.th, q.r, q.c + 1, 1, (q.r, q.c, true) :: q.h⟩ _ _ (by show 1 ≠ 0; omega) rfl hsq (sp_s2r g bo bm bw q.th q.r q.c (spName q.r q.c) st.ws st.cn st.ticks W' hM' hrr (by omega) (by omega) (by omega) (by omega) _ rfl hv0 (by omega))
    · by_cases c3 : q.s = 3
      · rw [c3] at hrr
        simp only [if_neg c1, if_neg c2, if_pos c3, Acc.run] at hsq
        exact more ⟨q.th, q.r, q.c, 4, q.h⟩ _ _ (by show 4 ≠ 0; omega) rfl hsq (sp_s3 g bo bm bw q.th q.r q.c (spName q.r q.c) st.ws st.cn st.ticks W' hM' hrr (by omega) (by omega) (by omega) (by omega))
      · have c4 : q.s = 4 := by omega
        rw [c4] at hrr
        simp only [if_neg c1, if_neg c2, if_neg c3, Acc.run] at hsq
        by_cases hv0 : st.ws.getD (lastW q) 0 = q.th + 1
        · simp only [if_pos hv0] at hsq
          rw [hsq]
          refine (sp_s4s g bo bm bw q.th q.r q.c (spName q.r q.c) st.ws st.cn st.ticks W' hM' hrr (by omega) (by omega) (by omega) (by omega) hv0 n st.s.nm hp' t1 hsb.2.2).mono fun en w' ⟨hen, hm, hb, hpn⟩ => ?_
          have hz := hb.size
          refine ⟨hm, hb.mono (fun b _ h => h.elim .inl (fun h => h.elim (fun h => .inr (.inl h)) (fun h => h.elim (fun h => .inr (.inr (.inl (h ▸ hFg)))) (fun h => .inr (.inr (.inr (h ▸ hOb.1))))))), F, FO, fun b h => ⟨Nat.lt_of_lt_of_le (hs.1 b h).1 (Nat.le_trans hW'.size hz), .inl h⟩, fun b h => ⟨Nat.lt_of_lt_of_le (hs.2 b h).1 (Nat.le_trans hW'.size hz), .inl h, fun h' => (hs.1 b h').2.2.2 h⟩, ⟨hOb.1, hpn⟩, ?_, ⟨_, hen, ListAt.nil _ _ _ _⟩⟩
          exact ⟨g, rfl, fun h => absurd rfl h, fun h => by cases h⟩
        · simp only [if_neg hv0] at hsq
          exact more ⟨q.th, q.r + 1, q.c, 1, (q.r, q.c, false) :: q.h⟩ _ _ (by show 1 ≠ 0; omega) rfl hsq (sp_s4d g bo bm bw q.th q.r q.c (spName q.r q.c) st.ws st.cn st.ticks W' hM' hrr (by omega) (by omega) (by omega) (by omega) _ rfl hv0 (by omega))
theorem sp_ok (n bo : Nat) (hn : 1 ≤ n ∧ n ≤ 16) (cs : List CallV) (hth : ∀ x ∈ cs, 0 ≤ x.t ∧ x.t < n) : MachOk (spK n bo) cs (SpF n cs) where
  olen := rfl
  inv := fun st i x _ hx h0 h1 W FO hO hlt => by
    have hx0 : x.o = 0 := by have : (spM.m : Int) = 1 := rfl; omega
    have e : objOf (spK n bo).objs x.o = spObjV n bo := by rw [hx0]; rfl
    rw [e]
    exact sp_invC n bo hn.2 st.s x (hth x (List.mem_of_getElem? hx)) W FO hO hlt
  step := fun st p e v q hI hw hc hv hq hcn ht W opv bm bw F FO hop hOb hM hs => by
    have hr0 : v.resp = 0 := by
      obtain ⟨v', hv', hr, _⟩ := hw.cur p e hc
      rw [hv] at hv'; cases hv'; exact hr
    exact sp_stepC n bo hn cs st e v q hI hv hq hr0 hcn ht W opv bm bw F FO hop hOb hM hs
  key := fun W s q opv F FO hop _ => by
    obtain ⟨g, rfl, _⟩ := hop
    exact .inl ⟨noKey_sp _, rfl⟩
  turn := fun st p i x hI _ hno hx => spF_turn hth hI hno hx
  stepI := fun st p i e v hI hw ht _ hc hv => by
    obtain ⟨v', hv', hr, _⟩ := hw.cur p e hc
    rw [hv] at hv'; cases hv'
    exact spF_step hI ht hc hv hr
  idle := fun st hI => spF_idle hI
theorem spSizeC (n : Nat) (hn : n ≤ 16) : SizeC 61 (.agg #[]) (n : Int) ((2 * tri n : Nat) : Int) 0 := ⟨61, fun w' => by kernel_rfl, fun args w' => by kernel_rfl, fun W => spSize n hn W⟩
theorem spPlaceC (n : Nat) (hn : 1 ≤ n ∧ n ≤ 16) (cs : List CallV) (hth : ∀ x ∈ cs, 0 ≤ x.t ∧ x.t < n) : PlaceC (M := spM) cs (SpF n cs) sp0 61 (.agg #[]) (n : Int) := ⟨60, fun w' => by kernel_rfl, fun args w' => by kernel_rfl, fun W => (spPlace n hn.2 W).mono fun e w' ⟨bo, he, hr, hbo, hb⟩ =>
  ⟨spObjV n bo, he, ⟨spK n bo, fun b => b = bo, ⟨_, _, rfl⟩, rfl, sp_ok n bo hn cs hth, ⟨rfl, hr⟩, fun b h => h ▸ ⟨hbo, hr.lt⟩⟩, hb⟩⟩
theorem spNotFilled : NotFilled 61 (.agg #[]) := fun w => run_typeAssert_lacksB Try.underlying100 (by kernel_rfl) (by kernel_rfl) (.agg #[]) 50 w
theorem spCheck_threads {n : Int} {cs : List CallV} {np : Nat} (h : checkL n (thr cs) np = 0) : (1 ≤ n.toNat ∧ n.toNat ≤ 16) ∧ n = (n.toNat : Int) ∧ ∀ x ∈ cs, 0 ≤ x.t ∧ x.t < (n.toNat : Int) := by
  have h2 := check_zero h
  have h3 := wrongL_threads h2.1
  refine ⟨by omega, by omega, fun x hx => ?_⟩
  have := h3.2 x.t (List.mem_map.2 ⟨x, hx, rfl⟩)
  omega
theorem sp_play (n : Int) (ao : Option Addr) (b o cap : Nat) (cs : List CallV) (ao3 : Option Addr) (b3 o3 cap3 : Nat) (picks : List Int) (w : World) (ha : 0 < cs.length → ao = some ⟨b, o, none⟩) (hb : 0 < cs.length → b < w.heap.size) (hc : CallsAt w b o cs) (hcap : ao = none → cap = 0)
    (ha3 : 0 < picks.length → ao3 = some ⟨b3, o3, none⟩) (hb3 : 0 < picks.length → b3 < w.heap.size) (hc3 : ICells w b3 o3 picks) (hnp : picks.length ≤ 9223372036854775807) :
    Calls Try.prog 8 #[.int .i64 n, .slice ao cs.length cap, .slice ao3 picks.length cap3] w (PlayG spM n 0 cs (List.replicate (2 * tri n.toNat) 0) sp0 picks w) :=
  spPlay_any n (SpF n.toNat cs) (2 * tri n.toNat) 0 ao b o cap cs ao3 b3 o3 cap3 picks w ha hb hc hcap ha3 hb3 hc3 hnp (fun h => by obtain ⟨h1, h2, _⟩ := spCheck_threads h; have := spSizeC n.toNat h1.2; rw [← h2] at this; exact this) (fun h _ => by
    obtain ⟨h1, h2, h3⟩ := spCheck_threads h
    have hp := spPlaceC n.toNat h1 cs h3
    rw [← h2] at hp
    have h4 := tri_mono h1.2
    have h5 := tri_mono h1.1
    have h6 : tri 16 = 136 := by decide
    have h7 : tri 1 = 1 := by decide
    exact ⟨spNotFilled, hp, by omega, by omega, spF_first⟩)
end Go.Proofs.Ytglpalomhhhmhaa
