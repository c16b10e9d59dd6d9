/- Adopters at the program: MachRel, MachOk; Play. -/
import Derived.Test.YtglpalomhhhmhaaAD6
import Derived.Test.YtglpalomhhhmhaaAD8
namespace Go.Proofs.Ytglpalomhhhmhaa
open Go.RowKit
set_option linter.unusedVariables false
set_option linter.unusedSimpArgs false
/-- a row that the operation has to itself -/
def AdOpR (n bo : Nat) (w : World) (v : Value) (q : AdQ) (F : Nat → Prop) : Prop :=
  ∃ g ao cp, v = .iface 161 (.pointer (some ⟨g, 0, none⟩)) ∧ F g ∧ RowBlk 163 w g (AdVs n bo q.th q.num q.stp q.oth (.slice ao q.seen.length cp)) ∧ w.ownsRow 0 37 1 (.slice ao q.seen.length cp) q.seen.length (q.seen.map mkU) ∧ ∀ k, (Value.slice ao q.seen.length cp).ownBlock = some k → F k
def AdObj (n bo : Nat) (w : World) (s : AdS) (FO : Nat → Prop) : Prop := FO bo ∧ RowBlk 4 w bo (prVs n s.pr)
def adK (n bo : Nat) : MachRel (adM n) where
  objs := [adObjV n bo]
  Obj := AdObj n bo
  Op := AdOpR n bo
  obj_keep := fun h hb hG => ⟨hG _ h.1, h.2.same (hb _ h.1)⟩
  op_keep := fun h hb hG => by
    obtain ⟨g, ao, cp, h1, h2, h3, h4, h5⟩ := h
    exact ⟨g, ao, cp, h1, hG g h2, h3.same (hb g h2), owns_sameB h4 (fun k hk => hb k (h5 k hk)), fun k hk => hG k (h5 k hk)⟩
  op_iface := fun h => by obtain ⟨g, ao, cp, h1, _⟩ := h; exact ⟨_, _, h1⟩
theorem adI_meth (n bo : Nat) (w : World) : (method 276 150 (adArg n bo) "Invoke").run Try.prog w = .ok (72, adArg n bo) w := by kernel_rfl
theorem adI_enter (args : Array Value) (w : World) : (callFunc 72 args).run Try.prog w = .ok (.enter 72 args) w := by kernel_rfl
theorem adS_meth (v : Value) (w : World) : (method 276 161 v "Step").run Try.prog w = .ok (75, v) w := by kernel_rfl
theorem adS_enter (args : Array Value) (w : World) : (callFunc 75 args).run Try.prog w = .ok (.enter 75 args) w := by kernel_rfl
theorem noKey_ad (v : Value) : NoKey (.iface 161 v) := fun w => run_typeAssert_lacksB Try.underlying126 (by kernel_rfl) (by kernel_rfl) v 110 w
/-- Invoke, as a machine makes it -/
theorem ad_invC (n bo : Nat) (hn : n ≤ 16) (s : AdS) (x : CallV) (ht : 0 ≤ x.t ∧ x.t < n) (W : World) (FO : Nat → Prop) (hO : AdObj n bo W s FO) (hlt : ∀ b, FO b → b < W.heap.size) : InvC (adK n bo) (adObjV n bo) x (adInv s x) FO W := by
  refine ⟨_, adArg n bo, _, rfl, adI_meth n bo, adI_enter, fun W' hW' => ?_⟩
  have hp' : RowBlk 4 W' bo (prVs n s.pr) := hO.2.same (hW'.block _ hO.2.lt)
  have hFO : ∀ w' : World, W'.heap.size ≤ w'.heap.size → ∀ (F : Nat → Prop), (∀ b, F b → W'.heap.size ≤ b) → ∀ b, FO b → b < w'.heap.size ∧ (FO b ∨ W'.heap.size ≤ b) ∧ ¬ F b := fun w' hs F hF b h => by
    have h1 := hlt b h
    have h2 := hW'.size
    exact ⟨by omega, .inl h, fun h3 => by have := hF b h3; omega⟩
  have bad : ∀ (er : Nat), er ≤ 1000 → er ≠ 0 → adInv s x = (s, .inr er) → Calls Try.prog 72 #[adArg n bo, callAgg x] W' (fun en w' => en = .returned (.tuple #[.nilIface, .int .i64 (er : Int)]) ∧ Below W'.heap.size W' w') →
      Calls Try.prog 72 #[adArg n bo, callAgg x] W' (InvRel (adK n bo) (adInv s x) FO W') := fun er h1000 hne hin hr => by
    refine hr.mono fun en w' ⟨hen, hb⟩ => ?_
    rw [hin]
    exact ⟨ButS.of_below hb, .nilIface, er, fun _ => False, FO, hen, ⟨hO.1, hp'.same (hb.block _ hp'.lt)⟩, ⟨by unfold opOf; rw [if_neg (by omega)], h1000⟩, fun b h => h.elim, hFO w' hb.size _ (fun b h => h.elim)⟩
  by_cases k0 : x.k = 0
  · by_cases ka : 2147483648 ≤ x.a
    · exact bad 10 (by decide) (by decide) (by unfold adInv; rw [if_neg (by simp [k0]), if_pos ka]) (ad_bad10 n bo x W' k0 ka)
    · obtain ⟨i1, i2⟩ := ad_inv n bo x.t.toNat s.pr x W' hn k0 (by omega) (by omega) (by omega) hp'
      by_cases kp : s.pr x.t.toNat = true
      · exact bad 8 (by decide) (by decide) (by unfold adInv; rw [if_neg (by simp [k0]), if_neg ka, if_pos kp]) (i1 kp)
      · have hin : adInv s x = (⟨setB s.pr x.t.toNat⟩, .inl ⟨x.t.toNat, x.a + 1, 0, false, []⟩) := by unfold adInv; rw [if_neg (by simp [k0]), if_neg ka, if_neg kp]
        rw [hin]
        refine (i2 (by simpa using kp)).mono fun en w' ⟨g, hen, hr, hp, hg, hb⟩ => ?_
        have hgl := hr.lt
        refine ⟨hb.mono (fun b _ h => h ▸ hO.1), _, 0, fun b => b = g, FO, hen, ⟨hO.1, hp⟩, ?_, fun b h => h ▸ ⟨hg, hgl⟩, hFO w' hb.size _ (fun b h => h ▸ hg)⟩
        show AdOpR n bo w' (opOf (.iface 161 (.pointer (some ⟨g, 0, none⟩))) 0) _ _
        unfold opOf; rw [if_pos rfl]
        exact ⟨g, none, 0, rfl, rfl, hr, World.ownsRow_nil _ _ _ _, fun k hk => by cases hk⟩
  · exact bad 9 (by decide) (by decide) (by unfold adInv; rw [if_pos k0]) (ad_bad9 n bo x W' k0)
theorem AdW.markB {n : Nat} {ws : List Nat} {pv : Nat → Bool} {O : Nat → Option AdQ} (h : AdW n ws pv O) {j : Nat} (hj : j < n) : ws.getD (n + j) 0 < 8589934592 ∧ (ws.getD (n + j) 0 % 2 = 1 → 2 ≤ ws.getD (n + j) 0) := by
  by_cases h0 : ws.getD (n + j) 0 = 0
  · rw [h0]; exact ⟨by decide, fun h => by cases h⟩
  · obtain ⟨e, q, he, rfl⟩ := h.mark0 j hj h0
    have hm := h.mark e q he
    obtain ⟨t1, t2, t3, _⟩ := h.th e q he
    split at hm
    · exact absurd hm h0
    · rw [hm]
      unfold adMark
      cases q.oth <;> exact ⟨by simp; omega, fun _ => by omega⟩
theorem ad_stepRel {n bo bm bw : Nat} {F FO : Nat → Prop} {W0 W w' : World} {s : AdS} {en : Ending} {opv : Value} (hO : AdObj n bo W0 s FO) (hs : Sep bm bw F FO W0) (r : Out (adM n)) (q' : AdQ) (F' : Nat → Prop) (hW : Below W0.heap.size W0 W) (h1 : ∀ b, F' b → b < w'.heap.size ∧ (F b ∨ W.heap.size ≤ b)) (h2 : r.s = s) (h3 : r.q = .inl q') (hm : MemIs 108 w' bm bw r.ws r.cn) (hb : ButS (fun b => b = bm ∨ b = bw ∨ F b) W w') (ho : AdOpR n bo w' opv q' F') (ha : AnsOut (fun b => (F b ∨ W.heap.size ≤ b) ∧ ¬ F' b ∧ ¬ FO b) en w' r.ans) : StepRel (adK n bo) r opv bm bw F FO W en w' := by
  have hz := hW.size
  have hz2 := hb.size
  refine ⟨hm, hb.mono (fun b _ h => h.elim .inl (fun h => h.elim (fun h => .inr (.inl h)) (fun h => .inr (.inr (.inl h))))), F', FO, h1, fun b h => ⟨Nat.lt_of_lt_of_le (hs.2 b h).1 (Nat.le_trans hz hz2), .inl h, fun h' => ?_⟩, ?_, by rw [h3]; exact ho, ha⟩
  · have h4 := (h1 b h').2
    exact h4.elim (fun h5 => (hs.1 b h5).2.2.2 h) (fun h5 => by have := (hs.2 b h).1; omega)
  · rw [h2]
    refine ⟨hO.1, hO.2.same ?_⟩
    have h4 := hs.2 bo hO.1
    exact (hb.block bo (Nat.lt_of_lt_of_le h4.1 hz) (fun h => h.elim h4.2.1 (fun h => h.elim h4.2.2 (fun h => (hs.1 bo h).2.2.2 hO.1)))).trans (hW.block bo h4.1)
theorem ad_stepC (n bo : Nat) (hn : 1 ≤ n ∧ n ≤ 16) (cs : List CallV) (st : St (adM n)) (e : Nat) (v : Ev (adM n)) (q : AdQ) (hI : AdF n cs st) (hv : st.evs[e]? = some v) (hq : v.q = .inl q) (hr0 : v.resp = 0) (hcn : st.cn.r + st.cn.w + st.cn.s + st.cn.a < st.ticks ∧ st.cn.f = 0) (ht : st.ticks ≤ 70000) (W : World) (opv : Value) (bm bw : Nat) (F FO : Nat → Prop)
    (hop : AdOpR n bo W opv q F) (hOb : AdObj n bo W st.s FO) (hM : MemIs 108 W bm bw st.ws st.cn) (hs : Sep bm bw F FO W) : StepC (adK n bo) (stepQ (M := adM n) st.s (.inl q) st.ws st.cn st.ticks) st.ticks opv bm bw F FO W := by
  obtain ⟨g, ao, cp, rfl, hFg, hrow, how, hoF⟩ := hop
  have hopa : opAt st.evs e = some q := opAt_iff.2 ⟨v, hv, hq⟩
  obtain ⟨t1, t2, t3, t4, t5⟩ := hI.w.th e q hopa
  obtain ⟨x, hx⟩ := hI.ev e v q hv hq
  have hst := hx.run hr0
  have hlen := hI.w.len
  refine ⟨_, _, _, rfl, adS_meth _, adS_enter, fun W' hW' => ?_⟩
  have hM' : MemIs 108 W' bm bw st.ws st.cn := hM.of_blocks (hW'.block _ hM.lt1) (hW'.block _ hM.lt2)
  have hr' := hrow.same (hW'.block _ hrow.lt)
  have how' : W'.ownsRow 0 37 1 (.slice ao q.seen.length cp) q.seen.length (q.seen.map mkU) := owns_sameB how (fun k hk => hW'.block k (hs.1 k (hoF k hk)).1)
  have hgo : (Value.slice ao q.seen.length cp).ownBlock ≠ some g := row_owns_ne hr' how' (by decide)
  -- an operation whose row of marks stays
  have more : ∀ (q' : AdQ) (oth : Bool) (ws' : List Nat) (cn' : Cn), q' = ⟨q.th, q.num, q.stp + 1, oth, q.seen⟩ → stepQ (M := adM n) st.s (.inl q) st.ws st.cn st.ticks = ⟨st.s, .inl q', ws', cn', none⟩ →
      Calls Try.prog 75 #[.pointer (some ⟨g, 0, none⟩), turnAgg bm (st.ticks : Int)] W' (AdMore n bo g bm bw q.th q.num (q.stp + 1) oth (.slice ao q.seen.length cp) ws' cn' W') →
      Calls Try.prog 75 #[.pointer (some ⟨g, 0, none⟩), turnAgg bm (st.ticks : Int)] W' (StepRel (adK n bo) (stepQ (M := adM n) st.s (.inl q) st.ws st.cn st.ticks) (.iface 161 (.pointer (some ⟨g, 0, none⟩))) bm bw F FO W') := fun q' oth ws' cn' hq' hS hc => by
    rw [hS]
    refine hc.mono fun en w' ⟨hen, hm, hb, hrw⟩ => ?_
    have hz := hb.size
    refine ad_stepRel hOb hs _ q' F hW' (fun b h => ⟨Nat.lt_of_lt_of_le (hs.1 b h).1 (Nat.le_trans hW'.size hz), .inl h⟩) rfl rfl hm (hb.mono (fun b _ h => h.elim .inl (fun h => h.elim (fun h => .inr (.inl h)) (fun h => .inr (.inr (h ▸ hFg)))))) ?_ hen
    subst hq'
    refine ⟨g, ao, cp, rfl, hFg, hrw, owns_sameB how' (fun k hk => ?_), hoF⟩
    have h3 := hs.1 k (hoF k hk)
    exact hb.block k (Nat.lt_of_lt_of_le h3.1 hW'.size) (fun h => h.elim h3.2.1 (fun h => h.elim h3.2.2.1 (fun h => hgo (h ▸ hk))))
  have hsq := ad_stepQ (n := n) st.s q st.ws st.cn st.ticks
  by_cases c0 : q.stp = 0
  · have hl0 : q.seen.length < n := by omega
    refine more ⟨q.th, q.num, q.stp + 1, q.oth, q.seen⟩ q.oth (st.ws.set q.th q.num) { st.cn with w := st.cn.w + 1 } rfl ?_ ?_
    · rw [hsq]
      unfold adAcc adNext
      simp only [if_pos c0, Acc.run]
      rw [c0]
    · rw [c0] at hr' ⊢
      exact ad_s0 n bo g bm bw q.th q.num q.oth ao q.seen.length cp st.ws st.cn st.ticks W' hM' hr' hn t1 (by omega) hlen (by omega) hl0 (by omega)
  · by_cases c1 : q.stp ≤ n
    · have hl0 : q.seen.length < n := by omega
      obtain ⟨r, hr⟩ : ∃ r, st.ws.getD (q.stp - 1) 0 = r := ⟨_, rfl⟩
      have hSS : ∀ oth : Bool, (q.oth || decide (r ≠ 0 ∧ r ≠ q.num)) = oth → stepQ (M := adM n) st.s (.inl q) st.ws st.cn st.ticks = ⟨st.s, .inl ⟨q.th, q.num, q.stp + 1, oth, q.seen⟩, st.ws, { st.cn with r := st.cn.r + 1 }, none⟩ := fun oth ho => by
        rw [hsq]
        unfold adAcc adNext
        simp only [if_neg c0, if_pos c1, Acc.run]
        rw [hr, ho]
      cases ho : q.oth with
      | true =>
        rw [ho] at hr'
        exact more _ true _ _ rfl (hSS true (by rw [ho, Bool.true_or])) (ad_s1t n bo g bm bw q.th q.num q.stp r ao q.seen.length cp st.ws st.cn st.ticks W' hM' hr' hn t1 (by omega) hlen (by omega) hl0 ⟨by omega, c1⟩ (by omega) hr)
      | false =>
        rw [ho] at hr'
        by_cases r0 : r = 0
        · exact more _ false _ _ rfl (hSS false (by rw [ho, Bool.false_or]; exact decide_eq_false (fun h => h.1 r0))) (ad_s1z n bo g bm bw q.th q.num q.stp r ao q.seen.length cp st.ws st.cn st.ticks W' hM' hr' hn t1 (by omega) hlen (by omega) hl0 ⟨by omega, c1⟩ (by omega) hr r0)
        · by_cases r1 : r = q.num
          · exact more _ false _ _ rfl (hSS false (by rw [ho, Bool.false_or]; exact decide_eq_false (fun h => h.2 r1))) (ad_s1s n bo g bm bw q.th q.num q.stp r ao q.seen.length cp st.ws st.cn st.ticks W' hM' hr' hn t1 (by omega) hlen (by omega) hl0 ⟨by omega, c1⟩ (by omega) hr r0 r1)
          · exact more _ true _ _ rfl (hSS true (by rw [ho, Bool.false_or]; exact decide_eq_true ⟨r0, r1⟩)) (ad_s1d n bo g bm bw q.th q.num q.stp r ao q.seen.length cp st.ws st.cn st.ticks W' hM' hr' hn t1 (by omega) hlen (by omega) hl0 ⟨by omega, c1⟩ (by omega) hr r0 r1)
    · by_cases c2 : q.stp = n + 1
      · have hl0 : q.seen.length < n := by omega
        refine more ⟨q.th, q.num, q.stp + 1, q.oth, q.seen⟩ q.oth (st.ws.set (n + q.th) (adMark q.num q.oth)) { st.cn with w := st.cn.w + 1 } rfl ?_ ?_
        · rw [hsq]
          unfold adAcc adNext
          simp only [if_neg c0, if_neg c1, if_pos c2, Acc.run]
        · exact ad_s2 n bo g bm bw q.th q.num q.stp q.oth ao q.seen.length cp st.ws st.cn st.ticks W' hM' hr' hn t1 (by omega) hlen (by omega) hl0 c2 (by omega)
      · have hl0 : q.seen.length < n := by omega
        have hkl : q.stp = n + 2 + q.seen.length := by omega
        have hj : q.stp - (n + 2) = q.seen.length := t5.symm
        obtain ⟨r, hr⟩ : ∃ r, st.ws.getD (n + q.seen.length) 0 = r := ⟨_, rfl⟩
        have hSS : stepQ (M := adM n) st.s (.inl q) st.ws st.cn st.ticks = ⟨st.s, .inl ⟨q.th, q.num, q.stp + 1, q.oth, q.seen ++ [r]⟩, st.ws, { st.cn with r := st.cn.r + 1 }, if q.seen.length + 1 < n then none else some ⟨0, adRes q.num (q.seen ++ [r]), []⟩⟩ := by
          rw [hsq]
          unfold adAcc adNext
          simp only [if_neg c0, if_neg c1, if_neg c2, Acc.run]
          rw [hj, hr]
        have hob : ∀ b, (Value.slice ao q.seen.length cp).ownBlock = some b → b ≠ bw := fun b hb => (hs.1 b (hoF b hb)).2.2.1
        have took : ∀ (av : Option Nat) (a : Option Ans), (∀ y, av = some y → a = some ⟨0, y, []⟩) → (av = none → a = none) → ∀ en w', AdTook n bo g bm bw q.th q.num (q.stp + 1) q.oth (.slice ao q.seen.length cp) q.seen r av st.ws { st.cn with r := st.cn.r + 1 } W' en w' →
            StepRel (adK n bo) (⟨st.s, .inl ⟨q.th, q.num, q.stp + 1, q.oth, q.seen ++ [r]⟩, st.ws, { st.cn with r := st.cn.r + 1 }, a⟩ : Out (adM n)) (.iface 161 (.pointer (some ⟨g, 0, none⟩))) bm bw F FO W' en w' := fun av a ha1 ha2 en w' ⟨hen, hm, hb, gl, cap, hrw, hown, hgl, hgll⟩ => by
          have hz := hb.size
          refine ad_stepRel hOb hs _ ⟨q.th, q.num, q.stp + 1, q.oth, q.seen ++ [r]⟩ (fun b => F b ∨ b = gl) hW' (fun b h => ?_) rfl rfl hm (hb.mono (fun b _ h => h.elim .inl (fun h => h.elim (fun h => .inr (.inl h)) (fun h => .inr (.inr (h.elim (fun h => h ▸ hFg) (fun h => hoF b h))))))) ?_ ?_
          · rcases h with h | rfl
            · exact ⟨Nat.lt_of_lt_of_le (hs.1 b h).1 (Nat.le_trans hW'.size hz), .inl h⟩
            · exact ⟨hgll, hgl.imp (fun h => hoF b h) id⟩
          · have hll : (q.seen ++ [r]).length = q.seen.length + 1 := by simp
            refine ⟨g, some ⟨gl, 0, none⟩, cap, rfl, .inl hFg, ?_, ?_, fun k hk => .inr (by cases hk; rfl)⟩
            · show RowBlk 163 w' g (AdVs n bo q.th q.num (q.stp + 1) q.oth (.slice (some ⟨gl, 0, none⟩) (q.seen ++ [r]).length cap))
              rw [hll]; exact hrw
            · show w'.ownsRow 0 37 1 (.slice (some ⟨gl, 0, none⟩) (q.seen ++ [r]).length cap) (q.seen ++ [r]).length ((q.seen ++ [r]).map mkU)
              rw [hll]; exact hown
          · cases av with
            | none =>
              have e1 : a = none := ha2 rfl
              subst e1
              exact hen
            | some y =>
              have e1 := ha1 y rfl
              subst e1
              exact ⟨_, hen, ListAt.nil _ _ _ _⟩
        rw [hSS]
        by_cases hlast : q.seen.length + 1 < n
        · rw [if_pos hlast]
          refine (ad_s3M n bo g bm bw q.th q.num q.stp r q.oth ao cp q.seen st.ws st.cn st.ticks W' hM' hr' hn t1 (by omega) hlen (by omega) how' hob hkl hl0 (by omega) (by omega) hr).mono fun en w' h => ?_
          exact took none none (fun y h => by cases h) (fun _ => rfl) en w' h
        · rw [if_neg hlast]
          have hws : ∀ x ∈ q.seen ++ [r], x < 8589934592 ∧ (x % 2 = 1 → 2 ≤ x) := fun x hxm => by
            rcases List.mem_append.1 hxm with h | h
            · obtain ⟨j, hj2⟩ := List.mem_iff_getElem?.1 h
              have hjl := (List.getElem?_eq_some_iff.1 hj2).1
              rcases (hI.w.seen e q j x hopa hj2).1 with rfl | rfl
              · exact ⟨by decide, fun h => by cases h⟩
              · exact hI.w.markB (by omega)
            · rw [List.mem_singleton] at h
              rw [h, ← hr]
              exact hI.w.markB hl0
          refine (ad_s3L n bo g bm bw q.th q.num q.stp r q.oth ao cp q.seen st.ws st.cn st.ticks W' hM' hr' hn t1 (by omega) hlen (by omega) how' hob hkl hl0 (by omega) (by omega) hr t2 hws).mono fun en w' h => ?_
          exact took (some (adRes q.num (q.seen ++ [r]))) _ (fun y h => by cases h; rfl) (fun h => by cases h) en w' h
theorem ad_ok (n bo : Nat) (hn : 1 ≤ n ∧ n ≤ 16) (cs : List CallV) (hth : ∀ x ∈ cs, 0 ≤ x.t ∧ x.t < n) : MachOk (adK n bo) cs (AdF n cs) where
  olen := rfl
  inv := fun st i x _ hx h0 h1 W FO hO hlt => by
    have hx0 : x.o = 0 := by have : ((adM n).m : Int) = 1 := rfl; omega
    have e : objOf (adK n bo).objs x.o = adObjV n bo := by rw [hx0]; rfl
    rw [e]
    exact ad_invC n bo hn.2 st.s x (hth x (List.mem_of_getElem? hx)) W FO hO hlt
  step := fun st p e v q hI hw hc hv hq hcn ht W opv bm bw F FO hop hOb hM hs => by
    have hr0 : v.resp = 0 := by
      obtain ⟨v', hv', hr, _⟩ := hw.cur p e hc
      rw [hv] at hv'; cases hv'; exact hr
    exact ad_stepC n bo hn cs st e v q hI hv hq hr0 hcn ht W opv bm bw F FO hop hOb hM hs
  key := fun W s q opv F FO hop _ => by
    obtain ⟨g, ao, cp, rfl, _⟩ := hop
    exact .inl ⟨noKey_ad _, rfl⟩
  turn := fun st p i x hI _ hno hx => adF_turn hn.1 hth hI hno hx
  stepI := fun st p i e v hI hw ht _ hc hv => by
    obtain ⟨v', hv', hr, _⟩ := hw.cur p e hc
    rw [hv] at hv'; cases hv'
    exact adF_step hn.1 hI ht hc hv hr
  idle := fun st hI => adF_idle hI
theorem adSizeC (n : Nat) (hn : n ≤ 16) : SizeC 64 (.agg #[]) (n : Int) ((2 * n : Nat) : Int) 0 := ⟨65, fun w' => by kernel_rfl, fun args w' => by kernel_rfl, fun W => adSize n hn W⟩
theorem adPlaceC (n : Nat) (hn : 1 ≤ n ∧ n ≤ 16) (cs : List CallV) (hth : ∀ x ∈ cs, 0 ≤ x.t ∧ x.t < n) : PlaceC (M := adM n) cs (AdF n cs) ad0 64 (.agg #[]) (n : Int) := ⟨64, fun w' => by kernel_rfl, fun args w' => by kernel_rfl, fun W => (adPlace n hn.2 W).mono fun e w' ⟨bo, he, hr, hbo, hb⟩ =>
  ⟨adObjV n bo, he, ⟨adK n bo, fun b => b = bo, ⟨_, _, rfl⟩, rfl, ad_ok n bo hn cs hth, ⟨rfl, hr⟩, fun b h => h ▸ ⟨hbo, hr.lt⟩⟩, hb⟩⟩
theorem adNotFilled : NotFilled 64 (.agg #[]) := fun w => run_typeAssert_lacksB Try.underlying100 (by kernel_rfl) (by kernel_rfl) (.agg #[]) 50 w
theorem adCheck_threads {n : Int} {cs : List CallV} {np : Nat} (h : checkL n (thr cs) np = 0) : (1 ≤ n.toNat ∧ n.toNat ≤ 16) ∧ n = (n.toNat : Int) ∧ ∀ x ∈ cs, 0 ≤ x.t ∧ x.t < (n.toNat : Int) := by
  have h2 := check_zero h
  have h3 := wrongL_threads h2.1
  refine ⟨by omega, by omega, fun x hx => ?_⟩
  have := h3.2 x.t (List.mem_map.2 ⟨x, hx, rfl⟩)
  omega
theorem ad_play (n : Int) (ao : Option Addr) (b o cap : Nat) (cs : List CallV) (ao3 : Option Addr) (b3 o3 cap3 : Nat) (picks : List Int) (w : World) (ha : 0 < cs.length → ao = some ⟨b, o, none⟩) (hb : 0 < cs.length → b < w.heap.size) (hc : CallsAt w b o cs) (hcap : ao = none → cap = 0)
    (ha3 : 0 < picks.length → ao3 = some ⟨b3, o3, none⟩) (hb3 : 0 < picks.length → b3 < w.heap.size) (hc3 : ICells w b3 o3 picks) (hnp : picks.length ≤ 9223372036854775807) :
    Calls Try.prog 11 #[.int .i64 n, .slice ao cs.length cap, .slice ao3 picks.length cap3] w (PlayG (adM n.toNat) n 0 cs (List.replicate (2 * n.toNat) 0) ad0 picks w) :=
  adPlay_any n (AdF n.toNat cs) (2 * n.toNat) 0 ao b o cap cs ao3 b3 o3 cap3 picks w ha hb hc hcap ha3 hb3 hc3 hnp (fun h => by obtain ⟨h1, h2, _⟩ := adCheck_threads h; have := adSizeC n.toNat h1.2; rw [← h2] at this; exact this) (fun h _ => by
    obtain ⟨h1, h2, h3⟩ := adCheck_threads h
    have hp := adPlaceC n.toNat h1 cs h3
    rw [← h2] at hp
    exact ⟨adNotFilled, hp, by omega, by omega, adF_first⟩)
end Go.Proofs.Ytglpalomhhhmhaa
