/- The pool at the program: MachOk; Size, Place, Play. -/
import Derived.Test.YtebfkkgemccbfaaPO4
import Derived.Test.YtebfkkgemccbfaaPO5
import Derived.Test.YtebfkkgemccbfaaPO2
namespace Go.Proofs.Ytebfkkgemccbfaa
open Go.RowKit
set_option linter.unusedVariables false
def poolObj (n k : Nat) : Value := .iface 185 (.agg #[.int .i64 (k : Int), .int .i64 ((n * k : Nat) : Int), .int .i64 0])
def PoolOpR (n k : Nat) (w : World) (v : Value) (F : Nat → Prop) : PoolQ → Prop
  | .rel a u => v = .iface 216 (.agg #[.int .i64 (a : Int), .int .u64 (u : Int)])
  | .look p E => ∃ g f0, v = .iface 212 (.pointer (some ⟨g, 0, none⟩)) ∧ F g ∧ RowBlk 214 w g (AlcVs k (n * k) (p + 2) (E + 2) false f0 false 0)
  | .mark p E x => ∃ g, v = .iface 212 (.pointer (some ⟨g, 0, none⟩)) ∧ F g ∧ RowBlk 214 w g (AlcVs k (n * k) (p + 2) (E + 2) true x false 0)
  | .done => ∃ g, v = .iface 212 (.pointer (some ⟨g, 0, none⟩))
def poolK (n k : Nat) : MachRel (poolM n k) where
  objs := [poolObj n k]
  Obj := fun _ _ _ => True
  Op := fun w v q F => PoolOpR n k w v F q
  obj_keep := fun _ _ _ => trivial
  op_keep := fun {w w' v q F G} h hb hG => by
    match q, h with
    | .rel a u, h => exact h
    | .look p E, h =>
      obtain ⟨g, f0, h1, h2, h3⟩ := h
      exact ⟨g, f0, h1, hG g h2, h3.same (hb g h2)⟩
    | .mark p E x, h =>
      obtain ⟨g, h1, h2, h3⟩ := h
      exact ⟨g, h1, hG g h2, h3.same (hb g h2)⟩
    | .done, h => exact h
  op_iface := fun {w v q F} h => by
    match q, h with
    | .rel a u, h => exact ⟨_, _, h⟩
    | .look p E, h => obtain ⟨g, f0, h1, _⟩ := h; exact ⟨_, _, h1⟩
    | .mark p E x, h => obtain ⟨g, h1, _⟩ := h; exact ⟨_, _, h1⟩
    | .done, h => obtain ⟨g, h1⟩ := h; exact ⟨_, _, h1⟩
theorem poolM_meth (a b c : Int) (w : World) : (method 340 185 (.agg #[.int .i64 a, .int .i64 b, .int .i64 c]) "Invoke").run Try.prog w = .ok (118, .agg #[.int .i64 a, .int .i64 b, .int .i64 c]) w := by kernel_rfl
theorem poolM_enter (args : Array Value) (w : World) : (callFunc 118 args).run Try.prog w = .ok (.enter 118 args) w := by kernel_rfl
theorem noKey_rel (v : Value) : NoKey (.iface 216 v) := fun w => run_typeAssert_lacksB Try.underlying159 (by kernel_rfl) (by kernel_rfl) v 135 w
theorem noKey_alc (v : Value) : NoKey (.iface 212 v) := fun w => run_typeAssert_lacksB Try.underlying159 (by kernel_rfl) (by kernel_rfl) v 135 w
theorem area_le {n k tn : Nat} (h : tn < n) : tn * k + k ≤ n * k := by rw [← Nat.succ_mul]; exact Nat.mul_le_mul_right k h
theorem pool_ok (n k : Nat) (hn : 1 ≤ n ∧ n ≤ 16) (hk : 1 ≤ k ∧ k ≤ 32) (cs : List CallV) (hth : ∀ x ∈ cs, 0 ≤ x.t ∧ x.t < n) (hca : ∀ x ∈ cs, x.a ≤ 18446744073709551615) : MachOk (poolK n k) cs (PoolF n k cs) where
  olen := rfl
  inv := fun st i x _ hx h0 h1 W FO _ hlt => by
    have hm : ((poolM n k).m : Int) = 1 := rfl
    have hx0 : x.o = 0 := by omega
    have ht := hth x (List.mem_of_getElem? hx)
    have hxa := hca x (List.mem_of_getElem? hx)
    have hnk : n * k ≤ 512 := Nat.le_trans (Nat.mul_le_mul hn.2 hk.2) (by decide)
    have e : objOf (poolK n k).objs x.o = poolObj n k := by rw [hx0]; rfl
    rw [e]
    refine ⟨_, _, _, rfl, poolM_meth _ _ _, poolM_enter, fun W' hW' => ?_⟩
    have mk : ∀ (er : Nat), er ≤ 1000 → er ≠ 0 → ((poolM n k).inv st.s x) = (st.s, .inr er) → Calls Try.prog 118 #[.agg #[.int .i64 (k : Int), .int .i64 ((n * k : Nat) : Int), .int .i64 0], callAgg x] W' (fun en w' => en = .returned (.tuple #[.nilIface, .int .i64 (er : Int)]) ∧ Below W'.heap.size W' w') →
        Calls Try.prog 118 #[.agg #[.int .i64 (k : Int), .int .i64 ((n * k : Nat) : Int), .int .i64 0], callAgg x] W' (InvRel (poolK n k) ((poolM n k).inv st.s x) FO W') := fun er h1000 hne hin hc => hc.mono fun en w' ⟨hen, hb⟩ => by
      rw [hin]
      exact ⟨ButS.of_below hb, .nilIface, er, fun _ => False, FO, hen, trivial, ⟨by unfold opOf; rw [if_neg (by omega)], h1000⟩, fun b h => h.elim, fun b h => ⟨Nat.lt_of_lt_of_le (hlt b h) (Nat.le_trans hW'.size hb.size), .inl h, id⟩⟩
    by_cases k0 : x.k = 0
    · have hin : (poolM n k).inv st.s x = (st.s, .inl (.look (x.t.toNat * k) (x.t.toNat * k + k))) := by rw [pool_inv_eq, if_pos k0]
      refine (pool_alloc k (n * k) x.t.toNat x W' k0 (by omega) (by omega) hk.2).mono fun en w' ⟨g, hen, hr, hg, hb⟩ => ?_
      rw [hin]
      refine ⟨ButS.of_below hb, _, 0, fun b => b = g, FO, hen, trivial, ?_, fun b h => ?_, fun b h => ⟨Nat.lt_of_lt_of_le (hlt b h) (Nat.le_trans hW'.size hb.size), .inl h, fun e => ?_⟩⟩
      · exact ⟨g, 0, by unfold opOf; rw [if_pos rfl], rfl, hr⟩
      · have l1 := hr.lt
        subst h
        exact ⟨hg, l1⟩
      · have h3 := hlt b h
        have h4 := hW'.size
        subst e; omega
    · by_cases k1 : x.k = 1
      · by_cases ha : x.a % 1024 < 2 ∨ n * k + 2 ≤ x.a % 1024 ∨ 1099511627776 ≤ x.a / 1024
        · exact mk 10 (by omega) (by omega) (by rw [pool_inv_eq, if_neg k0, if_pos k1, if_pos ha]) (pool_relRange k (n * k) x W' k1 hnk hxa ha)
        · have hin : (poolM n k).inv st.s x = (st.s, .inl (.rel (x.a % 1024 - 2) (x.a / 1024))) := by rw [pool_inv_eq, if_neg k0, if_pos k1, if_neg ha]
          refine (pool_relMade k (n * k) (x.a % 1024 - 2) (x.a / 1024) x W' k1 hnk (by omega) (by omega) (by omega)).mono fun en w' ⟨hen, hb⟩ => ?_
          rw [hin]
          refine ⟨ButS.of_below hb, _, 0, fun _ => False, FO, hen, trivial, ?_, fun b h => h.elim, fun b h => ⟨Nat.lt_of_lt_of_le (hlt b h) (Nat.le_trans hW'.size hb.size), .inl h, id⟩⟩
          exact (show opOf (.iface 216 (.agg #[.int .i64 ((x.a % 1024 - 2 : Nat) : Int), .int .u64 ((x.a / 1024 : Nat) : Int)])) 0 = .iface 216 (.agg #[.int .i64 ((x.a % 1024 - 2 : Nat) : Int), .int .u64 ((x.a / 1024 : Nat) : Int)]) by unfold opOf; rw [if_pos rfl])
      · exact mk 9 (by omega) (by omega) (by rw [pool_inv_eq, if_neg k0, if_neg k1]) (pool_bad k (n * k) x W' k0 k1)
  step := fun st p e v q hI hw hc hv hq hcn ht W opv bm bw F FO hop _ hM hs => by
    have hr0 : v.resp = 0 := by
      obtain ⟨v', hv', hr, _⟩ := hw.cur p e hc
      rw [hv] at hv'; cases hv'; exact hr
    have hnk : n * k ≤ 512 := Nat.le_trans (Nat.mul_le_mul hn.2 hk.2) (by decide)
    have hO := hI.ev e v hv hr0
    have hlen := hI.len
    have hwB : ∀ a, st.ws.getD a 0 ≤ 140001 := fun a => by have := hI.wB a; omega
    rw [hq] at hO
    -- what an allocation's step leaves
    have fin : ∀ (q' : PoolQ) (r : Out (poolM n k)) (er val : Nat) (d : Bool) (g : Nat) (vs : List Value) (l' : List Nat) (c' : Cn) (W' w' : World) (en : Ending), Below W.heap.size W W' → r.s = st.s → r.q = .inl q' → r.ws = l' → r.cn = c' → (r.ans = if d then some ⟨er, val, []⟩ else none) → (d = false → er = 0 ∧ val = 0) →
        F g → (RowBlk 214 w' g vs → PoolOpR n k w' (.iface 212 (.pointer (some ⟨g, 0, none⟩))) F q') → PoolStepped er val d g bm bw vs l' c' W' en w' → StepRel (poolK n k) r (.iface 212 (.pointer (some ⟨g, 0, none⟩))) bm bw F FO W' en w' := fun q' r er val d g vs l' c' W' w' en hW' e1 e2 e3 e4 e5 e6 hFg hR ⟨he, hm2, hb, hr2⟩ => by
      have hz := hb.size
      refine ⟨by rw [e3, e4]; exact hm2, hb.mono (fun b _ h => h.elim .inl (fun h => h.elim (fun h => .inr (.inl h)) (fun h => .inr (.inr (.inl (h ▸ hFg)))))), F, FO, fun b h => ⟨Nat.lt_of_lt_of_le (hs.1 b h).1 (Nat.le_trans hW'.size hz), .inl h⟩, fun b h => ⟨Nat.lt_of_lt_of_le (hs.2 b h).1 (Nat.le_trans hW'.size hz), .inl h, fun h' => (hs.1 b h').2.2.2 h⟩, trivial, by rw [e2]; exact hR hr2, ?_⟩
      rw [e5]
      cases d with
      | true => exact ⟨_, he, ListAt.nil _ _ _ _⟩
      | false =>
        obtain ⟨rfl, rfl⟩ := e6 rfl
        exact he
    match q, hop, hO with
    | .done, hop, hO => exact hO.elim
    | .rel a u, hop, hO =>
      obtain rfl : opv = .iface 216 (.agg #[.int .i64 (a : Int), .int .u64 (u : Int)]) := hop
      obtain ⟨x, h1, h2, h3, h4, h5, h6, h7⟩ := hO
      refine ⟨_, _, _, rfl, rel_meth _ _, rel_enter, fun W' hW' => ?_⟩
      have hM' := hM.of_blocks (hW'.block _ hM.lt1) (hW'.block _ hM.lt2)
      have hgen : ∀ (d : Bool) (er : Nat), decide (st.ws.getD a 0 = 2 * u + 1) = d → er = (if d then 0 else 8) → (stepQ (M := poolM n k) st.s (.inl (.rel a u)) st.ws st.cn st.ticks).ans = some ⟨er, 0, []⟩ → Calls Try.prog 157 #[.agg #[.int .i64 (a : Int), .int .u64 (u : Int)], turnAgg bm (st.ticks : Int)] W' (StepRel (poolK n k) (stepQ (M := poolM n k) st.s (.inl (.rel a u)) st.ws st.cn st.ticks) (.iface 216 (.agg #[.int .i64 (a : Int), .int .u64 (u : Int)])) bm bw F FO W') := fun d er hd her hans =>
        (rel_step d er u bm bw a st.ws st.cn st.ticks W' hM' (by rw [hlen]; exact h4) (by omega) (by omega) (by omega) hd her).mono fun en w' ⟨he, hm2, hb⟩ => by
          have hz := hb.size
          refine ⟨hm2, hb.mono (fun b _ h => h.elim .inl (fun h => .inr (.inl h))), F, FO, fun b h => ⟨Nat.lt_of_lt_of_le (hs.1 b h).1 (Nat.le_trans hW'.size hz), .inl h⟩, fun b h => ⟨Nat.lt_of_lt_of_le (hs.2 b h).1 (Nat.le_trans hW'.size hz), .inl h, fun h' => (hs.1 b h').2.2.2 h⟩, trivial, rfl, ?_⟩
          rw [hans]
          exact ⟨_, he, ListAt.nil _ _ _ _⟩
      by_cases hd : st.ws.getD a 0 = 2 * u + 1
      · exact hgen true 0 (decide_eq_true hd) rfl (by rw [pool_rel_yes _ _ hd])
      · exact hgen false 8 (decide_eq_false hd) rfl (by rw [pool_rel_no _ _ hd])
    | .look p2 E, hop, hO =>
      obtain ⟨g, f0, rfl, hFg, hr⟩ := hop
      obtain ⟨x, h1, h2, h3, h4, h5, h6, h7, h8, h9⟩ := hO
      have har := area_le (k := k) h5
      refine ⟨_, _, _, rfl, alc_meth _, alc_enter, fun W' hW' => ?_⟩
      have hM' := hM.of_blocks (hW'.block _ hM.lt1) (hW'.block _ hM.lt2)
      have hr' := hr.same (hW'.block _ hr.lt)
      have hb2 := hwB p2
      by_cases hx2 : st.ws.getD p2 0 % 2 = 0
      · refine (alc_even k (n * k) (p2 + 2) (E + 2) f0 _ g bm bw p2 st.ws st.cn st.ticks W' hM' hr' (by omega) (by omega) rfl (by omega) (by omega) (by omega) rfl (by omega) hx2).mono fun en w' h => ?_
        rw [pool_look_even st.s st.ticks rfl hx2]
        exact fin (.mark p2 E _) _ 0 0 false g _ _ _ W' w' en hW' rfl rfl rfl rfl rfl (fun _ => ⟨rfl, rfl⟩) hFg (fun hr2 => ⟨g, rfl, hFg, hr2⟩) h
      · by_cases hE : p2 + 1 = E
        · refine (alc_full k (n * k) (p2 + 2) (E + 2) f0 _ g bm bw p2 st.ws st.cn st.ticks W' hM' hr' (by omega) (by omega) rfl (by omega) (by omega) (by omega) rfl (by omega) hx2 (by omega)).mono fun en w' h => ?_
          rw [pool_look_odd st.s st.ticks rfl hx2, if_pos hE]
          refine fin (.look (p2 + 1) E) _ 6 0 true g _ _ _ W' w' en hW' rfl rfl rfl rfl rfl (fun h => by cases h) hFg (fun hr2 => ⟨g, st.ws.getD p2 0, rfl, hFg, ?_⟩) h
          rw [hE]; exact hr2
        · refine (alc_odd k (n * k) (p2 + 2) (E + 2) f0 _ g bm bw p2 st.ws st.cn st.ticks W' hM' hr' (by omega) (by omega) rfl (by omega) (by omega) (by omega) rfl (by omega) hx2 (by omega)).mono fun en w' h => ?_
          rw [pool_look_odd st.s st.ticks rfl hx2, if_neg hE]
          refine fin (.look (p2 + 1) E) _ 0 0 false g _ _ _ W' w' en hW' rfl rfl rfl rfl rfl (fun _ => ⟨rfl, rfl⟩) hFg (fun hr2 => ⟨g, st.ws.getD p2 0, rfl, hFg, ?_⟩) h
          rw [show p2 + 1 + 2 = p2 + 2 + 1 by omega]; exact hr2
    | .mark p2 E x2, hop, hO =>
      obtain ⟨g, rfl, hFg, hr⟩ := hop
      obtain ⟨x, h1, h2, h3, h4, h5, h6, h7, h8, h9, h10, h11⟩ := hO
      have har := area_le (k := k) h5
      refine ⟨_, _, _, rfl, alc_meth _, alc_enter, fun W' hW' => ?_⟩
      have hM' := hM.of_blocks (hW'.block _ hM.lt1) (hW'.block _ hM.lt2)
      have hr' := hr.same (hW'.block _ hr.lt)
      have hb2 := hwB p2
      refine (alc_mark k (n * k) (p2 + 2) (E + 2) x2 _ g bm bw p2 st.ws st.cn st.ticks W' hM' hr' (by omega) (by omega) rfl (by omega) (by omega) (by omega) (by omega) h11 rfl).mono fun en w' h => ?_
      rw [pool_mark]
      exact fin .done _ 0 _ true g _ _ _ W' w' en hW' rfl rfl rfl rfl rfl (fun h => by cases h) hFg (fun _ => ⟨g, rfl⟩) h
  key := fun W s q opv F FO hop _ => by
    match q, hop with
    | .rel a u, hop =>
      obtain rfl : opv = .iface 216 (.agg #[.int .i64 (a : Int), .int .u64 (u : Int)]) := hop
      exact .inl ⟨noKey_rel _, rfl⟩
    | .look p E, hop =>
      obtain ⟨g, f0, rfl, _⟩ := hop
      exact .inl ⟨noKey_alc _, rfl⟩
    | .mark p E x, hop =>
      obtain ⟨g, rfl, _⟩ := hop
      exact .inl ⟨noKey_alc _, rfl⟩
    | .done, hop =>
      obtain ⟨g, rfl⟩ := hop
      exact .inl ⟨noKey_alc _, rfl⟩
  turn := fun st p i x hI _ hno hx => poolF_turn hk.1 hth hI hno hx
  stepI := fun st p i e v hI hw ht _ hc hv => by
    obtain ⟨v', hv', hr, _⟩ := hw.cur p e hc
    rw [hv] at hv'; cases hv'
    exact poolF_step hI ht hc hv hr
  idle := fun st hI => poolF_idle hI
set_option maxHeartbeats 400000 in
theorem poolSize_bad (n kv : Int) (hk : kv < 1 ∨ 32 < kv) (W : World) : Calls Try.prog 104 #[.agg #[.int .i64 kv], .int .i64 n] W fun e w' => e = .returned (.tuple #[.int .i64 0, .int .i64 10]) ∧ Below W.heap.size W w' := by
  by_cases h : kv < 1
  · go_enter Try.func104, Try.ntmps104
    go_wp2
    go_ret2
    exact ⟨rfl, (Below.refl _ _).alloc (Nat.le_refl _) _⟩
  · have h2 : 32 < kv := by omega
    clear hk
    go_enter Try.func104, Try.ntmps104
    go_wp2
    go_ret2
    exact ⟨rfl, (Below.refl _ _).alloc (Nat.le_refl _) _⟩
set_option maxHeartbeats 400000 in
theorem poolSize_ok (n k m : Nat) (hk : 1 ≤ k ∧ k ≤ 32) (hm : n * k = m) (hm2 : m ≤ 512) (W : World) : Calls Try.prog 104 #[.agg #[.int .i64 (k : Int)], .int .i64 (n : Int)] W fun e w' => e = .returned (.tuple #[.int .i64 (m : Int), .int .i64 0]) ∧ Below W.heap.size W w' := by
  have h1 : (n : Int) * (k : Int) = (m : Int) := by rw [← hm]; simp
  have h2 : ¬ (k : Int) < 1 := by omega
  have h3 : ¬ 32 < (k : Int) := by omega
  clear hm
  go_enter Try.func104, Try.ntmps104
  go_wp2
  go_ret2
  exact ⟨rfl, (Below.refl _ _).alloc (Nat.le_refl _) _⟩
set_option maxHeartbeats 400000 in
theorem poolPlace (n k m : Nat) (hm : n * k = m) (hm2 : m ≤ 512) (W : World) : Calls Try.prog 103 #[.agg #[.int .i64 (k : Int)], .int .i64 (n : Int), .int .i64 0] W fun e w' => e = .returned (.iface 185 (.agg #[.int .i64 (k : Int), .int .i64 (m : Int), .int .i64 0])) ∧ Below W.heap.size W w' := by
  have h1 : (n : Int) * (k : Int) = (m : Int) := by rw [← hm]; simp
  clear hm
  go_enter Try.func103, Try.ntmps103
  go_wp2
  go_ret
  exact ⟨rfl, (Below.refl _ _).alloc (Nat.le_refl _) _⟩
/-- why a pool is not made -/
def poolErr (kv : Int) : Nat := if 1 ≤ kv ∧ kv ≤ 32 then 0 else 10
def poolSz (n kv : Int) : Nat := if 1 ≤ kv ∧ kv ≤ 32 then n.toNat * kv.toNat else 0
theorem poolSizeC (n kv : Int) (hn : n = (n.toNat : Int)) (h16 : n.toNat ≤ 16) : SizeC 71 (.agg #[.int .i64 kv]) n (poolSz n kv) (poolErr kv) := ⟨104, fun w' => by kernel_rfl, fun args w' => by kernel_rfl, fun W => by
  unfold poolSz poolErr
  by_cases h : 1 ≤ kv ∧ kv ≤ 32
  · rw [if_pos h, if_pos h]
    have h2 : n.toNat * kv.toNat ≤ 512 := Nat.le_trans (Nat.mul_le_mul h16 (show kv.toNat ≤ 32 by omega)) (by decide)
    have := poolSize_ok n.toNat kv.toNat _ (by omega) rfl h2 W
    rw [← hn, show ((kv.toNat : Nat) : Int) = kv by omega] at this
    exact this
  · rw [if_neg h, if_neg h]
    exact poolSize_bad n kv (by omega) W⟩
theorem poolPlaceC (n k : Nat) (hn : 1 ≤ n ∧ n ≤ 16) (hk : 1 ≤ k ∧ k ≤ 32) (cs : List CallV) (hth : ∀ x ∈ cs, 0 ≤ x.t ∧ x.t < n) (hca : ∀ x ∈ cs, x.a ≤ 18446744073709551615) : PlaceC (M := poolM n k) cs (PoolF n k cs) () 71 (.agg #[.int .i64 (k : Int)]) (n : Int) := ⟨103, fun w' => by kernel_rfl, fun args w' => by kernel_rfl, fun W => (poolPlace n k _ rfl (Nat.le_trans (Nat.mul_le_mul hn.2 hk.2) (by decide)) W).mono fun e w' ⟨he, hb⟩ =>
  ⟨poolObj n k, he, ⟨poolK n k, fun _ => False, ⟨_, _, rfl⟩, rfl, pool_ok n k hn hk cs hth hca, trivial, fun b h => h.elim⟩, hb⟩⟩
theorem poolNotFilled (kv : Int) : NotFilled 71 (.agg #[.int .i64 kv]) := fun w => run_typeAssert_lacksB Try.underlying126 (by kernel_rfl) (by kernel_rfl) (.agg #[.int .i64 kv]) 53 w
theorem check_threads {n : Int} {cs : List CallV} {np : Nat} (h : checkL n (thr cs) np = 0) : (1 ≤ n.toNat ∧ n.toNat ≤ 16) ∧ n = (n.toNat : Int) ∧ ∀ x ∈ cs, 0 ≤ x.t ∧ x.t < (n.toNat : Int) := by
  have h2 := check_zero h
  have h3 := wrongL_threads h2.1
  refine ⟨by omega, by omega, fun x hx => ?_⟩
  have := h3.2 x.t (List.mem_map.2 ⟨x, hx, rfl⟩)
  omega
theorem calls_a {w : World} {b o : Nat} {cs : List CallV} (h : CallsAt w b o cs) : ∀ x ∈ cs, x.a ≤ 18446744073709551615 := fun x hx => by
  obtain ⟨i, hi⟩ := List.mem_iff_getElem?.1 hx
  have := h i x hi
  omega
theorem pool_play (n kv : Int) (ao : Option Addr) (b o cap : Nat) (cs : List CallV) (ao3 : Option Addr) (b3 o3 cap3 : Nat) (picks : List Int) (w : World) (ha : 0 < cs.length → ao = some ⟨b, o, none⟩) (hb : 0 < cs.length → b < w.heap.size) (hc : CallsAt w b o cs) (hcap : ao = none → cap = 0)
    (ha3 : 0 < picks.length → ao3 = some ⟨b3, o3, none⟩) (hb3 : 0 < picks.length → b3 < w.heap.size) (hc3 : ICells w b3 o3 picks) (hnp : picks.length ≤ 9223372036854775807) :
    Calls Try.prog 16 #[.int .i64 n, .int .i64 kv, .slice ao cs.length cap, .slice ao3 picks.length cap3] w (PlayG (poolM n.toNat kv.toNat) n (poolErr kv) cs (List.replicate (poolSz n kv) 0) () picks w) :=
  poolPlay_any n kv (PoolF n.toNat kv.toNat cs) (poolSz n kv) (poolErr kv) ao b o cap cs ao3 b3 o3 cap3 picks w ha hb hc hcap ha3 hb3 hc3 hnp (fun h => by obtain ⟨h1, h2, _⟩ := check_threads h; exact poolSizeC n kv h2 h1.2) (fun h her => by
    obtain ⟨h1, h2, h3⟩ := check_threads h
    have hk : 1 ≤ kv ∧ kv ≤ 32 := by
      unfold poolErr at her
      split at her
      · next h => exact h
      · cases her
    have hsz : poolSz n kv = n.toNat * kv.toNat := by unfold poolSz; rw [if_pos hk]
    have hp := poolPlaceC n.toNat kv.toNat h1 (by omega) cs h3 (calls_a hc)
    rw [← h2, show ((kv.toNat : Nat) : Int) = kv by omega] at hp
    rw [hsz]
    have h5 : n.toNat * kv.toNat ≤ 512 := Nat.le_trans (Nat.mul_le_mul h1.2 (show kv.toNat ≤ 32 by omega)) (by decide)
    have h6 : 1 ≤ n.toNat * kv.toNat := Nat.mul_pos h1.1 (by omega)
    exact ⟨poolNotFilled kv, hp, h6, by omega, poolF_first⟩)
end Go.Proofs.Ytebfkkgemccbfaa
