/- cut: how events stood at a tick. -/
import Derived.Test.YthacohejdpjjeaaCTG
namespace Go.Proofs.Ythacohejdpjjeaa
open Go.RowKit Go.Lib Go.Sort
set_option linter.unusedVariables false

/-- what At gives -/
def AtP (n : Int) (cs : List CallV) (le : List (EvX × EvS)) (ps : List Int) (tick : Int) (w : World) (e : Ending) (w' : World) : Prop :=
  (wrongC n (thr cs) ps.length ≠ 0 → e = .returned (.tuple #[.slice none 0 0, .int .i64 (wrongC n (thr cs) ps.length : Nat)])) ∧
  (wrongC n (thr cs) ps.length = 0 → ∃ (a : Option Addr) (g o c : Nat) (ls : List (EvX × EvS)), e = .returned (.tuple #[.slice a ls.length c, .int .i64 0]) ∧ EvsR w' a g o ls ∧ (∀ p ∈ ls, EvSmall p.1) ∧ exs ls = atOf tick (ticksOf (thr cs) (exs le) ps) (exs le)) ∧ Below w.heap.size w w'

theorem eventAt_any (x : EvX) (s : EvS) (tick st : Int) (w : World) (hx : EvR w x s) (hsm : EvSmall x) :
    Calls Try.prog 25 #[evV x s, .int .i64 tick, .int .i64 st] w (EventAtP (evAtX x tick st) w) := by
  by_cases h : x.rs = 0 ∨ tick < x.rs
  · exact eventAt_open x s tick st w h
  · exact eventAt_done x s tick st w h hx hsm
theorem EvR.but {w w' : World} {x : EvX} {s : EvS} {g : Nat} (h : EvR w x s) (hf : EvFrom (g + 1) x s) (hb : ∀ b, b ≠ g → w'.heap[b]? = w.heap[b]?) (hs : w'.heap.size = w.heap.size) : EvR w' x s := by
  refine ⟨h.la, fun h0 => by rw [hs]; exact h.lb h0, h.lr, fun i x hx => ?_, h.ka, fun h0 => by rw [hs]; exact h.kb h0, h.kr, fun i x hx => ?_⟩
  · have h0 := hf.1 (by have := (List.getElem?_eq_some_iff.1 hx).1; omega)
    rw [← h.lc i x hx]
    unfold World.cell?
    rw [hb s.lb (by omega)]
  · have h0 := hf.2 (by have := (List.getElem?_eq_some_iff.1 hx).1; omega)
    rw [← h.kc i x hx]
    unfold World.cell?
    rw [hb s.kb (by omega)]
theorem EvFrom.mono {B B' : Nat} {x : EvX} {s : EvS} (h : EvFrom B x s) (hB : B' ≤ B) : EvFrom B' x s := ⟨fun h0 => Nat.le_trans hB (h.1 h0), fun h0 => Nat.le_trans hB (h.2 h0)⟩
/-- in the middle of the events -/
structure AtSt (le : List (EvX × EvS)) (w : World) (tick : Int) (T : List Nat) (mb gs j : Nat) (acc : List (EvX × EvS)) (wr : World) : Prop where
  blk : ∃ VS, RowBlk 44 wr gs VS ∧ VS.length = le.length * 8 ∧ ∀ (i : Nat) (p : EvX × EvS), acc[i]? = some p → ∀ (k : Nat) (u : Value), (evVs p.1 p.2)[k]? = some u → VS[i * 8 + k]? = some u
  acl : acc.length ≤ j
  ev : ∀ p ∈ acc, EvR wr p.1 p.2 ∧ EvFrom (gs + 1) p.1 p.2 ∧ p.1.Ok ∧ EvSmall p.1
  fst : exs acc = atGo tick T ((exs le).take j)
  map : ∃ n, MapN Try.prog 3 wr mb n (stG T)
  below : Below w.heap.size w wr
  size : gs < wr.heap.size
theorem AtSt.keep {le : List (EvX × EvS)} {w : World} {tick : Int} {T : List Nat} {mb gs j : Nat} {acc : List (EvX × EvS)} {wr w' : World} (h : AtSt le w tick T mb gs j acc wr) (hm : mb < gs) (hb : Below wr.heap.size wr w') : AtSt le w tick T mb gs j acc w' := by
  obtain ⟨VS, h1, h2, h3⟩ := h.blk
  obtain ⟨n, h4⟩ := h.map
  have hsz := h.size
  exact ⟨⟨VS, h1.same (hb.block gs hsz), h2, h3⟩, h.acl, fun p hp => ⟨(h.ev p hp).1.below hb, (h.ev p hp).2⟩, h.fst, ⟨n, h4.below hb (by omega)⟩, h.below.trans (hb.mono h.below.size), by have := hb.size; omega⟩
theorem AtSt.pass {le : List (EvX × EvS)} {w : World} {tick : Int} {T : List Nat} {mb gs j : Nat} {acc : List (EvX × EvS)} {wr : World} (h : AtSt le w tick T mb gs j acc wr) {x : EvX} (hx : (exs le)[j]? = some x) (hi : ¬ x.iv ≤ tick) : AtSt le w tick T mb gs (j + 1) acc wr := by
  refine ⟨h.blk, by have := h.acl; omega, h.ev, ?_, h.map, h.below, h.size⟩
  rw [take_snoc hx, atGo_snoc, if_neg hi, List.append_nil]
  exact h.fst
theorem AtSt.put {le : List (EvX × EvS)} {w : World} {tick : Int} {T : List Nat} {mb gs j : Nat} {acc : List (EvX × EvS)} {wr : World} (h : AtSt le w tick T mb gs j acc wr) (hm : mb < gs) (hj : j < le.length) (hws : w.heap.size ≤ gs) {x : EvX} (hx : (exs le)[j]? = some x) (hi : x.iv ≤ tick)
    {s' : EvS} (hr : EvR wr (evAtX x tick (cntT T x.ca : Int)) s') (hf : EvFrom (gs + 1) (evAtX x tick (cntT T x.ca : Int)) s') (hok : (evAtX x tick (cntT T x.ca : Int)).Ok) (hsm : EvSmall (evAtX x tick (cntT T x.ca : Int)))
    {y : EvX} (hy : evAtX x tick (cntT T x.ca : Int) = y) :
    AtSt le w tick T mb gs (j + 1) (acc ++ [(y, s')]) (put8o wr gs (acc.length * 8) (.int .i64 y.ca) (.int .i64 y.iv) (.int .i64 y.rs) (.int .i64 y.st) (.int .i64 y.er) (.int .u64 (y.vl : Int)) (.slice s'.la y.lw.length s'.lc) (.slice s'.ka y.kw.length s'.kc)) := by
  rw [hy] at hr hf hok hsm
  obtain ⟨VS, h1, h2, h3⟩ := h.blk
  obtain ⟨n, h4⟩ := h.map
  have hac := h.acl
  have hoff : acc.length * 8 + 7 < VS.length := by rw [h2]; omega
  have hO := fun (b : Nat) (hb : b ≠ gs) => put8o_other wr gs (acc.length * 8) (.int .i64 y.ca) (.int .i64 y.iv) (.int .i64 y.rs) (.int .i64 y.st) (.int .i64 y.er) (.int .u64 (y.vl : Int)) (.slice s'.la y.lw.length s'.lc) (.slice s'.ka y.kw.length s'.kc) hb
  refine ⟨⟨_, put8o_row h1 _ _ _ _ _ _ _ _ _, by rw [set8_len]; exact h2, fun i p hp k u hu => ?_⟩, ?_, fun p hp => ?_, ?_, ⟨n, h4.same (hO mb (by omega))⟩, put8o_below h.below hws _ _ _ _ _ _ _ _ _, by rw [put8o_size]; exact h.size⟩
  · have hk : k < 8 := (List.getElem?_eq_some_iff.1 hu).1
    by_cases hil : i < acc.length
    · rw [List.getElem?_append_left hil] at hp
      rw [set8_out _ _ _ _ _ _ _ _ _ _ (.inl (by omega))]
      exact h3 i p hp k u hu
    · have hi2 : i = acc.length := by
        have := (List.getElem?_eq_some_iff.1 hp).1
        simp at this; omega
      subst hi2
      rw [List.getElem?_append_right (Nat.le_refl _), Nat.sub_self] at hp
      simp at hp
      subst hp
      exact set8_in _ _ _ _ _ _ _ _ _ _ hoff k u hu
  · rw [List.length_append]; show acc.length + 1 ≤ _; omega
  · rcases List.mem_append.1 hp with hp | hp
    · exact ⟨(h.ev p hp).1.but (h.ev p hp).2.1 hO (put8o_size _ _ _ _ _ _ _ _ _ _ _), (h.ev p hp).2⟩
    · simp at hp
      subst hp
      exact ⟨hr.but hf hO (put8o_size _ _ _ _ _ _ _ _ _ _ _), hf, hok, hsm⟩
  · rw [take_snoc hx, atGo_snoc, if_pos hi, hy, ← h.fst]
    unfold exs
    rw [List.map_append]
    rfl

set_option maxRecDepth 100000 in
set_option maxHeartbeats 4000000 in
theorem at_any (n : Int) (ao : Option Addr) (b o cap : Nat) (cs : List CallV) (ea : Option Addr) (eb eo ec : Nat) (le : List (EvX × EvS)) (pa : Option Addr) (pb po pc : Nat) (ps : List Int) (tick : Int) (w : World)
    (hc : CallsAt w b o cs) (ha : 0 < cs.length → ao = some ⟨b, o, none⟩) (hb : 0 < cs.length → b < w.heap.size) (he : EvsR w ea eb eo le) (hel : le.length ≤ 4000000)
    (hpa : 0 < ps.length → pa = some ⟨pb, po, none⟩) (hpb : 0 < ps.length → pb < w.heap.size) (hpc : ICells w pb po ps) (hwf : ps.length ≤ 9223372036854775807) (hsm : ∀ p ∈ le, EvSmall p.1) (htk : I63 tick) :
    Calls Try.prog 12 #[.int .i64 n, .slice ao cs.length cap, .slice ea le.length ec, .slice pa ps.length pc, .int .i64 tick] w (AtP n cs le ps tick w) := by
  have HTK := Lib.hid (ticks_any n ao b o cap cs ea eb eo ec le pa pb po pc ps w hc ha hb he hel hpa hpb hpc hwf)
  have HE := Lib.hid he
  have HEL := Lib.hid hel
  have HSM := Lib.hid hsm
  have hmm := @run_makeMap Try.prog
  obtain ⟨htk1, htk2⟩ := htk
  clear hc ha hb he hpa hpb hpc hsm
  go_enter Try.func12, Try.ntmps12
  go_wp2_with fail
  refine HTK.out.mono ?_
  rintro e w1 ⟨h1, h2, hb1⟩
  have HB1 := Lib.hid hb1
  clear hb1
  by_cases h0 : wrongC n (thr cs) ps.length = 0
  rotate_left
  · have h3 := h1 h0
    subst h3
    have HZ := Lib.hid h0
    have hz : ((wrongC n (thr cs) ps.length : Nat) : Int) ≠ 0 := by omega
    have hz2 : (((wrongC n (thr cs) ps.length : Nat) : Int) == 0) = false := by rw [beq_eq_false_iff_ne]; exact hz
    clear h1 h2 h0
    generalize hk : wrongC n (thr cs) ps.length = k at hz hz2 ⊢
    have HK := Lib.hid hk
    have hz3 : ¬ k = 0 := by omega
    clear hk
    go_wp2_with fail
    go_ret2
    exact ⟨fun _ => by rw [HK.out]; rfl, fun h => absurd (HK.out.symm.trans h) hz3, HB1.out⟩
  · obtain ⟨v, rfl, hown⟩ := h2 h0
    have HZ := Lib.hid h0
    have HPL : Hid (ps.length ≤ 65536 ∧ cs.length ≤ 1000) := Lib.hid (by
      have h3 := h0
      unfold wrongC at h3
      split at h3
      · omega
      · split at h3
        · omega
        · have := (wrongL_inv h3).2.1; rw [thr_len] at this; omega)
    obtain ⟨T, hT⟩ : ∃ T, ticksOf (thr cs) (exs le) ps = T := ⟨_, rfl⟩
    rw [hT] at hown
    have HTT := Lib.hid hT
    have hTl : T.length ≤ 65536 := by
      rw [← hT]
      have := tickGo_len (thr cs) (exs le) ps (List.replicate (thr cs).length false) 0
      have h4 := HPL.out
      unfold ticksOf
      omega
    obtain ⟨ta, tg, tc, rfl, t1, t2, t3, t4⟩ := owns_open hown
    have HT1 := Lib.hid t1
    have HT3 := Lib.hid t3
    have HT4 := Lib.hid t4
    have HTC : Hid (T.length ≤ tc) := Lib.hid (by
      obtain ⟨_, ⟨hv, h5⟩ | ⟨g', cap', cur, hv, _, _, hc, _⟩⟩ := hown
      · rw [h5]; exact Nat.zero_le _
      · cases hv; exact hc)
    clear h1 h2 h0 hown hT t1 t2 t3 t4
    go_upto_region 5 with fail
    obtain ⟨P, hP⟩ : ∃ P : Nat, pastN tick T.length = P := ⟨_, rfl⟩
    have hPI : min (max tick 0) (T.length : Int) = (P : Int) := by rw [← hP]; unfold pastN; omega
    have hPl : P ≤ T.length := by rw [← hP]; unfold pastN; omega
    have HP := Lib.hid hP
    rw [hPI]
    have HPI := Lib.hid hPI
    have hPc : P ≤ tc := by have := HTC.out; omega
    have hPc2 : (P : Int) ≤ (tc : Int) := by omega
    have hP0 : (0 : Int) ≤ (P : Int) := Int.natCast_nonneg _
    clear hP hPI
    go_wp2_with fail
    have HS1 := HB1.out.size
    have HM0 : Hid (MapN Try.prog 3 (w1.alloc (.map #[] 0)) w1.heap.size 0 (stG (T.take 0))) := Lib.hid (MapN.made _ _ _)
    have HB0 : Hid (Below w1.heap.size w1 (w1.alloc (.map #[] 0))) := Lib.hid ((Below.refl _ _).alloc (Nat.le_refl _) _)
    obtain ⟨mb, hmb⟩ : ∃ mb, w1.heap.size = mb := ⟨_, rfl⟩
    have HMB := Lib.hid hmb
    rw [hmb] at HM0
    try rw [hmb]
    clear hmb
    go_loopw [43] (fun k wr => ∃ j : Nat, j ≤ P ∧ k = .int .i64 j ∧ Hid (MapN Try.prog 3 wr mb j (stG (T.take j))) ∧ Hid (Below w1.heap.size w1 wr)) (fun k _ => P - (RowKit.intOf k).toNat)
    case atStart => exact ⟨0, Nat.zero_le _, rfl, HM0, HB0⟩
    case round =>
      obtain ⟨j, hj, rfl, hM, hB⟩ := hrel
      by_cases hlt : j < P
      · obtain rfl := HT1.out (by omega)
        have htg := HT3.out (by omega)
        obtain ⟨i, hi⟩ : ∃ i, T[j]? = some i := ⟨T[j], List.getElem?_eq_getElem (by omega)⟩
        have htc : ∀ (m : Nat) (u : Value), (tkVs (thr cs) (exs le) (0 + j) i)[m]? = some u → wr.cell? ⟨tg, j * 4 + m, none⟩ = some u := fun m u hu =>
          (hB.out.cell (p := ⟨tg, _, none⟩) htg).trans (HT4.out (j * 4 + m) u (tkRows_get _ _ T 0 j i hi m u hu))
        have hil : i < 1000 ∨ i = 1000 := by
          have h5 := tickGo_lt (thr cs) (exs le) ps (List.replicate (thr cs).length false) 0 i (by
            have h6 := HTT.out
            unfold ticksOf at h6
            rw [h6]
            exact List.mem_of_getElem? hi)
          have h6 := HPL.out.2
          rw [thr_len] at h5
          omega
        have k0 := htc 0 _ rfl
        have k1 := htc 1 _ rfl
        have k2 := htc 2 _ rfl
        have k3 := htc 3 _ rfl
        rw [Nat.add_zero] at k0
        generalize (thr cs).getD i 0 = z0 at k0
        generalize firstT (exs le) i (0 + j + 1) = z2 at k2
        generalize lastT (exs le) i (0 + j + 1) = z3 at k3
        obtain ⟨W2, hW2⟩ : ∃ W2, wr.alloc (.cells #[.int .i64 z0, .int .i64 (i : Int), .bool z2, .bool z3] 46) = W2 := ⟨_, rfl⟩
        have hR2 : RowBlk 46 W2 wr.heap.size [.int .i64 z0, .int .i64 (i : Int), .bool z2, .bool z3] := by rw [← hW2]; exact RowBlk.new _ _ _
        have HW2 := Lib.hid hW2
        have HM2 : Hid (MapN Try.prog 3 W2 mb j (stG (T.take j))) := Lib.hid (by rw [← hW2]; exact hM.out.alloc _)
        have HB2 : Hid (Below w1.heap.size w1 W2) := Lib.hid (by rw [← hW2]; exact hB.out.alloc hB.out.size _)
        have q1 := hR2.cell (i := 1) rfl
        have hsn : T.take (j + 1) = T.take j ++ [i] := take_snoc hi
        have HSN := Lib.hid hsn
        have hcl := cntT_le (T.take j) (i : Int)
        rw [List.length_take] at hcl
        have hcl2 : cntT (T.take j) (i : Int) ≤ 65536 := by omega
        clear hW2 hR2 htc hi hM hB hsn hcl
        go_upto_region 9 with fail
        rw [HW2.out]
        have hwfi : (Lit.int .i64 (i : Int)).wf = true := WalkArith.wf_i64 (by omega)
        have hlk := HM2.out.look (t := 62) Try.underlying3 Try.underlying62 (zeroIn _) hwfi
        rw [stG_get] at hlk
        obtain ⟨w3, hst, hM3, hT3⟩ := HM2.out.store (t := 62) (e := 3) Try.underlying3 Try.underlying62 (by unfold maxLen; omega) hwfi ((cntT (T.take j) (i : Int) : Int) + 1)
        have HM3 : Hid (MapN Try.prog 3 w3 mb (j + 1) (stG (T.take (j + 1)))) := Lib.hid (by
          rw [HSN.out, stG_snoc]
          exact hM3)
        have HB3 : Hid (Below w1.heap.size w1 w3) := Lib.hid (HB2.out.grown hT3.grown HB2.out.size (fun k hk => by cases hk; have := HMB.out; omega))
        generalize cntT (T.take j) (i : Int) = cq at hlk hst hcl2
        clear hM3 hT3 k0 k1 k2 k3
        go_wp2_with fail
        go_roundw
        case rel => exact ⟨j + 1, by omega, by go_num, HM3, HB3⟩
        case measure => simp [RowKit.intOf]; omega
      · have hj2 : j = P := by omega
        subst hj2
        have hmk := run_mkE le.length HEL.out
        obtain ⟨W2, hW2⟩ : ∃ W2, wr.alloc (.cells (zRow le.length).toArray 44) = W2 := ⟨_, rfl⟩
        obtain ⟨gs, hgs⟩ : ∃ gs, wr.heap.size = gs := ⟨_, rfl⟩
        have hszr := hB.out.size
        have hmbg : mb < gs := by rw [← hgs]; exact hM.out.lt
        have hAT : AtSt le w tick (T.take j) mb gs 0 [] W2 := by
          refine ⟨⟨zRow le.length, by rw [← hW2, ← hgs]; exact RowBlk.new _ _ _, zRow_len _, fun i p hp => by simp at hp⟩, Nat.le_refl _, fun p hp => by simp at hp, rfl, ⟨j, by rw [← hW2]; exact hM.out.alloc _⟩, ?_, by rw [← hW2, ← hgs]; simp⟩
          rw [← hW2]
          exact (HB1.out.trans (hB.out.mono HS1)).alloc (by have := hB.out.size; omega) _
        have HAT := Lib.hid hAT
        have HW2 := Lib.hid hW2
        have HGS := Lib.hid hgs
        have hws : w.heap.size ≤ gs := by omega
        clear hW2 hgs hAT hM hB
        go_upto_region 12 with fail
        rw [HW2.out, HGS.out]
        go_wp2_with fail
        go_loopw [19, 58] (fun v k wr => ∃ (jj : Nat) (acc : List (EvX × EvS)), jj ≤ le.length ∧ k = .int .i64 jj ∧ v = .int .i64 (acc.length : Nat) ∧ Hid (AtSt le w tick (T.take j) mb gs jj acc wr)) (fun _ k _ => le.length - (RowKit.intOf k).toNat)
        case atStart => exact ⟨0, [], Nat.zero_le _, rfl, rfl, HAT⟩
        case round =>
          obtain ⟨jj, acc, hjj, rfl, rfl, hS⟩ := hrel
          have hacl := hS.out.acl
          by_cases hlt2 : jj < le.length
          · obtain rfl := HE.out.ea (by omega)
            obtain ⟨⟨x, s⟩, hp⟩ : ∃ p, le[jj]? = some p := ⟨le[jj], List.getElem?_eq_getElem hlt2⟩
            have hpm := List.mem_of_getElem? hp
            have hx := exs_get hp
            have hok := (HE.out.ek _ hpm).1
            have hsmx := HSM.out _ hpm
            have hE3 := HE.out.below hS.out.below
            have hevr := (hE3.ek _ hpm).2
            obtain ⟨e0, e1, e2, e3, e4, e5, e6, e7⟩ := hE3.cells hp
            obtain ⟨W3, hW3⟩ : ∃ W3, wr.alloc (evO x s) = W3 := ⟨_, rfl⟩
            have hR3 : RowBlk 44 W3 wr.heap.size (evVs x s) := by rw [← hW3]; exact RowBlk.new _ _ _
            have hB3 : Below wr.heap.size wr W3 := by rw [← hW3]; exact (Below.refl _ _).alloc (Nat.le_refl _) _
            have HS3 := Lib.hid (hS.out.keep hmbg hB3)
            have HEV3 := Lib.hid (hevr.below hB3)
            obtain ⟨n3, hM3⟩ := HS3.out.map
            have HW3 := Lib.hid hW3
            have HX := Lib.hid hx
            have HOK := Lib.hid hok
            have HSX := Lib.hid hsmx
            have a0 := hR3.cell (i := 0) rfl
            have a1 := hR3.cell (i := 1) rfl
            have a2 := hR3.cell (i := 2) rfl
            have a3 := hR3.cell (i := 3) rfl
            have a4 := hR3.cell (i := 4) rfl
            have a5 := hR3.cell (i := 5) rfl
            have a6 := hR3.cell (i := 6) rfl
            have a7 := hR3.cell (i := 7) rfl
            have hlk := hM3.look (t := 62) Try.underlying3 Try.underlying62 (zeroIn _) (WalkArith.wf_i64 hok.ca)
            rw [stG_get] at hlk
            have hcnt : cntT (T.take j) x.ca ≤ 65536 := by have := cntT_le (T.take j) x.ca; rw [List.length_take] at this; omega
            obtain ⟨y, hy⟩ : ∃ y, evAtX x tick (cntT (T.take j) x.ca : Int) = y := ⟨_, rfl⟩
            have HY := Lib.hid hy
            have HYO := Lib.hid (evAtX_ok hok tick (cntT (T.take j) x.ca : Int) (by unfold I63; omega))
            have HYS := Lib.hid (evAtX_small hsmx tick (cntT (T.take j) x.ca : Int))
            have HCE := Lib.hid (eventAt_any x s tick (cntT (T.take j) x.ca : Int) W3 HEV3.out hsmx)
            rw [hy] at HCE
            clear hp hpm hx hok hsmx hE3 hevr hW3 hR3 hM3 hy hS
            generalize hcq : cntT (T.take j) x.ca = cq at hlk HCE hcnt
            have HCQ := Lib.hid hcq
            clear hcq
            obtain ⟨ca, iv, rs, st, er, vl, lw, kw⟩ := x
            obtain ⟨la, lb, lo, lc, ka, kb, ko, kc⟩ := s
            dsimp only [evVs, evV] at *
            go_upto_region 16 with fail
            rw [HW3.out]
            clear e0 e1 e2 e3 e4 e5 e6 e7
            by_cases hiv : iv ≤ tick
            · have HIV := Lib.hid hiv
              go_wp2_with fail
              refine HCE.out.mono ?_
              rintro e W5 ⟨s5, rfl, hr5, hf5, hb5⟩
              have hgs5 : gs < W3.heap.size := HS3.out.size
              have HS5 := Lib.hid (HS3.out.keep hmbg hb5)
              have hfg := hf5.mono (B' := gs + 1) (by omega)
              have HS6 := Lib.hid (HS5.out.put hmbg hlt2 hws HX.out HIV.out (s' := s5) (by rw [HY.out]; exact hr5) (by rw [HY.out]; exact hfg) HYO.out HYS.out HY.out)
              obtain ⟨VS, hv1, hv2, _⟩ := HS5.out.blk
              obtain ⟨u0, g0⟩ := hv1.some_at (i := acc.length * 8) (by omega)
              obtain ⟨u1, g1⟩ := hv1.some_at (i := acc.length * 8 + 1) (by omega)
              obtain ⟨u2, g2⟩ := hv1.some_at (i := acc.length * 8 + 2) (by omega)
              obtain ⟨u3, g3⟩ := hv1.some_at (i := acc.length * 8 + 3) (by omega)
              obtain ⟨u4, g4⟩ := hv1.some_at (i := acc.length * 8 + 4) (by omega)
              obtain ⟨u5, g5⟩ := hv1.some_at (i := acc.length * 8 + 5) (by omega)
              obtain ⟨u6, g6⟩ := hv1.some_at (i := acc.length * 8 + 6) (by omega)
              obtain ⟨u7, g7⟩ := hv1.some_at (i := acc.length * 8 + 7) (by omega)
              have fz : ∀ i, W5.frozen? ⟨gs, i, none⟩ = false := fun i => hv1.free
              have hai : acc.length < le.length := by omega
              have hai1 : (acc.length : Int) < (le.length : Int) := by omega
              have hab : acc.length < 4000000 := by omega
              clear hr5 hf5 hb5 hfg hv1 hv2 HCE hiv
              obtain ⟨yca, yiv, yrs, yst, yer, yvl, ylw, ykw⟩ := y
              obtain ⟨la5, lb5, lo5, lc5, ka5, kb5, ko5, kc5⟩ := s5
              dsimp only [evV] at *
              go_wp2_with fail
              have HS7 : Hid (AtSt le w tick (T.take j) mb gs (jj + 1) (acc ++ [(⟨yca, yiv, yrs, yst, yer, yvl, ylw, ykw⟩, ⟨la5, lb5, lo5, lc5, ka5, kb5, ko5, kc5⟩)]) ((((((((W5.setCell ⟨gs, acc.length * 8, none⟩ (.int .i64 yca)).setCell ⟨gs, acc.length * 8 + 1, none⟩ (.int .i64 yiv)).setCell ⟨gs, acc.length * 8 + 2, none⟩ (.int .i64 yrs)).setCell ⟨gs, acc.length * 8 + 3, none⟩ (.int .i64 yst)).setCell ⟨gs, acc.length * 8 + 4, none⟩ (.int .i64 yer)).setCell ⟨gs, acc.length * 8 + 5, none⟩ (.int .u64 (yvl : Int))).setCell ⟨gs, acc.length * 8 + 6, none⟩ (.slice la5 ylw.length lc5)).setCell ⟨gs, acc.length * 8 + 7, none⟩ (.slice ka5 ykw.length kc5))) := HS6
              go_roundw
              case rel => exact ⟨jj + 1, _, by omega, by go_num, by rw [List.length_append]; rfl, HS7⟩
              case measure => simp [RowKit.intOf]; omega
            · have HS6 := Lib.hid (HS3.out.pass HX.out hiv)
              go_wp2_with fail
              go_roundw
              case rel => exact ⟨jj + 1, acc, by omega, by go_num, rfl, HS6⟩
              case measure => simp [RowKit.intOf]; omega
          · have hj3 : jj = le.length := by omega
            have hfin := hS.out.fst
            rw [hj3, ← exs_len le, List.take_length] at hfin
            have HF := Lib.hid hfin
            have hai1 : (acc.length : Int) ≤ (le.length : Int) := by omega
            have hai2 : acc.length ≤ le.length := by omega
            clear hfin
            subst hj3
            go_wp2_with fail
            go_ret2
            refine ⟨fun h => absurd HZ.out h, fun _ => ⟨some ⟨gs, 0, none⟩, gs, 0, acc.length, acc, rfl, ⟨fun _ => rfl, fun _ => hS.out.size, fun i p hp k u hu => ?_, fun p hp => ⟨(hS.out.ev p hp).2.2.1, (hS.out.ev p hp).1⟩⟩, fun p hp => (hS.out.ev p hp).2.2.2, by rw [HTT.out]; unfold atOf; rw [HP.out]; exact HF.out⟩, hS.out.below⟩
            obtain ⟨VS, hv1, _, hv3⟩ := hS.out.blk
            rw [Nat.zero_add]
            exact hv1.cell (hv3 i p hp k u hu)
end Go.Proofs.Ythacohejdpjjeaa
