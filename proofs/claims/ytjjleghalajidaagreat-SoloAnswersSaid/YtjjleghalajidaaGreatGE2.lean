/- solo: begin. | solo: has, places. | solo: what a call leaves, in memory. -/
import Derived.Test.YtjjleghalajidaaGreatGE1
import Derived.Laws.StructEq
namespace Go.Proofs.YtjjleghalajidaaGreat
section
open Go.ChangeShapes Go.WideShapes Go.ChangeAt Go.RowKit Go.Maps
set_option linter.unusedVariables false
set_option linter.unusedSimpArgs false
set_option maxRecDepth 100000

theorem some_ne {a b : Nat} (h : a ≠ b) : some a ≠ some b := fun e => h (by cases e; rfl)
/-- one model more -/
theorem SoAt.push {w w6 : World} {n : Int} {l : List Tb.SpecL} {q : SoM} {mv : Value} {j : Nat} {us : List Value} {ms : List (List Nat)} {la : List Int} {k : Nat} (h : SoAt w n l q mv j us ⟨ms, la⟩ k) {v : Value} {m : List Nat} (hv : ArgB w (q.g + 1) v m) (hR : Room v)
    {g6 cap6 : Nat} (hrow : w6.ownsRow (q.g + 1) 37 1 (.slice (some ⟨g6, 0, none⟩) (j + 1) cap6) (j + 1) (us ++ [v])) (hg : (w.alloc (.cells #[v] 37)).grownBy w6 mv.ownBlock) (hl : mv.ownBlock = some g6 ∨ g6 = w.heap.size + 1) (hoff : ∀ b, blkOf v = some b → mv.ownBlock ≠ some b) :
    SoAt (w6.setCell ⟨q.g, 2, none⟩ (.slice (some ⟨g6, 0, none⟩) (j + 1) cap6)) n l q (.slice (some ⟨g6, 0, none⟩) (j + 1) cap6) (j + 1) (us ++ [v]) ⟨ms ++ [m], la⟩ k := by
  have hlt := h.lt
  have hmb : ∀ b, mv.ownBlock = some b → q.g + 1 ≤ b ∧ b < w.heap.size := fun b hb => h.row.lt b hb
  have hk6 : ∀ b, b < w.heap.size → mv.ownBlock ≠ some b → w6.heap[b]? = w.heap[b]? := fun b hb hne => (hg.block b (by simp; omega) (fun e => hne e.symm)).trans (Below.heap_alloc _ _ _ hb)
  have hk : ∀ b, b < w.heap.size → b ≠ q.g → mv.ownBlock ≠ some b → (w6.setCell ⟨q.g, 2, none⟩ (.slice (some ⟨g6, 0, none⟩) (j + 1) cap6)).heap[b]? = w.heap[b]? := fun b hb h1 h2 => (Below.heap_setCell _ _ _ _ h1).trans (hk6 b hb h2)
  have hlow : ∀ b, b ≤ q.g → mv.ownBlock ≠ some b := fun b hb e => by have := (hmb b e).1; omega
  have hg6 : q.g + 1 ≤ g6 := (hrow.lt g6 rfl).1
  have hst6 := (hk6 _ hlt (hlow _ (Nat.le_refl _))).trans h.st
  have hWs : WsAt w (q.g + 1) (us ++ [v]) (ms ++ [m]) := h.ws.snoc hv hR
  have hOf : Off mv (us ++ [v]) := h.off.app (Off.one hoff)
  refine ⟨?_, h.sa, h.sl, specs_keep h.sp (fun hl0 => ?_), ?_, hWs.keepE (fun u hu b hb => ?_), off_lies hOf (fun u hu b hb => by have := (hWs.lt hu hb).2; omega) hl, h.map.same ?_, h.mC⟩
  · have := heap_setCell_same w6 q.g 2 _ _ (.slice (some ⟨g6, 0, none⟩) (j + 1) cap6) hst6
    exact this
  · have := h.sl hl0
    have := h.mC
    exact hk _ (specs_lt h.sp hl0) (by omega) (hlow _ (by omega))
  · exact ownsRow_setCell_other hrow (fun e => by simp only [Value.ownBlock, Option.some.injEq] at e; omega) _
  · have := hWs.lt hu hb
    exact hk b this.2 (by omega) (hOf u hu b hb)
  · have := h.mC
    exact hk _ h.map.lt (by omega) (hlow _ (by omega))

theorem laF_new (n : Int) (l : List Tb.SpecL) : laF (soNew n l).la = fun _ => tkV (-1) := by
  funext a
  unfold laF
  split
  · have : (soNew n l).la.getD a.toNat (-1) = -1 := by
      rw [List.getD_eq_getElem?_getD]
      simp only [soNew, List.getElem?_map]
      cases l[a.toNat]? <;> rfl
    rw [this]
  · rfl
theorem run_mkM (w : World) : (Instr.makeMap 94 none).run Tryz.prog w = .ok (.map (some w.heap.size)) (w.alloc (.map #[] 0)) := rfl
def BegP (n : Int) (l : List Tb.SpecL) (w : World) (e : Ending) (w' : World) : Prop :=
  ∃ q mv us, e = .returned (.tuple #[.pointer (some ⟨q.g, 0, none⟩), .int .i64 0]) ∧ SoAt w' n l q mv l.length us (soNew n l) 0 ∧ q.C0 = w.heap.size ∧ Below w.heap.size w w'
theorem SoAt.cells {w : World} {n : Int} {l : List Tb.SpecL} {q : SoM} {mv : Value} {r : Nat} {us : List Value} {s : SoS} {k : Nat} (h : SoAt w n l q mv r us s k) :
    w.cell? ⟨q.g, 0, none⟩ = some (.int .i64 n) ∧ w.cell? ⟨q.g, 1, none⟩ = some (.slice q.sao l.length q.sc) ∧ w.cell? ⟨q.g, 2, none⟩ = some mv ∧ w.cell? ⟨q.g, 3, none⟩ = some (.map (some q.mb)) ∧ w.frozen? ⟨q.g, 2, none⟩ = false :=
  ⟨Tb.cell_of_blkT h.st rfl, Tb.cell_of_blkT h.st rfl, Tb.cell_of_blkT h.st rfl, Tb.cell_of_blkT h.st rfl, Tb.free_of_blkT h.st⟩

set_option maxHeartbeats 4000000 in
theorem begin_ok (n : Int) (sao cao : Option Addr) (sb so sc cb co cc : Nat) (l : List Tb.SpecL) (cs : List CallM) (w : World) (hsa : 0 < l.length → sao = some ⟨sb, so, none⟩) (hsp : Tb.SpecsAt w sb so l) (hca : 0 < cs.length → cao = some ⟨cb, co, none⟩) (hcs : CallsM w cb co cs) (hok : soErr n l cs = 0) :
    Calls Tryz.prog 44 #[.int .i64 n, .slice sao l.length sc, .slice cao cs.length cc] w (BegP n l w) := by
  obtain ⟨iI, ia, ib, ic, id⟩ := info_parts infoS
  obtain ⟨h1, h2, h3, h4⟩ := soErr_ok hok
  obtain ⟨_, hl8, hall, _⟩ := laErr_ok h4
  have hch : chErr n cs = 0 := by unfold chErr; rw [if_neg (not_not_intro h1), if_neg (by omega), if_neg (by rw [h3]; decide)]
  have HCK : Hid (Calls Tryz.prog 77 #[.int .i64 n, .slice cao cs.length cc] w fun e w' => e = .returned (.int .i64 0) ∧ Below w.heap.size w w') := Lib.hid (by have := check_any n cao cb co cc cs w hca hcs (fun h => hcs.lt h); rw [hch] at this; exact this)
  have HLY : Hid (∀ W, Below w.heap.size w W → Calls Tryz.prog 52 #[.int .i64 n, .slice sao l.length sc] W (LayE 0 W)) := Lib.hid (fun W hb => by
    have := tlay_any n sao sb so sc l W hsa (fun h => Nat.lt_of_lt_of_le (specs_lt hsp h) hb.size) (hsp.stays hb (fun h => specs_lt hsp h)) (by omega)
    rw [h4] at this; exact this)
  have HSP := Lib.hid hsp
  have HSA := Lib.hid hsa
  have HALL := Lib.hid hall
  have hmm : ∀ w : World, (Instr.makeMap 94 none).run Tryz.prog w = .ok (.map (some w.heap.size)) (w.alloc (.map #[] 0)) := fun w => run_mkM w
  clear hsa hsp hca hcs hok h1 h2 h3 h4 hall hch
  go_enter Tryz.func44, Tryz.ntmps44
  go_wp2_with (first
    | (go_at_call 77; refine HCK.out.mono ?_; rintro e w1 ⟨rfl, hb1⟩; (have HL1 := Lib.hid (HLY.out w1 hb1)); (have HB1 := Lib.hid hb1); clear hb1)
    | (go_at_call 52; refine HL1.out.mono ?_; rintro e w2 ⟨v2, x2, rfl, hb2⟩; (have HB2 := Lib.hid (HB1.out.trans (hb2.mono HB1.out.size))); clear hb2))
  go_loopw [40] (fun k wr => ∃ (j : Nat) (mv : Value) (us : List Value), j ≤ l.length ∧ k = .int .i64 j ∧ SoAt wr n l ⟨w2.heap.size + 1, w2.heap.size, sao, sb, so, sc, w.heap.size⟩ mv j us ⟨(soNew n l).ms.take j, (soNew n l).la⟩ 0 ∧ Below w.heap.size w wr) (fun k _ => l.length - (intOf k).toNat)
  case atStart =>
    have hsz := HB2.out.size
    refine ⟨0, .slice none 0 0, [], Nat.zero_le _, rfl, ⟨?_, HSA.out, fun h => specs_lt HSP.out h, specs_keep HSP.out (fun h => ?_), World.ownsRow_nil _ _ _ _, WsAt.nil _ _, Off.nil _, ?_, ⟨hsz, Nat.lt_succ_self _⟩⟩, (HB2.out.alloc hsz _).alloc (by simp; omega) _⟩
    · have := heap_alloc_new (w2.alloc (.map #[] 0)) (soO n (.slice sao l.length sc) (.slice none 0 0) w2.heap.size)
      simpa using this
    · exact ((HB2.out.alloc hsz _).alloc (by simp; omega) _).block _ (specs_lt HSP.out h)
    · rw [laF_new]
      exact (MapIs.made _ _ w2 _).alloc _
  case round =>
    obtain ⟨j, mv, us, hj, rfl, hS, hbl⟩ := hrel
    have hsz := hbl.size
    have hlg := hS.lt
    by_cases hlt : j < l.length
    · obtain rfl := HSA.out (by omega)
      obtain ⟨x, hx⟩ : ∃ x, l[j]? = some x := ⟨l[j], List.getElem?_eq_getElem (by omega)⟩
      obtain ⟨c0, c1, c2⟩ := hS.sp j _ hx
      have hx0 := HALL.out x (List.mem_of_getElem? hx)
      have HN := Lib.hid (fun W => new_any n x.k x.p x.q hx0 W)
      have hTK : Hid ((soNew n l).ms.take (j + 1) = (soNew n l).ms.take j ++ [mdNew n x.k x.p]) := Lib.hid (take_snoc (by simp [soNew, hx]))
      obtain ⟨nm, hnm⟩ : ∃ nm, mdNew n x.k x.p = nm := ⟨_, rfl⟩
      rw [hnm] at HN hTK
      have HS := Lib.hid hS
      have HBL := Lib.hid hbl
      simp only at c0 c1 c2 hlg
      obtain ⟨mao, mg, mcap, rfl, o1, o2, o3, o4⟩ := owns_open hS.row
      clear hx hx0 hnm hS hbl o1 o2 o3 o4
      unfold Tb.specV at HN
      go_wp2_with (first
        | (go_at_call 53; refine (HN.out _).mono ?_; rintro e w5 ⟨v5, rfl, how, hb5⟩; (have HS5 := Lib.hid ((HS.out.alloc (.cells #[.int .i64 x.k, .int .i64 x.p, .int .i64 x.q] 63)).below hb5)); (have HOF5 := Lib.hid (off_new (HS.out.row.alloc (.cells #[.int .i64 x.k, .int .i64 x.p, .int .i64 x.q] 63)) how.argB (Nat.le_refl _))); (have HA5 := Lib.hid (how.argB.mono (show w2.heap.size + 1 + 1 ≤ _ by simp; omega))); (have HR5 := Lib.hid how.room); (have HB5 := Lib.hid ((HBL.out.alloc hsz _).trans (hb5.mono (by simp; omega)))); (obtain ⟨va, vc, rfl⟩ := how.arg.isSlice); (obtain ⟨e0, e1, e2, e3, z2⟩ := HS5.out.cells); (have hlg5 := HS5.out.lt); simp only at e0 e1 e2 e3 z2 hlg5; clear how hb5 c0 c1 c2)
        | (at_builtin; refine append_lie rfl _ _ 50 rfl (w2.heap.size + 1 + 1) 37 iI (.slice none 0 0) 1 24 Tryz.underlying50 ia ib ic id rfl (by decide) (by decide) _ j _ rfl HS5.out.row [.slice va nm.length vc] rfl rfl (fun u hu => by rw [List.mem_singleton.1 hu]; rfl) (by omega) (by omega) ?_; intro g6 cap6 w6 hr6 hg6 hl6; (have HP6 := Lib.hid (HS5.out.push HA5.out HR5.out hr6 hg6 hl6 HOF5.out)); (have f2 : w6.frozen? ⟨w2.heap.size + 1, 2, none⟩ = false := by have hne : (Value.slice mao j mcap).ownBlock ≠ some (w2.heap.size + 1) := fun e => (by have := (HS5.out.row.lt _ e).1; simp only at this; omega); exact (World.frozen?_of_block (a := ⟨w2.heap.size + 1, 2, none⟩) ((hg6.block _ (by simp; omega) (fun e => hne e.symm)).trans (Below.heap_alloc _ _ _ hlg5))).trans z2); (have k2 : w6.cell? ⟨w2.heap.size + 1, 2, none⟩ = some (.slice mao j mcap) := by have hne : (Value.slice mao j mcap).ownBlock ≠ some (w2.heap.size + 1) := fun e => (by have := (HS5.out.row.lt _ e).1; simp only at this; omega); exact (World.cell?_of_block (a := ⟨w2.heap.size + 1, 2, none⟩) ((hg6.block _ (by simp; omega) (fun e => hne e.symm)).trans (Below.heap_alloc _ _ _ hlg5))).trans e2); (have HB6 : Hid (Below w.heap.size w w6) := Lib.hid ((HB5.out.alloc HB5.out.size _).grown hg6 (by have := HB5.out.size; simp; omega) (fun b hb => by have := (HS5.out.row.lt b hb).1; have := HB2.out.size; simp only at *; omega))); clear hr6 hg6 hl6 e0 e1 e2 e3 z2))
      go_roundw
      case rel => exact ⟨j + 1, _, _, by omega, by go_num, by rw [hTK.out]; exact HP6.out, HB6.out.setCell (by have := HB2.out.size; show _ ≤ w2.heap.size + 1; omega) _⟩
      case measure => simp [intOf]; omega
    · have hjl : j = l.length := by omega
      subst hjl
      have hS2 : Hid (SoAt wr n l ⟨w2.heap.size + 1, w2.heap.size, sao, sb, so, sc, w.heap.size⟩ mv l.length us (soNew n l) 0) := Lib.hid (by
        have e : (soNew n l).ms.take l.length = (soNew n l).ms := List.take_of_length_le (by simp [soNew])
        rw [e] at hS; exact hS)
      clear hS
      go_wp2
      go_ret2
      exact ⟨_, _, _, rfl, hS2.out, rfl, hbl⟩

set_option maxHeartbeats 2000000 in
theorem begin_bad (n : Int) (sao cao : Option Addr) (sb so sc cb co cc : Nat) (l : List Tb.SpecL) (cs : List CallM) (w : World) (hsa : 0 < l.length → sao = some ⟨sb, so, none⟩) (hsp : Tb.SpecsAt w sb so l) (hca : 0 < cs.length → cao = some ⟨cb, co, none⟩) (hcs : CallsM w cb co cs) (hl : l.length ≤ 4294967296) (hbad : soErr n l cs ≠ 0) :
    Calls Tryz.prog 44 #[.int .i64 n, .slice sao l.length sc, .slice cao cs.length cc] w fun e w' => e = .returned (.tuple #[.pointer none, .int .i64 (soErr n l cs)]) ∧ Below w.heap.size w w' := by
  have HCK0 := check_any n cao cb co cc cs w hca hcs (fun h => hcs.lt h)
  by_cases hch : chErr n cs = 0
  · rw [hch] at HCK0
    rw [soErr_la hch] at hbad ⊢
    have HLY : Hid (∀ W, Below w.heap.size w W → Calls Tryz.prog 52 #[.int .i64 n, .slice sao l.length sc] W (LayE (laErr n l) W)) := Lib.hid (fun W hb =>
      tlay_any n sao sb so sc l W hsa (fun h => Nat.lt_of_lt_of_le (specs_lt hsp h) hb.size) (hsp.stays hb (fun h => specs_lt hsp h)) hl)
    obtain ⟨er, her⟩ : ∃ er, laErr n l = er := ⟨_, rfl⟩
    rw [her] at hbad HLY ⊢
    have HCK := Lib.hid HCK0
    clear HCK0 hsa hsp hca hcs her hch
    go_enter Tryz.func44, Tryz.ntmps44
    go_wp2_with (first
      | (go_at_call 77; refine HCK.out.mono ?_; rintro e w1 ⟨rfl, hb1⟩; (have HL1 := Lib.hid (HLY.out w1 hb1)); (have HB1 := Lib.hid hb1); clear hb1)
      | (go_at_call 52; refine HL1.out.mono ?_; rintro e w2 ⟨v2, x2, rfl, hb2⟩; (have HB2 := Lib.hid (HB1.out.trans (hb2.mono HB1.out.size))); clear hb2))
    go_ret2
    exact ⟨rfl, HB2.out⟩
  · rw [soErr_ch hch] at hbad ⊢
    obtain ⟨er, her⟩ : ∃ er, chErr n cs = er := ⟨_, rfl⟩
    rw [her] at hbad HCK0 ⊢
    have HCK := Lib.hid HCK0
    clear HCK0 hsa hsp hca hcs her hch
    go_enter Tryz.func44, Tryz.ntmps44
    go_wp2_with (go_at_call 77; refine HCK.out.mono ?_; rintro e w1 ⟨rfl, hb1⟩; (have HB1 := Lib.hid hb1); clear hb1)
    go_ret2
    exact ⟨rfl, HB1.out⟩
end
section
open Go.ChangeShapes Go.WideShapes Go.ChangeAt Go.RowKit Go.Maps
set_option linter.unusedVariables false
set_option linter.unusedSimpArgs false
set_option maxRecDepth 100000

theorem tk_eq (b1 : Bool) (t1 t : Int) (w : World) : (binOp .eql 149 (.agg #[.bool b1, .int .u64 t1]) (.agg #[.bool true, .int .u64 t])).run Tryz.prog w = .ok (.bool (b1 && (t1 == t))) w := by
  have u3 := Tryz.underlying55
  have u4 := Tryz.underlying4
  have hS : Tryz.prog.underlying 149 = some (.struct (Tryz.prog.fieldsOf 149)) := by kernel_rfl
  have hp : Tryz.prog.stoodInHeld 149 = false := by kernel_rfl
  rw [run_eql_struct, show (10000 : Nat) = 9999 + 1 from rfl, run_equalIn_agg w 9999 149 _ _ hS hp]
  simp only [Program.fieldsOf, Tryz.underlying149]
  go_simp
  cases b1
  · simp
  · by_cases h : t1 = t <;> simp [h]
theorem tkV_open {la t : Int} (hl : -1 ≤ la) (ht : 0 ≤ t) : ∃ b1 t1, tkV la = .agg #[.bool b1, .int .u64 t1] ∧ (b1 && (t1 == t)) = decide (la = t) := by
  unfold tkV
  split
  · exact ⟨_, _, rfl, by rw [decide_eq_false (by omega)]; rfl⟩
  · refine ⟨_, _, rfl, ?_⟩
    rw [Bool.true_and, Bool.eq_iff_iff, beq_iff_eq, decide_eq_true_eq]
theorem zeroTk (w : World) : (zeroValue 149).run Tryz.prog w = .ok (tkV (-1)) w := by kernel_rfl
theorem SoAt.look {w : World} {n : Int} {l : List Tb.SpecL} {q : SoM} {mv : Value} {r : Nat} {us : List Value} {s : SoS} {k : Nat} (h : SoAt w n l q mv r us s k) {i : Nat} (hi : i < 16) (m : Nat) :
    (Instr.lookup 94 (.map (some q.mb)) (.int .i64 (i : Int)) false).run Tryz.prog (w.drewN m) = .ok (tkV (s.la.getD i (-1))) (w.drewN m) := by
  have := (h.map.drewN m).look (t := 94) Tryz.underlying3 Tryz.underlying94 (zeroTk _) (a := (i : Int)) (WalkArith.wf_i64 (by omega))
  rw [this]
  unfold laF
  rw [if_pos (by omega), Int.toNat_natCast]
/-- the model of one object: where it lies -/
theorem SoAt.model {w : World} {n : Int} {l : List Tb.SpecL} {q : SoM} {mv : Value} {us : List Value} {s : SoS} {k : Nat} (h : SoAt w n l q mv l.length us s k) (hm : s.ms.length = l.length) {i : Nat} (hi : i < l.length) :
    ∃ mg mcap u, mv = .slice (some ⟨mg, 0, none⟩) l.length mcap ∧ q.g < mg ∧ mg < w.heap.size ∧ us[i]? = some u ∧ w.cell? ⟨mg, i, none⟩ = some u ∧ w.frozen? ⟨mg, i, none⟩ = false ∧ ArgB w (q.g + 1) u (s.ms.getD i []) ∧ Room u := by
  have hr := h.row
  obtain ⟨ao, mg, mcap, rfl, o1, o2, o3, o4⟩ := owns_open hr
  obtain rfl := o1 (by omega)
  obtain ⟨u, hu⟩ : ∃ u, us[i]? = some u := ⟨_, List.getElem?_eq_getElem (by rw [h.ws.1, hm]; exact hi)⟩
  obtain ⟨m, hmm⟩ : ∃ m, s.ms[i]? = some m := ⟨_, List.getElem?_eq_getElem (by rw [hm]; exact hi)⟩
  obtain ⟨ha, hroom⟩ := h.ws.2 i u m hu hmm
  have o2' := o2 (by omega)
  exact ⟨mg, mcap, u, rfl, by omega, o3 (by omega), hu, o4 i u hu, World.ownsRow.frozenAt hr i, by rw [getD_some' hmm]; exact ha, hroom⟩

set_option maxHeartbeats 1000000 in
theorem so_has (n : Int) (l : List Tb.SpecL) (g : Nat) (ao : Option Addr) (c : Nat) (ob : Int) (w : World) (h : w.cell? ⟨g, 1, none⟩ = some (.slice ao l.length c)) :
    Calls Tryz.prog 46 #[.pointer (some ⟨g, 0, none⟩), .int .i64 ob] w fun e w' => e = .returned (.bool (decide (0 ≤ ob ∧ ob < l.length))) ∧ ∃ m, w' = w.drewN m := by
  by_cases h0 : 0 ≤ ob
  · have d0 : decide (0 ≤ ob) = true := decide_eq_true h0
    by_cases h1 : ob < l.length
    · have d1 : decide (ob < (l.length : Int)) = true := decide_eq_true h1
      have hd : Hid (decide (0 ≤ ob ∧ ob < (l.length : Int)) = true) := Lib.hid (decide_eq_true ⟨h0, h1⟩)
      rw [hd.out]
      go_enter Tryz.func46, Tryz.ntmps46
      go_wp2_with fail
      go_ret
      exact ⟨rfl, 0, rfl⟩
    · have d1 : decide (ob < (l.length : Int)) = false := decide_eq_false h1
      have hd : Hid (decide (0 ≤ ob ∧ ob < (l.length : Int)) = false) := Lib.hid (decide_eq_false (fun h => h1 h.2))
      rw [hd.out]
      go_enter Tryz.func46, Tryz.ntmps46
      go_wp2_with fail
      go_ret
      exact ⟨rfl, 0, rfl⟩
  · have d0 : decide (0 ≤ ob) = false := decide_eq_false h0
    have hd : Hid (decide (0 ≤ ob ∧ ob < (l.length : Int)) = false) := Lib.hid (decide_eq_false (fun h => h0 h.1))
    rw [hd.out]
    go_enter Tryz.func46, Tryz.ntmps46
    go_wp2_with fail
    go_ret
    exact ⟨rfl, 0, rfl⟩

set_option maxHeartbeats 2000000 in
theorem places_any (n : Int) (l : List Tb.SpecL) (q : SoM) (mv : Value) (us : List Value) (s : SoS) (k : Nat) (t i : Nat) (kd : Int) (a b c : Nat) (w : World) (h : SoAt w n l q mv l.length us s k) (hm : s.ms.length = l.length) (hi : i < l.length) (hl8 : l.length ≤ 8) (ht : t < 16) (he : (s.ms.getD i []).length % 2 = 0) (hl : (s.ms.getD i []).length ≤ 4000000) (hla : -1 ≤ s.la.getD i (-1)) :
    Calls Tryz.prog 102 #[.pointer (some ⟨q.g, 0, none⟩), callV (t : Int) (i : Int) kd (a : Int) (b : Int) (c : Int)] w fun e w' => e = .returned (.int .i64 (usedN (t : Int) (s.ms.getD i []) (s.la.getD i (-1)) : Nat)) ∧ Below w.heap.size w w' := by
  obtain ⟨R, hR⟩ : ∃ R : Nat, usedN (t : Int) (s.ms.getD i []) (s.la.getD i (-1)) = R := ⟨_, rfl⟩
  rw [hR]
  have HR := Lib.hid hR
  have hS0 := h.alloc (callO (t : Int) (i : Int) kd (a : Int) (b : Int) (c : Int))
  have hlook := fun m => hS0.look (show i < 16 by omega) m
  obtain ⟨b1, t1, e1, e2⟩ := tkV_open (t := (t : Int)) hla (by omega)
  rw [e1] at hlook
  have heq := fun w => tk_eq b1 t1 (t : Int) w
  simp only [e2] at heq
  have hgd : Tryz.prog.eqGuardType Tryz.prog.depth 149 = false := by kernel_rfl
  obtain ⟨g0, g1, g2, g3, _⟩ := hS0.cells
  obtain ⟨mg, mcap, u, rfl, _, _, _, m0, _, hA, _⟩ := hS0.model hm hi
  generalize s.ms.getD i [] = m at *
  generalize s.la.getD i (-1) = la at *
  have hcb := heap_alloc_new w (callO (t : Int) (i : Int) kd (a : Int) (b : Int) (c : Int))
  have c0 := Tb.cell_of_blkT (k := 0) hcb rfl
  have c1 := Tb.cell_of_blkT (k := 1) hcb rfl
  have HB : Hid (Below w.heap.size w (w.alloc (callO (t : Int) (i : Int) kd (a : Int) (b : Int) (c : Int)))) := Lib.hid ((Below.refl _ _).alloc (Nat.le_refl _) _)
  obtain ⟨ao, ub, uo, ucap, rfl, hA1, hA2, hA3⟩ := hA
  unfold wU at hA3
  have HA := Lib.hid hA1
  have HC := Lib.hid hA3
  have HO := Lib.hid (mdOwn_le t)
  have HRu : Hid (∀ oc : Nat, oc = mdOwn t m → R = oc + (if la = (t : Int) then 1 else 0)) := Lib.hid (fun oc h => by rw [h, ← HR.out]; unfold usedN; rw [Int.toNat_natCast])
  have HL := Lib.hid hlook
  have hii : (i : Int) < (l.length : Int) := by omega
  clear h hS0 hR HR e1 e2 hcb hA1 hA2 hA3 hla hlook
  generalize hw0 : w.alloc (callO (t : Int) (i : Int) kd (a : Int) (b : Int) (c : Int)) = w0 at *
  unfold callO at hw0
  unfold callV
  go_enter Tryz.func102, Tryz.ntmps102
  go_wp2_with fail
  go_quiet (fail)
  go_wp2
  go_loopw [6, 8] (fun o i wr => ∃ j oc k : Nat, j ≤ m.length ∧ i = .int .i64 j ∧ o = .int .i64 oc ∧ j % 2 = 0 ∧ oc ≤ j ∧ Hid (oc + mdOwn t (m.drop j) = mdOwn t m) ∧ wr = w0.drewN k) (fun _ i _ => m.length - (intOf i).toNat)
  case atStart => exact ⟨0, 0, _, Nat.zero_le _, rfl, rfl, rfl, Nat.le_refl _, Lib.hid (by simp), rfl⟩
  case round =>
    obtain ⟨j, oc, k, hj, rfl, rfl, hj2, hoj, hp, rfl⟩ := hrel
    by_cases hlt : j < m.length
    · obtain rfl := HA.out (by omega) |>.1
      obtain ⟨x, hx⟩ : ∃ x, m[j]? = some x := ⟨m[j], List.getElem?_eq_getElem hlt⟩
      have d1 := HC.out j x hx
      have HS := Lib.hid (mdOwn_step (t := t) hx (by omega))
      clear hx
      by_cases hxt : x = t
      · subst hxt
        have HN : Hid (oc + 1 + mdOwn x (m.drop (j + 2)) = mdOwn x m) := Lib.hid (by rw [← hp.out, HS.out, if_pos rfl]; omega)
        clear HS
        go_wp2_with fail
        go_roundw
        case rel => exact ⟨j + 2, oc + 1, _, by omega, by go_num, by go_num, by omega, by omega, HN, rfl⟩
        case measure => simp [intOf]; omega
      · have HN : Hid (oc + mdOwn t (m.drop (j + 2)) = mdOwn t m) := Lib.hid (by rw [← hp.out, HS.out, if_neg hxt]; omega)
        have hd2 : ((x : Int) == (t : Int)) = false := by rw [beq_eq_false_iff_ne]; omega
        have hd3 : decide ((x : Int) = (t : Int)) = false := decide_eq_false (by omega)
        clear HS
        go_wp2_with fail
        go_roundw
        case rel => exact ⟨j + 2, oc, _, by omega, by go_num, rfl, by omega, by omega, HN, rfl⟩
        case measure => simp [intOf]; omega
    · have : j = m.length := by omega
      subst this
      have HE : Hid (oc = mdOwn t m) := Lib.hid (by rw [← hp.out, List.drop_length]; rfl)
      have hlk := fun n2 => HL.out n2
      by_cases hlt2 : la = (t : Int)
      · have HRR : Hid (R = oc + 1) := Lib.hid (by rw [HRu.out oc HE.out, if_pos hlt2])
        have heq2 : ∀ w, (binOp .eql 149 (.agg #[.bool b1, .int .u64 t1]) (.agg #[.bool true, .int .u64 (t : Int)])).run Tryz.prog w = .ok (.bool true) w := fun w => by rw [heq w, decide_eq_true hlt2]
        clear heq hlt2
        go_wp2_with fail
        go_quiet (fail)
        go_wp2
        go_ret
        exact ⟨by rw [HRR.out]; go_num, by first | exact below_drewN HB.out _ | exact below_drewN (below_drewN HB.out _) _⟩
      · have HRR : Hid (R = oc) := Lib.hid (by rw [HRu.out oc HE.out, if_neg hlt2]; rfl)
        have heq2 : ∀ w, (binOp .eql 149 (.agg #[.bool b1, .int .u64 t1]) (.agg #[.bool true, .int .u64 (t : Int)])).run Tryz.prog w = .ok (.bool false) w := fun w => by rw [heq w, decide_eq_false hlt2]
        clear heq hlt2
        go_wp2_with fail
        go_quiet (fail)
        go_wp2
        go_ret
        exact ⟨by rw [HRR.out]; rfl, by first | exact below_drewN HB.out _ | exact below_drewN (below_drewN HB.out _) _⟩
end
section
open Go.ChangeShapes Go.WideShapes Go.ChangeAt Go.RowKit Go.Maps
set_option linter.unusedVariables false
set_option linter.unusedSimpArgs false
set_option maxRecDepth 100000

theorem grown_set (w : World) (b j : Nat) (v : Value) : w.grownBy (w.setCell ⟨b, j, none⟩ v) (some b) := ⟨rfl, rfl, rfl, by simp, fun k hk hne => Below.heap_setCell _ _ _ _ (fun e => hne (by rw [e]))⟩
/-- a store elsewhere -/
theorem SoAt.far {w : World} {n : Int} {l : List Tb.SpecL} {q : SoM} {mv : Value} {r : Nat} {us : List Value} {s : SoS} {k : Nat} (h : SoAt w n l q mv r us s k) {b : Nat} (hb : q.g < b) (hm : mv.ownBlock ≠ some b) (hu : ∀ u ∈ us, ∀ b', blkOf u = some b' → b' ≠ b) (j : Nat) (v : Value) : SoAt (w.setCell ⟨b, j, none⟩ v) n l q mv r us s k :=
  h.keep (grown_set w b j v) (fun b' e => by cases e; exact hb) (.inr hm) (fun u hu' b' hb' e => hu u hu' b' hb' (by cases e; rfl))
/-- another model -/
theorem SoAt.stored {w : World} {n : Int} {l : List Tb.SpecL} {q : SoM} {mg mcap : Nat} {us : List Value} {ms : List (List Nat)} {la : List Int} {k : Nat} (h : SoAt w n l q (.slice (some ⟨mg, 0, none⟩) l.length mcap) l.length us ⟨ms, la⟩ k) (i : Nat) {u : Value} {m : List Nat} (hu : ArgB w (q.g + 1) u m) (hr : Room u) (ho : ∀ b, blkOf u = some b → b ≠ mg) :
    SoAt (w.setCell ⟨mg, i, none⟩ u) n l q (.slice (some ⟨mg, 0, none⟩) l.length mcap) l.length (us.set i u) ⟨ms.set i m, la⟩ k := by
  have hrow := World.ownsRow.stored h.row i u
  have hmg : q.g + 1 ≤ mg := (h.row.lt mg rfl).1
  have hmc := h.mC
  have hW := h.ws.set i hu hr
  have hO : Off (.slice (some ⟨mg, 0, none⟩) l.length mcap) (us.set i u) := h.off.set i (fun b hb e => ho b hb (by simp only [Value.ownBlock, Option.some.injEq] at e; exact e.symm))
  have hk : ∀ b, b ≠ mg → (w.setCell ⟨mg, i, none⟩ u).heap[b]? = w.heap[b]? := fun b hb => Below.heap_setCell _ _ _ _ hb
  refine ⟨(hk _ (by omega)).trans h.st, h.sa, h.sl, specs_keep h.sp (fun hl => hk _ (by have := h.sl hl; omega)), hrow.1, hW.keepE (fun u' hu' b hb => hk b (fun e => hO u' hu' b hb (by rw [e]; rfl))), hO, h.map.same (hk _ (by omega)), hmc⟩
theorem updF_laF {la : List Int} {i : Nat} (hi : i < la.length) (t : Int) : updF (laF la) (i : Int) (tkV t) = laF (la.set i t) := by
  funext a
  by_cases ha : a = (i : Int)
  · subst ha
    rw [updF_same]
    unfold laF
    rw [if_pos (by omega), Int.toNat_natCast, getD_set_same hi]
  · rw [updF_other _ _ ha]
    unfold laF
    split
    · rw [getD_set_ne (by omega)]
    · rfl
/-- another one whose value was taken last -/
theorem SoAt.took {w w' : World} {n : Int} {l : List Tb.SpecL} {q : SoM} {mv : Value} {r : Nat} {us : List Value} {ms : List (List Nat)} {la : List Int} {k : Nat} (h : SoAt w n l q mv r us ⟨ms, la⟩ k) {i : Nat} (hi : i < la.length) (t : Int)
    (hM : MapIs Tryz.prog 3 w' q.mb (k + 1) (tkV (-1)) (updF (laF la) (i : Int) (tkV t))) (hT : w.mapTurned w' q.mb) : SoAt w' n l q mv r us ⟨ms, la.set i t⟩ (k + 1) := by
  have hg := hT.grown
  have hmc := h.mC
  have hne : ∀ b, b ≠ q.mb → some b ≠ some q.mb := fun b h e => h (by cases e; rfl)
  have hlt := h.lt
  have hws : ∀ u ∈ us, ∀ b, blkOf u = some b → b < w.heap.size ∧ b ≠ q.mb := fun u hu b hb => by
    have := h.ws.lt hu hb
    exact ⟨this.2, by omega⟩
  refine ⟨(hg.block _ hlt (hne _ (by omega))).trans h.st, h.sa, h.sl, specs_keep h.sp (fun hl => hg.block _ (specs_lt h.sp hl) (hne _ (by have := h.sl hl; omega))), h.row.kept hg ?_, h.ws.keepE (fun u hu b hb => hg.block b (hws u hu b hb).1 (hne _ (hws u hu b hb).2)), h.off, ?_, hmc⟩
  · rcases hv : mv.ownBlock with _ | g
    · exact .inl rfl
    · have := (h.row.lt g hv).1
      exact .inr (hne _ (by omega))
  · rw [← updF_laF hi]; exact hM

/-- what may turn at a call: the models' row, the map -/
structure FrN (q : SoM) (mv : Value) (w w' : World) : Prop where
  os : w'.os = w.os
  tape : w'.tape = w.tape
  output : w'.output = w.output
  size : w.heap.size ≤ w'.heap.size
  block : ∀ b, b < w.heap.size → b ≠ q.mb → mv.ownBlock ≠ some b → w'.heap[b]? = w.heap[b]?
theorem FrN.of_below {q : SoM} {mv : Value} {w w' : World} (h : Below w.heap.size w w') : FrN q mv w w' := ⟨h.os, h.tape, h.output, h.size, fun b hb _ _ => h.block b hb⟩
theorem FrN.trans {q : SoM} {mv : Value} {a b c : World} (h : FrN q mv a b) (k : FrN q mv b c) : FrN q mv a c :=
  ⟨k.os.trans h.os, k.tape.trans h.tape, k.output.trans h.output, Nat.le_trans h.size k.size, fun i hi h1 h2 => (k.block i (Nat.lt_of_lt_of_le hi h.size) h1 h2).trans (h.block i hi h1 h2)⟩
theorem FrN.set {q : SoM} {mv : Value} {a w : World} (h : FrN q mv a w) {b : Nat} (hb : mv.ownBlock = some b ∨ a.heap.size ≤ b) (j : Nat) (v : Value) : FrN q mv a (w.setCell ⟨b, j, none⟩ v) :=
  ⟨h.os, h.tape, h.output, by simpa using h.size, fun i hi h1 h2 => (Below.heap_setCell _ _ _ _ (fun e => by subst e; rcases hb with hb | hb; exact h2 hb; omega)).trans (h.block i hi h1 h2)⟩
theorem FrN.map {q : SoM} {mv : Value} {a w w' : World} (h : FrN q mv a w) (hT : w.mapTurned w' q.mb) : FrN q mv a w' := by
  have hg := hT.grown
  exact ⟨hg.os.trans h.os, hg.tape.trans h.tape, hg.output.trans h.output, Nat.le_trans h.size hg.size, fun i hi h1 h2 => (hg.block i (Nat.lt_of_lt_of_le hi h.size) (fun e => h1 (by cases e; rfl))).trans (h.block i hi h1 h2)⟩
theorem FrN.drew {q : SoM} {mv : Value} {a w : World} (h : FrN q mv a w) : FrN q mv a w.drew := ⟨h.os, h.tape, h.output, h.size, h.block⟩
theorem FrN.drewN {q : SoM} {mv : Value} {a w : World} (h : FrN q mv a w) (m : Nat) : FrN q mv a (w.drewN m) := ⟨h.os, h.tape, h.output, h.size, h.block⟩
theorem FrN.toBelow {q : SoM} {mv : Value} {a w : World} (h : FrN q mv a w) {B : Nat} (h1 : B ≤ q.mb) (h2 : ∀ b, mv.ownBlock = some b → B ≤ b) (hB : B ≤ a.heap.size) : Below B a w :=
  ⟨h.os, h.tape, h.output, h.size, fun b hb => h.block b (by omega) (by omega) (fun e => by have := h2 b e; omega)⟩

/-- what a call leaves -/
def NxP (n : Int) (l : List Tb.SpecL) (q : SoM) (mv : Value) (us : List Value) (k : Nat) (w : World) (r : SoS × MdR) (e : Ending) (w' : World) : Prop :=
  ∃ us' k' lv, e = .returned (.agg #[.int .i64 (r.2.err : Int), .int .u64 (r.2.val : Int), lv]) ∧ SoAt w' n l q mv l.length us' r.1 k' ∧ ArgB w' w.heap.size lv r.2.ls ∧ (∀ u ∈ us', u ∈ us ∨ ∀ b, blkOf u = some b → w.heap.size ≤ b) ∧ k' ≤ k + 1 ∧ FrN q mv w w'

set_option maxHeartbeats 2000000 in
theorem next_bad (n : Int) (l : List Tb.SpecL) (q : SoM) (mv : Value) (us : List Value) (s : SoS) (k : Nat) (th ob kd : Int) (a b c : Nat) (w : World) (h : SoAt w n l q mv l.length us s k) (hno : ¬ (0 ≤ ob ∧ ob < l.length)) :
    Calls Tryz.prog 78 #[.pointer (some ⟨q.g, 0, none⟩), callV th ob kd (a : Int) (b : Int) (c : Int)] w (NxP n l q mv us k w (s, ⟨[], 12, 0, []⟩)) := by
  have hS0 := (h.alloc (callO th ob kd (a : Int) (b : Int) (c : Int))).alloc (ansC 0 0 (.slice none 0 0))
  obtain ⟨g0, g1, g2, g3, _⟩ := hS0.cells
  have hB0 : Below w.heap.size w ((w.alloc (callO th ob kd (a : Int) (b : Int) (c : Int))).alloc (ansC 0 0 (.slice none 0 0))) := ((Below.refl _ _).alloc (Nat.le_refl _) _).alloc (by simp) _
  have HC := Lib.hid (fun (W : World) (e : W.cell? ⟨q.g, 1, none⟩ = some (.slice q.sao l.length q.sc)) => so_has n l q.g q.sao q.sc ob W e)
  have hd : decide (0 ≤ ob ∧ ob < (l.length : Int)) = false := decide_eq_false hno
  simp only [hd] at HC
  have hcb : ((w.alloc (callO th ob kd (a : Int) (b : Int) (c : Int))).alloc (ansC 0 0 (.slice none 0 0))).heap[w.heap.size]? = some (callO th ob kd (a : Int) (b : Int) (c : Int)) := (Below.heap_alloc _ _ _ (by simp)).trans (heap_alloc_new _ _)
  have hrb : ((w.alloc (callO th ob kd (a : Int) (b : Int) (c : Int))).alloc (ansC 0 0 (.slice none 0 0))).heap[w.heap.size + 1]? = some (ansC 0 0 (.slice none 0 0)) := by
    have := heap_alloc_new (w.alloc (callO th ob kd (a : Int) (b : Int) (c : Int))) (ansC 0 0 (.slice none 0 0))
    rw [World.size_alloc] at this; exact this
  have c1 := Tb.cell_of_blkT (k := 1) hcb rfl
  have k0 := Tb.cell_of_blkT (k := 0) hrb rfl
  have k1 := Tb.cell_of_blkT (k := 1) hrb rfl
  have k2 := Tb.cell_of_blkT (k := 2) hrb rfl
  have z0 := Tb.free_of_blkT (k := 0) hrb
  have z1 := Tb.free_of_blkT (k := 1) hrb
  have z2 := Tb.free_of_blkT (k := 2) hrb
  have HS := Lib.hid hS0
  have HB := Lib.hid hB0
  have HLT := Lib.hid h.lt
  have HROW := Lib.hid h.row
  have HWS := Lib.hid h.ws
  clear h hS0 hcb hrb hno hd hB0 g0 g2 g3
  generalize hw0 : (w.alloc (callO th ob kd (a : Int) (b : Int) (c : Int))).alloc (ansC 0 0 (.slice none 0 0)) = w0 at *
  unfold callO ansC at hw0
  unfold callV
  go_enter Tryz.func78, Tryz.ntmps78
  go_wp2_with (go_at_call 46; refine (HC.out _ g1).mono ?_; rintro e w5 ⟨rfl, m5, rfl⟩)
  refine bodyPost_ret (v := .agg #[.int .i64 12, .int .u64 0, .slice none 0 0]) (by simp [results, Tryz.results78, go_sem, k0, k1, k2]) rfl ⟨us, k, _, rfl, ?_, ArgB.nil _ _, fun u hu => .inl hu, by omega, ?_⟩
  · have hm : mv.ownBlock ≠ some (w.heap.size + 1) := fun e => by have := (HROW.out.lt _ e).2; omega
    have hu : ∀ u ∈ us, ∀ b', blkOf u = some b' → b' ≠ w.heap.size + 1 := fun u hu b' hb => by have := (HWS.out.lt hu hb).2; omega
    have hg : q.g < w.heap.size + 1 := by have := HLT.out; omega
    exact (((HS.out.drewN m5).far hg hm hu _ _).far hg hm hu _ _).far hg hm hu _ _
  · exact FrN.of_below (put3_below (below_drewN HB.out m5) (by omega) _ _ _)
end
end Go.Proofs.YtjjleghalajidaaGreat
