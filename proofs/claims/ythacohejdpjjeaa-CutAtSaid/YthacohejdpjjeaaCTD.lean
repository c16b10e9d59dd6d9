/- cut: the ticks of a play. -/
import Derived.Test.YthacohejdpjjeaaCTC
import Derived.Deep.RegionHeld3
import Derived.BigQuiet
namespace Go.Proofs.Ythacohejdpjjeaa
open Go.RowKit Go.Lib Go.Sort
set_option linter.unusedVariables false

theorem NumsAt.up {w : World} {top top' : Nat} {v : Value} {l : List Nat} (h : NumsAt w top v l) (ht : top ≤ top') : NumsAt w top' v l := by
  obtain ⟨ao, b, o, cap, rfl, ha, r⟩ := h
  exact ⟨ao, b, o, cap, rfl, fun h0 => ⟨(ha h0).1, Nat.lt_of_lt_of_le (ha h0).2 ht⟩, r⟩
theorem LineIs.up {w : World} {top top' lb mb n : Nat} {f : Int → Value} {own : Int → List Nat} (h : LineIs w top lb mb n f own) (ht : top ≤ top') : LineIs w top' lb mb n f own :=
  ⟨h.cell, h.map, fun p => (h.rows p).up ht, h.dom, Nat.lt_of_lt_of_le h.lt1 ht, Nat.lt_of_lt_of_le h.lt2 ht⟩
theorem cell_kept {w : World} {a b o k : Nat} {v u : Value} (h : w.cell? ⟨a, o, none⟩ = some u) (hn : a ≠ b) : (w.setCell ⟨b, k, none⟩ v).cell? ⟨a, o, none⟩ = some u := by
  rw [← h]
  unfold World.cell?
  rw [Below.heap_setCell w ⟨b, k, none⟩ v a (show a ≠ b from hn)]
theorem infoTk : (Try.prog.info? 46).map (fun i => (i.zero, i.size, i.bytes)) = some (some (.agg #[.int .i64 0, .int .i64 0, .bool false, .bool false]), 4, 24) := by kernel_rfl
/-- what Ticks gives -/
def TicksP (n : Int) (cs : List CallV) (le : List (EvX × EvS)) (ps : List Int) (w : World) (e : Ending) (w' : World) : Prop :=
  (wrongC n (thr cs) ps.length ≠ 0 → e = .returned (.tuple #[.slice none 0 0, .int .i64 (wrongC n (thr cs) ps.length : Nat)])) ∧
  (wrongC n (thr cs) ps.length = 0 → ∃ v, e = .returned (.tuple #[v, .int .i64 0]) ∧ w'.ownsRow w.heap.size 46 4 v (ticksOf (thr cs) (exs le) ps).length (tkRows (thr cs) (exs le) 0 (ticksOf (thr cs) (exs le) ps))) ∧ Below w.heap.size w w'
/-- in the middle -/
structure TkSt (cs : List CallV) (le : List (EvX × EvS)) (ps : List Int) (w : World) (lb mb eb B j : Nat) (fin : List Bool) (acc : List Nat) (v : Value) (wr : World) : Prop where
  line : ∃ f N, LineIs wr B lb mb N f (ownL (thr cs) fin) ∧ N ≤ cs.length + j
  evs : MapN Try.prog 3 wr eb le.length (evG (exs le))
  row : wr.ownsRow B 46 4 v acc.length (tkRows (thr cs) (exs le) 0 acc)
  tot : acc ++ tickGo (thr cs) (exs le) (ps.drop j) fin acc.length = ticksOf (thr cs) (exs le) ps
  len : acc.length ≤ j
  below : Below w.heap.size w wr
  size : B ≤ wr.heap.size

theorem TkSt.next {cs : List CallV} {le : List (EvX × EvS)} {ps : List Int} {w : World} {lb mb eb B j : Nat} {fin : List Bool} {acc : List Nat} {v : Value} {wr : World} (h : TkSt cs le ps w lb mb eb B j fin acc v wr)
    {p : Int} {i : Nat} (hp : ps.drop j = p :: ps.drop (j + 1)) (hn : nowOf (thr cs) fin p = some i) {F L : Bool} (hF : firstT (exs le) i (acc.length + 1) = F) (hL : lastT (exs le) i (acc.length + 1) = L) (hts : (thr cs).getD i 0 = p)
    {w' : World} {v' : Value} (hline : ∃ f N, LineIs w' B lb mb N f (ownL (thr cs) (if L = true then fin.set i true else fin)) ∧ N ≤ cs.length + (j + 1)) (hev : MapN Try.prog 3 w' eb le.length (evG (exs le)))
    (hrow : w'.ownsRow B 46 4 v' (acc.length + 1) (tkRows (thr cs) (exs le) 0 acc ++ [.int .i64 p, .int .i64 (i : Int), .bool F, .bool L])) (hb : Below w.heap.size w w') (hs : B ≤ w'.heap.size) :
    TkSt cs le ps w lb mb eb B (j + 1) (if L = true then fin.set i true else fin) (acc ++ [i]) v' w' := by
  refine ⟨hline, hev, ?_, ?_, ?_, hb, hs⟩
  · rw [tkRows_snoc, Nat.zero_add, tkVs, hts, hF, hL, List.length_append]
    exact hrow
  · have ht := h.tot
    rw [hp, tickGo_some hn, hL] at ht
    rw [List.append_assoc, List.length_append]
    exact ht
  · have := h.len
    rw [List.length_append]
    show acc.length + 1 ≤ j + 1
    omega

set_option maxRecDepth 100000 in
set_option maxHeartbeats 4000000 in
theorem ticks_any (n : Int) (ao : Option Addr) (b o cap : Nat) (cs : List CallV) (ea : Option Addr) (eb eo ec : Nat) (le : List (EvX × EvS)) (pa : Option Addr) (pb po pc : Nat) (ps : List Int) (w : World)
    (hc : CallsAt w b o cs) (ha : 0 < cs.length → ao = some ⟨b, o, none⟩) (hb : 0 < cs.length → b < w.heap.size) (he : EvsR w ea eb eo le) (hel : le.length ≤ 4000000)
    (hpa : 0 < ps.length → pa = some ⟨pb, po, none⟩) (hpb : 0 < ps.length → pb < w.heap.size) (hpc : ICells w pb po ps) (hwf : ps.length ≤ 9223372036854775807) :
    Calls Try.prog 8 #[.int .i64 n, .slice ao cs.length cap, .slice ea le.length ec, .slice pa ps.length pc] w (TicksP n cs le ps w) := by
  have HBG := Lib.hid (begin_any n ao b o cap cs pa ps.length pc w hc ha hb)
  have HBY : Hid (∀ W, Below w.heap.size w W → Calls Try.prog 20 #[.slice ea le.length ec] W fun e w' => ∃ b, e = .returned (.map (some b)) ∧ W.heap.size ≤ b ∧ MapN Try.prog 3 w' b le.length (evG (exs le)) ∧ Below W.heap.size W w') := Lib.hid (fun W hW => byCall_any ea eb eo ec le W (he.below hW) hel)
  have HE := Lib.hid he
  have HPA := Lib.hid hpa
  have HPB := Lib.hid hpb
  have HPC := Lib.hid hpc
  have HEL := Lib.hid hel
  obtain ⟨iT, ja, jb, jc, jd⟩ := info_parts infoTk
  clear hc ha hb he hpa hpb hpc hel
  go_enter Try.func8, Try.ntmps8
  go_wp2_with fail
  refine HBG.out.mono ?_
  rintro e w1 ⟨h1, h2, hb1⟩
  have HB1 := Lib.hid hb1
  clear hb1
  by_cases h0 : wrongC n (thr cs) ps.length = 0
  rotate_left
  · have h3 := h1 h0
    subst h3
    have HZ := Lib.hid h0
    have hz : ((wrongC n (thr cs) ps.length : Nat) : Int) ≠ 0 := by omega
    have hz2 : (((wrongC n (thr cs) ps.length : Nat) : Int) == 0) = false := by rw [beq_eq_false_iff_ne]; exact hz
    clear h1 h2 h0
    generalize hk : wrongC n (thr cs) ps.length = k at hz hz2 ⊢
    have HK := Lib.hid hk
    have hz3 : ¬ k = 0 := by omega
    clear hk
    go_wp2_with fail
    go_ret2
    exact ⟨fun _ => by rw [HK.out]; rfl, fun h => absurd (HK.out.symm.trans h) hz3, HB1.out⟩
  · obtain ⟨lb, mb, f, rfl, hlb, hmb, hL⟩ := h2 h0
    have HZ := Lib.hid h0
    have HPL : Hid (ps.length ≤ 65536 ∧ cs.length ≤ 1000) := Lib.hid (by
      have h3 := h0
      unfold wrongC at h3
      split at h3
      · omega
      · split at h3
        · omega
        · have := (wrongL_inv h3).2.1; rw [thr_len] at this; omega)
    have HL := Lib.hid hL
    clear h1 h2 h0 hL
    go_wp2_with fail
    refine (HBY.out _ HB1.out).mono ?_
    rintro e w2 ⟨gb, rfl, hgb, hM, hb2⟩
    obtain ⟨B, hBB⟩ : ∃ B, w2.heap.size = B := ⟨_, rfl⟩
    have hs1 := HB1.out.size
    have hs2 := hb2.size
    have hmb1 := HL.out.lt2
    have hlb1 := HL.out.lt1
    have hgB : gb < B := by rw [← hBB]; exact hM.lt
    have HIN : Hid (TkSt cs le ps w lb mb gb B 0 (List.replicate cs.length false) [] (.slice none 0 0) w2) := Lib.hid
      ⟨⟨f, cs.length, (HL.out.stays hb2 (Nat.le_refl _)).up (by omega), by omega⟩, hM, by rw [← hBB]; exact World.ownsRow_nil _ _ _ _, by rw [ticksOf, thr_len]; rfl, Nat.zero_le _, HB1.out.trans (hb2.mono hs1), by omega⟩
    have HSB : Hid (w.heap.size ≤ B ∧ mb < gb ∧ lb < B ∧ w.heap.size ≤ mb) := Lib.hid (by omega)
    have HGB := Lib.hid hgB
    clear hM hb2 hlb hmb hgb hBB hs1 hs2 hmb1 hlb1 hgB HL
    go_wp2_with fail
    go_loopw [13, 36] (fun v k wr => ∃ (j : Nat) (fin : List Bool) (acc : List Nat), j ≤ ps.length ∧ k = .int .i64 j ∧ Hid (TkSt cs le ps w lb mb gb B j fin acc v wr)) (fun _ k _ => ps.length - (RowKit.intOf k).toNat)
    case atStart => exact ⟨0, _, [], Nat.zero_le _, rfl, HIN⟩
    case round =>
      obtain ⟨j, fin, acc, hj, rfl, HS⟩ := hrel
      by_cases hlt : j < ps.length
      · obtain rfl := HPA.out (by omega)
        obtain ⟨p, hp⟩ : ∃ p, ps[j]? = some p := ⟨ps[j], List.getElem?_eq_getElem hlt⟩
        have hpbw : pb < w.heap.size := HPB.out (by omega)
        have hpcl : wr.cell? ⟨pb, po + j, none⟩ = some (.int .i64 p) := (HS.out.below.cell (p := ⟨pb, _, none⟩) hpbw).trans (HPC.out j p hp).1
        have hpr := (HPC.out j p hp).2
        have hd := drop_consG hp
        have HD := Lib.hid hd
        obtain ⟨f1, N, hL1, hN⟩ := HS.out.line
        have HL1 := Lib.hid hL1
        have HNL : Hid (N ≤ cs.length + j) := Lib.hid hN
        have HN1 : Hid (N ≤ 200000) := Lib.hid (by have := HPL.out; omega)
        have hacc : acc.length ≤ 65536 := by have := HS.out.len; have := HPL.out; omega
        have hjj : j < 65536 := by have := HPL.out; omega
        clear hL1 hN hp hd
        cases hnow : nowOf (thr cs) fin p with
        | none =>
          have HO : Hid (ownL (thr cs) fin p = []) := Lib.hid (now_nil.1 hnow)
          have HS2 : Hid (TkSt cs le ps w lb mb gb B (j + 1) fin acc u13 wr) := Lib.hid (by
            have h := HS.out
            have ht := h.tot
            rw [HD.out, tickGo_none hnow] at ht
            obtain ⟨f1, N, hL1, hN⟩ := h.line
            exact ⟨⟨f1, N, hL1, by omega⟩, h.evs, h.row, ht, by have := h.len; omega, h.below, h.size⟩)
          clear hnow
          go_wp2_with fail
          refine (now_done p _ HL1.out hpr HO.out).mono ?_
          rintro e w3 ⟨rfl, rfl⟩
          go_wp2_with fail
          go_roundw
          case rel => exact ⟨j + 1, fin, acc, by omega, by go_num, HS2⟩
          case measure => simp [RowKit.intOf]; omega
        | some i =>
          have HO : Hid (ownL (thr cs) fin p = i :: (ownL (thr cs) fin p).tail) := Lib.hid (now_cons hnow)
          have HNW := Lib.hid hnow
          obtain ⟨hi1, hi2, hi3⟩ := now_open hnow
          have HTS : Hid ((thr cs).getD i 0 = p) := Lib.hid (by rw [List.getD_eq_getElem?_getD, hi2]; rfl)
          have hil : i ≤ 1000 := by have := HPL.out; rw [thr_len] at hi1; omega
          clear hnow hi1 hi2 hi3
          go_wp2_with fail
          refine (now_at p _ HL1.out hpr HO.out).mono ?_
          rintro e w3 ⟨rfl, rfl⟩
          obtain ⟨ao1, g1, c1, hv1, _⟩ := owns_open HS.out.row
          obtain ⟨W, hW⟩ : ∃ W, wr.alloc (.cells #[.int .i64 p, .int .i64 i, .bool false, .bool false] 46) = W := ⟨_, rfl⟩
          obtain ⟨tb, htb⟩ : ∃ tb, wr.heap.size = tb := ⟨_, rfl⟩
          have HTB : Hid (RowBlk 46 W tb [.int .i64 p, .int .i64 i, .bool false, .bool false]) := Lib.hid (by rw [← hW, ← htb]; exact RowBlk.new _ _ _)
          have HBW : Hid (Below wr.heap.size wr W) := Lib.hid (by rw [← hW]; exact (Below.refl _ _).alloc (Nat.le_refl _) _)
          have htbB : B ≤ tb := by rw [← htb]; exact HS.out.size
          have hWB : B ≤ W.heap.size := by have := HBW.out.size; omega
          have HTBL : Hid (wr.heap.size = tb) := Lib.hid htb
          have HWE := Lib.hid hW
          clear hW htb
          go_upto_region 12 with fail
          rw [HWE.out, HTBL.out]
          clear hpcl
          have hig : (Lit.int .i64 (i : Int)).wf = true := WalkArith.wf_i64 (by omega)
          have hlk := (HS.out.evs.below HBW.out (Nat.lt_of_lt_of_le HGB.out HS.out.size)).lookOk (t := 62) Try.underlying3 Try.underlying62 (zeroIn _) hig
          cases hev : evI (exs le) (i : Int) with
          | none =>
            rw [show evG (exs le) (i : Int) = none by unfold evG; rw [hev]; rfl] at hlk
            have HF : Hid (firstT (exs le) i (acc.length + 1) = false) := Lib.hid (firstT_none hev)
            have HLT : Hid (lastT (exs le) i (acc.length + 1) = false) := Lib.hid (lastT_none hev)
            have hlk2 : (Instr.lookup 62 (.map (some gb)) (.int .i64 (i : Int)) true).run Try.prog W = .ok (.tuple #[.int .i64 0, .bool false]) W := hlk
            clear hlk HWE
            generalize W = W3 at *
            have HT3 := HTB
            have HB3 := HBW
            have k3 := HTB.out.cell (i := 3) rfl
            clear hev hig
            subst hv1
            have tc0 := HT3.out.cell (i := 0) rfl
            have tc1 := HT3.out.cell (i := 1) rfl
            have tc2 := HT3.out.cell (i := 2) rfl
            have HLN : Hid (∃ f N, LineIs W3 B lb mb N f (ownL (thr cs) (if false = true then fin.set i true else fin)) ∧ N ≤ cs.length + (j + 1)) := Lib.hid ⟨f1, N, by rw [if_neg (by decide)]; exact HL1.out.stays HB3.out HS.out.size, by have := HNL.out; omega⟩
            have HBA : Hid (Below w.heap.size w W3) := Lib.hid (HS.out.below.trans (HB3.out.mono (by have := HS.out.below.size; omega)))
            have HEV : Hid (MapN Try.prog 3 W3 gb le.length (evG (exs le))) := Lib.hid (HS.out.evs.below HB3.out (Nat.lt_of_lt_of_le HGB.out HS.out.size))
            have HRW : Hid (W3.ownsRow B 46 4 (.slice ao1 acc.length c1) acc.length (tkRows (thr cs) (exs le) 0 acc)) := Lib.hid (owns_below HS.out.row HB3.out)
            have hsz4 : B ≤ W3.heap.size := by have := HB3.out.size; have := HS.out.size; omega
            go_wp2_with (at_builtin; refine append_new rfl _ _ 30 rfl B 46 iT (.agg #[.int .i64 0, .int .i64 0, .bool false, .bool false]) 4 24 Try.underlying30 ja jb jc jd rfl (by decide) (by decide) _ acc.length _ rfl HRW.out [.int .i64 p, .int .i64 i, .bool false, .bool false] rfl rfl rfl (by omega) hsz4 ?_; intro v5 W5 ho5 hb5 _ _)
            have HS5 := Lib.hid (HS.out.next HD.out HNW.out HF.out HLT.out HTS.out (w' := W5) (v' := v5) (by
              obtain ⟨f6, N6, hl6, hn6⟩ := HLN.out
              exact ⟨f6, N6, hl6.stays hb5 (Nat.le_refl _), hn6⟩) (HEV.out.below hb5 HGB.out) ho5 (HBA.out.trans (hb5.mono HSB.out.1)) (by have := hb5.size; omega))
            clear ho5 hb5
            go_wp2_with fail
            go_roundw
            case rel => exact ⟨j + 1, _, acc ++ [i], by omega, by go_num, HS5⟩
            case measure => simp [RowKit.intOf]; omega

          | some q =>
            obtain ⟨x, hx, hxc⟩ := evI_some hev
            obtain ⟨⟨x', s⟩, hps⟩ : ∃ y, le[q]? = some y := by
              have := (List.getElem?_eq_some_iff.1 hx).1
              rw [exs_len] at this
              exact ⟨_, List.getElem?_eq_getElem this⟩
            have hx' := exs_get hps
            rw [hx] at hx'
            obtain rfl := Option.some.inj hx'
            have hql := (List.getElem?_eq_some_iff.1 hps).1
            obtain rfl := HE.out.ea (by omega)
            obtain ⟨_, e1, e2, _⟩ := ((HE.out.below HS.out.below).below HBW.out).cells hps
            have hok := (HE.out.ek _ (List.mem_of_getElem? hps)).1
            have hebw := HE.out.eb (by omega)
            have hne : eb ≠ tb := by have := HSB.out; omega
            have hne2 : tb ≠ eb := fun e => hne e.symm
            rw [show evG (exs le) (i : Int) = some (q : Int) by unfold evG; rw [hev]; rfl] at hlk
            have hlk2 : (Instr.lookup 62 (.map (some gb)) (.int .i64 (i : Int)) true).run Try.prog W = .ok (.tuple #[.int .i64 (q : Int), .bool true]) W := hlk
            have hqb : q < 4000000 := by have := HEL.out; omega
            obtain ⟨F, hF⟩ : ∃ F, decide (x.iv = (acc.length : Int) + 1) = F := ⟨_, rfl⟩
            obtain ⟨L, hL⟩ : ∃ L, decide (x.rs = (acc.length : Int) + 1) = L := ⟨_, rfl⟩
            have hF2 : (x.iv == (acc.length : Int) + 1) = F := hF
            have hL2 : (x.rs == (acc.length : Int) + 1) = L := hL
            have HF : Hid (firstT (exs le) i (acc.length + 1) = F) := Lib.hid (by rw [firstT_some hev hx, ← hF]; rfl)
            have HLT : Hid (lastT (exs le) i (acc.length + 1) = L) := Lib.hid (by rw [lastT_some hev hx, ← hL]; rfl)
            have t2 := HTB.out.cell (i := 2) rfl
            have t3 := HTB.out.cell (i := 3) rfl
            have tf : ∀ j, W.frozen? ⟨tb, j, none⟩ = false := fun j => HTB.out.free
            obtain ⟨W3, hW3⟩ : ∃ W3, ((W.setCell ⟨tb, 2, none⟩ (.bool F)).setCell ⟨tb, 3, none⟩ (.bool L)).drew = W3 := ⟨_, rfl⟩
            have HT3 : Hid (RowBlk 46 W3 tb [.int .i64 p, .int .i64 i, .bool F, .bool L]) := Lib.hid (by rw [← hW3]; exact ((HTB.out.put 2 (.bool F)).put 3 (.bool L)).drew)
            have HB3 : Hid (Below wr.heap.size wr W3) := Lib.hid (by rw [← hW3]; exact below_drew ((HBW.out.setCell (by show _ ≤ tb; have := HTBL.out; omega) _).setCell (by show _ ≤ tb; have := HTBL.out; omega) _))
            have HW3 := Lib.hid hW3
            clear hW3
            have k3 := HT3.out.cell (i := 3) rfl
            have hqi0 : (0 : Int) ≤ (q : Int) := Int.natCast_nonneg _
            have hqi1 : (q : Int) < (le.length : Int) := by omega
            clear hev hig hx hxc hps hx' hlk
            have HQ : Hid (∀ (k : Nat) (v : Value), (W.setCell ⟨tb, k, none⟩ v).cell? ⟨eb, eo + q * 8 + 1, none⟩ = some (.int .i64 x.iv) ∧ (W.setCell ⟨tb, k, none⟩ v).cell? ⟨eb, eo + q * 8 + 2, none⟩ = some (.int .i64 x.rs)) := Lib.hid (fun k v => ⟨cell_kept e1 hne, cell_kept e2 hne⟩)
            have HQ2 : Hid (∀ (k : Nat) (v : Value) (k' : Nat) (v' : Value), ((W.setCell ⟨tb, k, none⟩ v).setCell ⟨tb, k', none⟩ v').cell? ⟨eb, eo + q * 8 + 1, none⟩ = some (.int .i64 x.iv) ∧ ((W.setCell ⟨tb, k, none⟩ v).setCell ⟨tb, k', none⟩ v').cell? ⟨eb, eo + q * 8 + 2, none⟩ = some (.int .i64 x.rs)) := Lib.hid (fun k v k' v' => ⟨cell_kept (HQ.out k v).1 hne, cell_kept (HQ.out k v).2 hne⟩)
            subst hv1
            go_upto_region 15 with fail
            go_region_held3 (fun w' => w'.cell? ⟨eb, eo + q * 8 + 1, none⟩ = some (.int .i64 x.iv) ∧ w'.cell? ⟨eb, eo + q * 8 + 2, none⟩ = some (.int .i64 x.rs))
              (first | exact ⟨e1, e2⟩ | exact HQ.out _ _ | exact HQ2.out _ _ _ _)
              (first
                | fail)
            rw [HW3.out]
            clear t2 t3 tf e1 e2
            cases L with
            | false =>
              have tc0 := HT3.out.cell (i := 0) rfl
              have tc1 := HT3.out.cell (i := 1) rfl
              have tc2 := HT3.out.cell (i := 2) rfl
              have HLN : Hid (∃ f N, LineIs W3 B lb mb N f (ownL (thr cs) (if false = true then fin.set i true else fin)) ∧ N ≤ cs.length + (j + 1)) := Lib.hid ⟨f1, N, by rw [if_neg (by decide)]; exact HL1.out.stays HB3.out HS.out.size, by have := HNL.out; omega⟩
              have HBA : Hid (Below w.heap.size w W3) := Lib.hid (HS.out.below.trans (HB3.out.mono (by have := HS.out.below.size; omega)))
              have HEV : Hid (MapN Try.prog 3 W3 gb le.length (evG (exs le))) := Lib.hid (HS.out.evs.below HB3.out (Nat.lt_of_lt_of_le HGB.out HS.out.size))
              have HRW : Hid (W3.ownsRow B 46 4 (.slice ao1 acc.length c1) acc.length (tkRows (thr cs) (exs le) 0 acc)) := Lib.hid (owns_below HS.out.row HB3.out)
              have hsz4 : B ≤ W3.heap.size := by have := HB3.out.size; have := HS.out.size; omega
              go_wp2_with (at_builtin; refine append_new rfl _ _ 30 rfl B 46 iT (.agg #[.int .i64 0, .int .i64 0, .bool false, .bool false]) 4 24 Try.underlying30 ja jb jc jd rfl (by decide) (by decide) _ acc.length _ rfl HRW.out [.int .i64 p, .int .i64 i, .bool F, .bool false] rfl rfl rfl (by omega) hsz4 ?_; intro v5 W5 ho5 hb5 _ _)
              have HS5 := Lib.hid (HS.out.next HD.out HNW.out HF.out HLT.out HTS.out (w' := W5) (v' := v5) (by
                obtain ⟨f6, N6, hl6, hn6⟩ := HLN.out
                exact ⟨f6, N6, hl6.stays hb5 (Nat.le_refl _), hn6⟩) (HEV.out.below hb5 HGB.out) ho5 (HBA.out.trans (hb5.mono HSB.out.1)) (by have := hb5.size; omega))
              clear ho5 hb5
              go_wp2_with fail
              go_roundw
              case rel => exact ⟨j + 1, _, acc ++ [i], by omega, by go_num, HS5⟩
              case measure => simp [RowKit.intOf]; omega
            | true =>
              have tc0 := HT3.out.cell (i := 0) rfl
              have tc1 := HT3.out.cell (i := 1) rfl
              have tc2 := HT3.out.cell (i := 2) rfl
              have hpr0 : 0 ≤ p ∧ p < 16 := HL1.out.dom p (by rw [HO.out]; simp)
              go_wp2_with fail
              refine (finish_at p _ (HL1.out.stays HB3.out HS.out.size) (by have := HB3.out.size; have := HS.out.size; show B ≤ W3.heap.size; omega) (by have := HN1.out; unfold maxLen; omega) HO.out).mono ?_
              rintro e W4 ⟨rfl, ⟨f4, hl4⟩, hb4⟩
              have HT4 : Hid (RowBlk 46 W4 tb [.int .i64 p, .int .i64 i, .bool F, .bool true]) := Lib.hid (HT3.out.same (hb4.block tb HT3.out.lt (by have := HSB.out; have := HGB.out; omega) (by have := HSB.out; have := HGB.out; omega)))
              have HLN : Hid (∃ f N, LineIs W4 B lb mb N f (ownL (thr cs) (if true = true then fin.set i true else fin)) ∧ N ≤ cs.length + (j + 1)) := Lib.hid ⟨f4, N + 1, by rw [if_pos rfl, own_set_fun HNW.out]; exact hl4, by have := HNL.out; omega⟩
              have HBA : Hid (Below w.heap.size w W4) := Lib.hid ((HS.out.below.trans (HB3.out.mono (by have := HS.out.below.size; omega))).trans (hb4.below HSB.out.2.2.2 HSB.out.2.2.2 (by have := HS.out.below.size; have := HB3.out.size; omega)))
              have HEV : Hid (MapN Try.prog 3 W4 gb le.length (evG (exs le))) := Lib.hid (((HS.out.evs.below HB3.out (Nat.lt_of_lt_of_le HGB.out HS.out.size))).same (hb4.block gb (by have := HS.out.size; have := HB3.out.size; have := HGB.out; omega) (by have := HSB.out; omega) (by have := HSB.out; omega)))
              have HRW : Hid (W4.ownsRow B 46 4 (.slice ao1 acc.length c1) acc.length (tkRows (thr cs) (exs le) 0 acc)) := Lib.hid ((owns_below HS.out.row HB3.out).kept (row := some mb) ⟨hb4.os, hb4.tape, hb4.output, hb4.size, fun k hk hne => hb4.block k hk (fun e => hne (by rw [e])) (fun e => hne (by rw [e]))⟩ (by
                cases hob : (Value.slice ao1 acc.length c1).ownBlock with
                | none => exact .inl rfl
                | some g => right; intro e; cases e; have := (HS.out.row.lt _ hob).1; have := HSB.out; have := HGB.out; omega))
              have hsz4 : B ≤ W4.heap.size := by have := hb4.size; have := HB3.out.size; have := HS.out.size; omega
              clear tc0 tc1 tc2 k3 hl4 hb4
              have tc0 := HT4.out.cell (i := 0) rfl
              have tc1 := HT4.out.cell (i := 1) rfl
              have tc2 := HT4.out.cell (i := 2) rfl
              have tc3 := HT4.out.cell (i := 3) rfl
              go_wp2_with (at_builtin; refine append_new rfl _ _ 30 rfl B 46 iT (.agg #[.int .i64 0, .int .i64 0, .bool false, .bool false]) 4 24 Try.underlying30 ja jb jc jd rfl (by decide) (by decide) _ acc.length _ rfl HRW.out [.int .i64 p, .int .i64 i, .bool F, .bool true] rfl rfl rfl (by omega) hsz4 ?_; intro v5 W5 ho5 hb5 _ _)
              have HS5 := Lib.hid (HS.out.next HD.out HNW.out HF.out HLT.out HTS.out (w' := W5) (v' := v5) (by
                obtain ⟨f6, N6, hl6, hn6⟩ := HLN.out
                exact ⟨f6, N6, hl6.stays hb5 (Nat.le_refl _), hn6⟩) (HEV.out.below hb5 HGB.out) ho5 (HBA.out.trans (hb5.mono HSB.out.1)) (by have := hb5.size; omega))
              clear ho5 hb5
              go_wp2_with fail
              go_roundw
              case rel => exact ⟨j + 1, _, acc ++ [i], by omega, by go_num, HS5⟩
              case measure => simp [RowKit.intOf]; omega
      · have hj2 : j = ps.length := by omega
        have ht := HS.out.tot
        rw [hj2, List.drop_length] at ht
        have ht2 : acc = ticksOf (thr cs) (exs le) ps := by rw [← ht]; simp [tickGo]
        have HT := Lib.hid ht2
        clear ht ht2
        subst hj2
        go_wp2_with fail
        go_ret2
        exact ⟨fun h => absurd HZ.out h, fun _ => ⟨_, rfl, by rw [← HT.out]; exact owns_mono HS.out.row HSB.out.1⟩, HS.out.below⟩
end Go.Proofs.Ythacohejdpjjeaa
