/- cut: the document's answer: the error, the first event of a call, the ticks. -/
import Derived.Test.YthacohejdpjjeaaCTD
import Derived.Test.YthacohejdpjjeaaU3r
import Derived.Test.YthacohejdpjjeaaU6b
namespace Go.Proofs.Ythacohejdpjjeaa
open Go.RowKit Go.Lib Go.Sort
set_option linter.unusedVariables false

set_option maxHeartbeats 1000000 in
theorem rwrongC_any (n : Int) (ao : Option Addr) (b o cap : Nat) (cs : List CallV) (pa : Option Addr) (np pc : Nat) (w : World) (hl : cs.length ≤ 9223372036854775807) (hp : np ≤ 9223372036854775807) (hc : CallsAt w b o cs) (ha : 0 < cs.length → ao = some ⟨b, o, none⟩) :
    Calls Try.prog 9 #[.int .i64 n, .slice ao cs.length cap, .slice pa np pc] w fun e w' => e = .returned (.int .i64 (wrongC n (thr cs) np : Nat)) ∧ w = w' := by
  have HW := Lib.hid (refWrong_any n ao b o cap cs w hl ha hc)
  clear hc ha
  by_cases hn : n < 1 ∨ 16 < n
  · have HR : Hid (wrongC n (thr cs) np = 1) := Lib.hid (by unfold wrongC; rw [if_pos hn])
    rw [HR.out]
    by_cases h1 : n < 1
    · go_enter Try.func9, Try.ntmps9
      go_wp2
      go_ret
      exact ⟨rfl, rfl⟩
    · have h2 : 16 < n := by omega
      go_enter Try.func9, Try.ntmps9
      go_wp2
      go_ret
      exact ⟨rfl, rfl⟩
  · have h1 : ¬ n < 1 := by omega
    have h2 : ¬ 16 < n := by omega
    have d1 : decide (n < 1) = false := decide_eq_false h1
    have d2 : decide (16 < n) = false := decide_eq_false h2
    by_cases h3 : 1000 < cs.length
    · have HR : Hid (wrongC n (thr cs) np = 3) := Lib.hid (wrongC_long hn (by rw [thr_len]; exact h3))
      rw [HR.out]
      have d3 : decide ((1000 : Int) < (cs.length : Int)) = true := decide_eq_true (by omega)
      clear hn
      go_enter Try.func9, Try.ntmps9
      go_wp2
      go_ret
      exact ⟨rfl, rfl⟩
    · have d3 : decide ((1000 : Int) < (cs.length : Int)) = false := decide_eq_false (by omega)
      by_cases h4 : 65536 < np
      · have HR : Hid (wrongC n (thr cs) np = 3) := Lib.hid (by unfold wrongC; rw [if_neg hn, if_pos h4])
        rw [HR.out]
        have d4 : decide ((65536 : Int) < (np : Int)) = true := decide_eq_true (by omega)
        clear hn
        go_enter Try.func9, Try.ntmps9
        go_wp2
        go_ret
        exact ⟨rfl, rfl⟩
      · have d4 : decide ((65536 : Int) < (np : Int)) = false := decide_eq_false (by omega)
        have HR : Hid (wrongC n (thr cs) np = wrongL n (thr cs)) := Lib.hid (by unfold wrongC; rw [if_neg hn, if_neg h4])
        rw [HR.out]
        clear hn
        go_enter Try.func9, Try.ntmps9
        go_wp2_with fail
        refine HW.out.mono ?_
        rintro e w1 ⟨rfl, rfl⟩
        go_wp2_with fail
        go_ret
        exact ⟨rfl, rfl⟩

theorem evI_take_snoc {l : List EvX} {j : Nat} {x : EvX} {c : Int} (hx : l[j]? = some x) (h : evI (l.take j) c = none) (hc : ¬ x.ca = c) : evI (l.take (j + 1)) c = none := by
  have hs : l.take (j + 1) = l.take j ++ [x] := take_snoc hx
  rw [hs, evI_snoc, h, if_neg hc]
  rfl
set_option maxHeartbeats 1000000 in
theorem revI_any (ea : Option Addr) (eb eo ec : Nat) (le : List (EvX × EvS)) (c : Int) (w : World) (h : EvsR w ea eb eo le) (hl : le.length ≤ 4000000) :
    Calls Try.prog 11 #[.slice ea le.length ec, .int .i64 c] w fun e w' => e = .returned (.int .i64 (evN (exs le) c)) ∧ w = w' := by
  have HE := Lib.hid h
  clear h
  go_enter Try.func11, Try.ntmps11
  go_wp2
  go_loop [8] (fun k => ∃ j : Nat, j ≤ le.length ∧ k = .int .i64 j ∧ Hid (evI ((exs le).take j) c = none)) (fun k => le.length - (RowKit.intOf k).toNat)
  case atStart => exact ⟨0, Nat.zero_le _, rfl, Lib.hid rfl⟩
  case round =>
    obtain ⟨j, hj, rfl, hp⟩ := hrel
    by_cases hlt : j < le.length
    · obtain rfl := HE.out.ea (by omega)
      obtain ⟨⟨x, s⟩, hq⟩ : ∃ p, le[j]? = some p := ⟨le[j], List.getElem?_eq_getElem hlt⟩
      obtain ⟨e0, _⟩ := HE.out.cells hq
      have HX := Lib.hid (exs_get hq)
      clear hq
      by_cases hc : x.ca = c
      · have HR : Hid (evN (exs le) c = (j : Int)) := Lib.hid (evN_some (evI_first HX.out hc hp.out))
        have d1 : decide (x.ca = c) = true := decide_eq_true hc
        have d2 : (x.ca == c) = true := by rw [beq_iff_eq]; exact hc
        clear hc
        go_wp2
        go_ret
        exact ⟨by rw [HR.out]; rfl, rfl⟩
      · have HP := Lib.hid (evI_take_snoc HX.out hp.out hc)
        have d1 : decide (x.ca = c) = false := decide_eq_false hc
        have d2 : (x.ca == c) = false := by rw [beq_eq_false_iff_ne]; exact hc
        clear hc
        go_wp2
        go_round
        case rel => exact ⟨j + 1, by omega, by go_num, HP⟩
        case measure => simp [RowKit.intOf]; omega
    · have hj2 : j = le.length := by omega
      have HR : Hid (evN (exs le) c = -1) := Lib.hid (evN_none (by
        have := hp.out
        rw [hj2, ← exs_len le, List.take_length] at this
        exact this))
      clear hp
      subst hj2
      go_wp2
      go_ret
      exact ⟨by rw [HR.out]; rfl, rfl⟩

/-- in the middle of the document's ticks -/
structure RTkSt (cs : List CallV) (le : List (EvX × EvS)) (ps : List Int) (w : World) (gf B j : Nat) (fin : List Bool) (acc : List Nat) (v : Value) (wr : World) : Prop where
  blk : RowBlk 4 wr gf (boolVs fin)
  lfin : fin.length = cs.length
  row : wr.ownsRow B 3 1 v acc.length (nums acc)
  tot : acc ++ tickGo (thr cs) (exs le) (ps.drop j) fin acc.length = ticksOf (thr cs) (exs le) ps
  len : acc.length ≤ j
  below : Below w.heap.size w wr
  size : B ≤ wr.heap.size
/-- what the document's ticks give -/
def RTicksP (cs : List CallV) (le : List (EvX × EvS)) (ps : List Int) (w : World) (e : Ending) (w' : World) : Prop :=
  ∃ v, e = .returned v ∧ w'.ownsRow w.heap.size 3 1 v (ticksOf (thr cs) (exs le) ps).length (nums (ticksOf (thr cs) (exs le) ps)) ∧ Below w.heap.size w w'
theorem RTkSt.next {cs : List CallV} {le : List (EvX × EvS)} {ps : List Int} {w : World} {gf B j : Nat} {fin : List Bool} {acc : List Nat} {v : Value} {wr : World} (h : RTkSt cs le ps w gf B j fin acc v wr)
    {p : Int} {i : Nat} (hp : ps.drop j = p :: ps.drop (j + 1)) (hn : nowOf (thr cs) fin p = some i) {L : Bool} (hL : lastT (exs le) i (acc.length + 1) = L)
    {w' : World} {v' : Value} (hblk : RowBlk 4 w' gf (boolVs (if L = true then fin.set i true else fin)))
    (hrow : w'.ownsRow B 3 1 v' (acc.length + 1) (nums acc ++ [.int .i64 (i : Int)])) (hb : Below w.heap.size w w') (hs : B ≤ w'.heap.size) :
    RTkSt cs le ps w gf B (j + 1) (if L = true then fin.set i true else fin) (acc ++ [i]) v' w' := by
  refine ⟨hblk, ?_, ?_, ?_, ?_, hb, hs⟩
  · cases L
    · exact h.lfin
    · rw [if_pos rfl, List.length_set]; exact h.lfin
  · have e2 : nums (acc ++ [i]) = nums acc ++ [.int .i64 (i : Int)] := by unfold nums; simp
    rw [e2, List.length_append]; exact hrow
  · have ht := h.tot
    rw [hp, tickGo_some hn, hL] at ht
    rw [List.append_assoc, List.length_append]
    exact ht
  · have := h.len
    rw [List.length_append]
    show acc.length + 1 ≤ j + 1
    omega

set_option maxRecDepth 100000 in
set_option maxHeartbeats 4000000 in
theorem rticks_any (ao : Option Addr) (b o cap : Nat) (cs : List CallV) (ea : Option Addr) (eb eo ec : Nat) (le : List (EvX × EvS)) (pa : Option Addr) (pb po pc : Nat) (ps : List Int) (w : World)
    (hc : CallsAt w b o cs) (ha : 0 < cs.length → ao = some ⟨b, o, none⟩) (hb : 0 < cs.length → b < w.heap.size) (he : EvsR w ea eb eo le) (hel : le.length ≤ 4000000)
    (hpa : 0 < ps.length → pa = some ⟨pb, po, none⟩) (hpb : 0 < ps.length → pb < w.heap.size) (hpc : ICells w pb po ps) (hcl : cs.length ≤ 1000) (hpl : ps.length ≤ 65536) :
    Calls Try.prog 10 #[.slice ao cs.length cap, .slice ea le.length ec, .slice pa ps.length pc] w (RTicksP cs le ps w) := by
  have HA := Lib.hid ha
  have HB := Lib.hid hb
  have HC := Lib.hid hc
  have HE := Lib.hid he
  have HPA := Lib.hid hpa
  have HPB := Lib.hid hpb
  have HPC := Lib.hid hpc
  have HEL := Lib.hid hel
  clear hc ha hb he hpa hpb hpc hel
  obtain ⟨iI, ia, ib, ic, id⟩ := info_parts infoIu
  have hmk := run_mkB cs.length (by omega)
  obtain ⟨w0, hw0⟩ : ∃ w0, w.alloc (.cells (boolVs (List.replicate cs.length false)).toArray 4) = w0 := ⟨_, rfl⟩
  obtain ⟨gf, hgf⟩ : ∃ gf, w.heap.size = gf := ⟨_, rfl⟩
  have HT0 : Hid (RTkSt cs le ps w gf (gf + 1) 0 (List.replicate cs.length false) [] (.slice none 0 0) w0) := Lib.hid
    ⟨by rw [← hw0, ← hgf]; exact RowBlk.new _ _ _, by simp, World.ownsRow_nil _ _ _ _, by rw [ticksOf, thr_len]; rfl, Nat.le_refl _, by rw [← hw0]; exact (Below.refl _ _).alloc (Nat.le_refl _) _, by rw [← hw0, ← hgf]; simp⟩
  have HW0 := Lib.hid hw0
  have HGF := Lib.hid hgf
  clear hw0 hgf
  go_enter Try.func10, Try.ntmps10
  go_wp2_with fail
  rw [HW0.out, HGF.out]
  go_loopw [8, 17] (fun v k wr => ∃ (j : Nat) (fin : List Bool) (acc : List Nat), j ≤ ps.length ∧ k = .int .i64 j ∧ Hid (RTkSt cs le ps w gf (gf + 1) j fin acc v wr)) (fun _ k _ => ps.length - (RowKit.intOf k).toNat)
  case atStart => exact ⟨0, _, [], Nat.zero_le _, rfl, HT0⟩
  case round =>
    obtain ⟨j, fin, acc, hj, rfl, hT⟩ := hrel
    have hlf := hT.out.lfin
    by_cases hlt : j < ps.length
    · obtain rfl := HPA.out (by omega)
      obtain ⟨p, hp⟩ : ∃ x, ps[j]? = some x := ⟨ps[j], List.getElem?_eq_getElem (by omega)⟩
      obtain ⟨c3, hpr⟩ := (HPC.out.stays hT.out.below HPB.out) j _ hp
      have HD := Lib.hid (drop_consG hp)
      have hwsz := hT.out.size
      have HCN := Lib.hid (refNow_any p ao b o cap cs (some ⟨gf, 0, none⟩) gf 0 cs.length fin wr (by omega) hlf HA.out (HC.out.stays hT.out.below HB.out) (fun _ => rfl) hT.out.blk.bools)
      rw [hlf] at HCN
      clear hp
      cases hnow : nowOf (thr cs) fin p with
      | none =>
        have HNI := Lib.hid (nowI_none hnow)
        have HT2 : Hid (RTkSt cs le ps w gf (gf + 1) (j + 1) fin acc u8 wr) := Lib.hid (by
          have ht := hT.out.tot
          rw [HD.out, tickGo_none hnow] at ht
          exact ⟨hT.out.blk, hT.out.lfin, hT.out.row, ht, by have := hT.out.len; omega, hT.out.below, hT.out.size⟩)
        clear hnow
        rw [HNI.out] at HCN
        go_wp2_with fail
        refine HCN.out.mono ?_
        rintro e w3 ⟨rfl, rfl⟩
        go_wp2_with fail
        go_roundw
        case rel => exact ⟨j + 1, fin, acc, by omega, by go_num, HT2⟩
        case measure => simp [RowKit.intOf]; omega
      | some i =>
        have HNW := Lib.hid hnow
        have HNI := Lib.hid (nowI_some hnow)
        have hi := (now_open hnow).1
        rw [thr_len] at hi
        have hla := hT.out.len
        have hrow := hT.out.row
        have hi0 : (0 : Int) ≤ (i : Int) := Int.natCast_nonneg _
        have hi1 : (i : Int) < (cs.length : Int) := by omega
        clear hnow
        rw [HNI.out] at HCN
        go_wp2_with fail
        refine HCN.out.mono ?_
        rintro e w3 ⟨rfl, rfl⟩
        go_wp2_with (at_builtin; refine append_new rfl _ _ 24 rfl (gf + 1) 3 iI (.int .i64 0) 1 8 Try.underlying24 ia ib ic id rfl (by decide) (by decide) _ acc.length _ rfl hrow [.int .i64 (i : Int)] rfl rfl rfl (by omega) hwsz ?_)
        intro v1 w4 ho4 hb4 _ _
        obtain ⟨a4, g4, c4, rfl, ha4, _⟩ := owns_open ho4
        obtain rfl := ha4 (by omega)
        have hs4 := hb4.size
        have HO4 := Lib.hid ho4
        have HF4 : Hid (RowBlk 4 w4 gf (boolVs fin)) := Lib.hid (hT.out.blk.same (hb4.block gf (by omega)))
        have HW4 : Hid (Below w.heap.size w w4) := Lib.hid (hT.out.below.trans (hb4.mono (by have := HGF.out; omega)))
        have HRE := Lib.hid (revI_any ea eb eo ec le (i : Int) w4 (HE.out.below HW4.out) HEL.out)
        clear ho4 hb4 hrow c3 ha4
        cases hev : evI (exs le) (i : Int) with
        | none =>
          have HEN := Lib.hid (evN_none hev)
          have HS4 := Lib.hid (hT.out.next HD.out HNW.out (L := false) (lastT_none hev) (by rw [if_neg (by decide)]; exact HF4.out) HO4.out HW4.out (by omega))
          clear hev
          rw [HEN.out] at HRE
          go_wp2_with fail
          refine HRE.out.mono ?_
          rintro e w5 ⟨rfl, rfl⟩
          go_wp2_with fail
          go_roundw
          case rel => exact ⟨j + 1, _, acc ++ [i], by omega, by go_num, HS4⟩
          case measure => simp [RowKit.intOf]; omega
        | some q =>
          have HEN := Lib.hid (evN_some hev)
          obtain ⟨x, hx, hxc⟩ := evI_some hev
          obtain ⟨⟨x', s⟩, hps⟩ : ∃ y, le[q]? = some y := by
            have := (List.getElem?_eq_some_iff.1 hx).1
            rw [exs_len] at this
            exact ⟨_, List.getElem?_eq_getElem this⟩
          have hx' := exs_get hps
          rw [hx] at hx'
          obtain rfl := Option.some.inj hx'
          have hql := (List.getElem?_eq_some_iff.1 hps).1
          obtain rfl := HE.out.ea (by omega)
          obtain ⟨_, _, e2, _⟩ := (HE.out.below HW4.out).cells hps
          have hqi0 : (0 : Int) ≤ (q : Int) := Int.natCast_nonneg _
          have hqi1 : (q : Int) < (le.length : Int) := by omega
          have dq : decide ((0 : Int) ≤ (q : Int)) = true := decide_eq_true hqi0
          have hlI := lastT_some (k := acc.length + 1) hev hx
          rw [HEN.out] at HRE
          by_cases hr : x.rs = ((acc.length + 1 : Nat) : Int)
          · have d1 : decide (x.rs = (acc.length : Int) + 1) = true := decide_eq_true hr
            have d2 : (x.rs == (acc.length : Int) + 1) = true := by rw [beq_iff_eq]; exact hr
            rw [decide_eq_true hr] at hlI
            have cf : w4.cell? ⟨gf, i, none⟩ = some (.bool false) := HF4.out.cell (boolVs_get (now_open HNW.out).2.2)
            have ff : w4.frozen? ⟨gf, i, none⟩ = false := HF4.out.free
            have hgfB : gf < gf + 1 := Nat.lt_succ_self _
            have HS4 : Hid (RTkSt cs le ps w gf (gf + 1) (j + 1) (if true = true then fin.set i true else fin) (acc ++ [i]) (.slice (some ⟨g4, 0, none⟩) (acc.length + 1) c4) (w4.setCell ⟨gf, i, none⟩ (.bool true))) := Lib.hid (hT.out.next HD.out HNW.out (L := true) hlI (by rw [if_pos rfl, ← boolVs_set]; exact HF4.out.put i _) (owns_set HO4.out hgfB _) (HW4.out.setCell (show w.heap.size ≤ gf by have := HGF.out; omega) _) (by simp [World.setCell]; omega))
            clear hev hx hxc hps hx' hlI hr
            go_wp2_with fail
            refine HRE.out.mono ?_
            rintro e w5 ⟨rfl, rfl⟩
            go_wp2_with fail
            go_roundw
            case rel => exact ⟨j + 1, _, acc ++ [i], by omega, by go_num, HS4⟩
            case measure => simp [RowKit.intOf]; omega
          · have d1 : decide (x.rs = (acc.length : Int) + 1) = false := decide_eq_false hr
            have d2 : (x.rs == (acc.length : Int) + 1) = false := by rw [beq_eq_false_iff_ne]; exact hr
            rw [decide_eq_false hr] at hlI
            have HS4 := Lib.hid (hT.out.next HD.out HNW.out (L := false) hlI (by rw [if_neg (by decide)]; exact HF4.out) HO4.out HW4.out (by omega))
            clear hev hx hxc hps hx' hlI hr
            go_wp2_with fail
            refine HRE.out.mono ?_
            rintro e w5 ⟨rfl, rfl⟩
            go_wp2_with fail
            go_roundw
            case rel => exact ⟨j + 1, _, acc ++ [i], by omega, by go_num, HS4⟩
            case measure => simp [RowKit.intOf]; omega
    · have hj2 : j = ps.length := by omega
      have ht := hT.out.tot
      rw [hj2, List.drop_length] at ht
      have ht2 : acc = ticksOf (thr cs) (exs le) ps := by rw [← ht]; simp [tickGo]
      have HT := Lib.hid ht2
      clear ht ht2
      subst hj2
      go_wp2_with fail
      go_ret
      exact ⟨_, rfl, by rw [← HT.out]; exact owns_mono hT.out.row (by have := HGF.out; omega), hT.out.below⟩
end Go.Proofs.Ythacohejdpjjeaa
