/- cut: the document's answer: how events stood at a tick. -/
import Derived.Test.YthacohejdpjjeaaCTE
import Derived.Test.YthacohejdpjjeaaCTH
namespace Go.Proofs.Ythacohejdpjjeaa
open Go.RowKit Go.Lib Go.Sort
set_option linter.unusedVariables false

def evRows (l : List (EvX × EvS)) : List Value := (l.map fun p => evVs p.1 p.2).flatten
theorem evRows_snoc (l : List (EvX × EvS)) (p : EvX × EvS) : evRows (l ++ [p]) = evRows l ++ evVs p.1 p.2 := by unfold evRows; simp
theorem evRows_get : ∀ (l : List (EvX × EvS)) (i : Nat) (p : EvX × EvS), l[i]? = some p → ∀ (k : Nat) (u : Value), (evVs p.1 p.2)[k]? = some u → (evRows l)[i * 8 + k]? = some u
  | [], _, _, h => by simp at h
  | a :: l, 0, p, h => by
    intro k u hu
    simp at h
    subst h
    have hk : k < 8 := (List.getElem?_eq_some_iff.1 hu).1
    have e : evRows (a :: l) = evVs a.1 a.2 ++ evRows l := by unfold evRows; simp
    rw [e, Nat.zero_mul, Nat.zero_add, List.getElem?_append_left (by exact hk)]
    exact hu
  | a :: l, i + 1, p, h => by
    intro k u hu
    have e : evRows (a :: l) = evVs a.1 a.2 ++ evRows l := by unfold evRows; simp
    rw [e, List.getElem?_append_right (by show 8 ≤ _; omega)]
    show (evRows l)[(i + 1) * 8 + k - 8]? = _
    rw [show (i + 1) * 8 + k - 8 = i * 8 + k by omega]
    exact evRows_get l i p (by simpa using h) k u hu
/-- in the middle of the document's events -/
structure RAtSt (le : List (EvX × EvS)) (w w1 : World) (tick : Int) (T : List Nat) (P B j : Nat) (acc : List (EvX × EvS)) (v : Value) (wr : World) : Prop where
  row : wr.ownsRow B 44 8 v acc.length (evRows acc)
  acl : acc.length ≤ j
  ev : ∀ p ∈ acc, EvR w p.1 p.2 ∧ p.1.Ok ∧ EvSmall p.1
  fst : exs acc = atGo tick (T.take P) ((exs le).take j)
  belowB : Below B w1 wr
  size : B ≤ wr.heap.size
theorem RAtSt.pass {le : List (EvX × EvS)} {w w1 : World} {tick : Int} {T : List Nat} {P B j : Nat} {acc : List (EvX × EvS)} {v : Value} {wr : World} (h : RAtSt le w w1 tick T P B j acc v wr) {x : EvX} (hx : (exs le)[j]? = some x) (hi : ¬ x.iv ≤ tick) : RAtSt le w w1 tick T P B (j + 1) acc v wr := by
  refine ⟨h.row, by have := h.acl; omega, h.ev, ?_, h.belowB, h.size⟩
  rw [take_snoc hx, atGo_snoc, if_neg hi, List.append_nil]
  exact h.fst
theorem RAtSt.next {le : List (EvX × EvS)} {w w1 : World} {tick : Int} {T : List Nat} {P B j : Nat} {acc : List (EvX × EvS)} {v : Value} {wr : World} (h : RAtSt le w w1 tick T P B j acc v wr) {x : EvX} (hx : (exs le)[j]? = some x) (hi : x.iv ≤ tick)
    {wq W5 : World} (hb9 : Below wr.heap.size wr wq) {v5 : Value} (hb5 : Below B wq W5) {cn : Nat} (hcn : cntT (T.take P) x.ca = cn) {y : EvX} {s : EvS} (hy : evAtX x tick (cntT (T.take P) x.ca : Int) = y) (hr : EvR w y s) (hok : y.Ok ∧ EvSmall y)
    {us : List Value} (hrow : W5.ownsRow B 44 8 v5 (acc.length + 1) (evRows acc ++ us)) (hus : us = evVs y s := by first | rfl | assumption) :
    RAtSt le w w1 tick T P B (j + 1) (acc ++ [(y, s)]) v5 W5 := by
  subst hus
  refine ⟨?_, ?_, fun p hp => ?_, ?_, (h.belowB.trans (hb9.mono h.size)).trans hb5, by have := hb5.size; have := hb9.size; have := h.size; omega⟩
  · rw [evRows_snoc, List.length_append]; exact hrow
  · have := h.acl; rw [List.length_append]; show acc.length + 1 ≤ _; omega
  · rcases List.mem_append.1 hp with hp | hp
    · exact h.ev p hp
    · simp at hp; subst hp; exact ⟨hr, hok⟩
  · rw [take_snoc hx, atGo_snoc, if_pos hi, hy, ← h.fst]
    unfold exs
    rw [List.map_append]
    rfl
/-- what the document's At gives -/
def RAtP (cs : List CallV) (le : List (EvX × EvS)) (ps : List Int) (tick : Int) (w : World) (e : Ending) (w' : World) : Prop :=
  ∃ (a : Option Addr) (g o c : Nat) (ls : List (EvX × EvS)), e = .returned (.slice a ls.length c) ∧ EvsR w' a g o ls ∧ (∀ p ∈ ls, EvSmall p.1) ∧ exs ls = atOf tick (ticksOf (thr cs) (exs le) ps) (exs le) ∧ Below w.heap.size w w'

set_option maxRecDepth 100000 in
set_option maxHeartbeats 4000000 in
theorem rat_any (ao : Option Addr) (b o cap : Nat) (cs : List CallV) (ea : Option Addr) (eb eo ec : Nat) (le : List (EvX × EvS)) (pa : Option Addr) (pb po pc : Nat) (ps : List Int) (tick : Int) (w : World)
    (hc : CallsAt w b o cs) (ha : 0 < cs.length → ao = some ⟨b, o, none⟩) (hb : 0 < cs.length → b < w.heap.size) (he : EvsR w ea eb eo le) (hel : le.length ≤ 4000000)
    (hpa : 0 < ps.length → pa = some ⟨pb, po, none⟩) (hpb : 0 < ps.length → pb < w.heap.size) (hpc : ICells w pb po ps) (hcl : cs.length ≤ 1000) (hpl : ps.length ≤ 65536) (hsm : ∀ p ∈ le, EvSmall p.1) (htk : I63 tick) :
    Calls Try.prog 13 #[.slice ao cs.length cap, .slice ea le.length ec, .slice pa ps.length pc, .int .i64 tick] w (RAtP cs le ps tick w) := by
  have HTK := Lib.hid (rticks_any ao b o cap cs ea eb eo ec le pa pb po pc ps w hc ha hb he hel hpa hpb hpc hcl hpl)
  have HE := Lib.hid he
  have HEL := Lib.hid hel
  have HSM := Lib.hid hsm
  obtain ⟨htk1, htk2⟩ := htk
  obtain ⟨iE, ja, jb, jc, jd⟩ := info_parts infoEv
  have HTL : Hid ((ticksOf (thr cs) (exs le) ps).length ≤ 65536) := Lib.hid (by
    have := tickGo_len (thr cs) (exs le) ps (List.replicate (thr cs).length false) 0
    unfold ticksOf
    omega)
  clear hc ha hb he hpa hpb hpc hsm
  go_enter Try.func13, Try.ntmps13
  go_wp2_with fail
  refine HTK.out.mono ?_
  rintro e w1 ⟨v9, rfl, hown, hb1⟩
  have HB1 := Lib.hid hb1
  obtain ⟨T, hT⟩ : ∃ T, ticksOf (thr cs) (exs le) ps = T := ⟨_, rfl⟩
  rw [hT] at hown HTL
  have HTT := Lib.hid hT
  obtain ⟨ta, tg, tc, rfl, t1, t2, t3, t4⟩ := owns_open hown
  have HT1 := Lib.hid t1
  have HT3 := Lib.hid t3
  have HT4 := Lib.hid t4
  obtain ⟨P, hP⟩ : ∃ P, P = pastN tick T.length := ⟨_, rfl⟩
  have HPT := Lib.hid hP
  obtain ⟨B, hBB⟩ : ∃ B, w1.heap.size = B := ⟨_, rfl⟩
  rw [hBB] at HT3
  have hwB : w.heap.size ≤ B := by rw [← hBB]; exact hb1.size
  have hTl : T.length ≤ 65536 := HTL.out
  have HIN : Hid (RAtSt le w w1 tick T P B 0 [] (.slice none 0 0) w1) := Lib.hid ⟨World.ownsRow_nil _ _ _ _, Nat.le_refl _, fun p hp => by simp at hp, rfl, Below.refl _ _, by omega⟩
  have HBB := Lib.hid hBB
  clear hown hT t1 t2 t3 t4 hP hBB hb1
  go_wp2_with fail
  go_loopw [10, 20] (fun v k wr => ∃ (j : Nat) (acc : List (EvX × EvS)), j ≤ le.length ∧ k = .int .i64 j ∧ Hid (RAtSt le w w1 tick T P B j acc v wr)) (fun _ k _ => le.length - (RowKit.intOf k).toNat)
  case atStart => exact ⟨0, [], Nat.zero_le _, rfl, HIN⟩
  case round =>
    obtain ⟨j, acc, hj, rfl, HS⟩ := hrel
    by_cases hlt : j < le.length
    · obtain rfl := HE.out.ea (by omega)
      obtain ⟨⟨x, s⟩, hp⟩ : ∃ p, le[j]? = some p := ⟨le[j], List.getElem?_eq_getElem hlt⟩
      have hpm := List.mem_of_getElem? hp
      have hx := exs_get hp
      have hok := (HE.out.ek _ hpm).1
      have hsmx := HSM.out _ hpm
      have hevw := (HE.out.ek _ hpm).2
      have hBw : Below w.heap.size w wr := HB1.out.trans (HS.out.belowB.mono hwB)
      obtain ⟨e0, e1, e2, e3, e4, e5, e6, e7⟩ := (HE.out.below hBw).cells hp
      have heb := HE.out.eb (by omega)
      obtain ⟨bx, hbx⟩ : ∃ bx, wr.heap.size = bx := ⟨_, rfl⟩
      have HBXE := Lib.hid hbx
      have HBS : Hid (B ≤ bx) := Lib.hid (by rw [← hbx]; exact HS.out.size)
      have hne : eb ≠ bx := by have := HBS.out; omega
      have HX := Lib.hid hx
      have HOK := Lib.hid hok
      have HSX := Lib.hid hsmx
      have HEW := Lib.hid hevw
      obtain ⟨a10, g10, c10, hv10, _⟩ := owns_open HS.out.row
      obtain ⟨ca, iv, rs, st, er, vl, lw, kw⟩ := x
      obtain ⟨la, lb, lo, lc, ka, kb, ko, kc⟩ := s
      clear hp hpm hx hok hsmx hevw hBw
      dsimp only at *
      by_cases hiv : tick < iv
      · have hS2 := Lib.hid (HS.out.pass HX.out (by show ¬ iv ≤ tick; omega))
        clear hv10
        go_wp2_with fail
        go_roundw
        case rel => exact ⟨j + 1, acc, by omega, by go_num, hS2⟩
        case measure => simp [RowKit.intOf]; omega
      · have HIV : Hid (iv ≤ tick) := Lib.hid (by omega)
        have hal : ∀ (o : Obj) (k : Nat) (u : Value), wr.cell? ⟨eb, k, none⟩ = some u → (wr.alloc o).cell? ⟨eb, k, none⟩ = some u := fun o k u hu => by rw [World.cell?_alloc_past _ _ _ (by show eb < wr.heap.size; have := HBS.out; have := HBXE.out; omega)]; exact hu
        have HQA : Hid (∀ o, (wr.alloc o).cell? ⟨eb, eo + j * 8, none⟩ = some (.int .i64 ca) ∧ (wr.alloc o).cell? ⟨eb, eo + j * 8 + 1, none⟩ = some (.int .i64 iv)) := Lib.hid (fun o => ⟨hal o _ _ e0, hal o _ _ e1⟩)
        clear hal
        subst hv10
        go_upto_region 7 with fail
        go_region_held3 (fun w' => w'.cell? ⟨eb, eo + j * 8, none⟩ = some (.int .i64 ca) ∧ w'.cell? ⟨eb, eo + j * 8 + 1, none⟩ = some (.int .i64 iv))
          (first | exact ⟨e0, e1⟩ | exact HQA.out _ | go_keep)
          (first
            | fail)
        obtain ⟨W7, hW7⟩ : ∃ W7, (wr.alloc (.cells #[.int .i64 ca, .int .i64 iv, .int .i64 0, .int .i64 0, .int .i64 0, .int .u64 0, .slice none 0 0, .slice none 0 0] 44)).drew = W7 := ⟨_, rfl⟩
        rw [hW7]
        have hR7 : RowBlk 44 W7 bx [.int .i64 ca, .int .i64 iv, .int .i64 0, .int .i64 0, .int .i64 0, .int .u64 0, .slice none 0 0, .slice none 0 0] := by rw [← hW7, ← HBXE.out]; exact (RowBlk.new _ _ _).drew
        have hB7 : Below bx wr W7 := by rw [← hW7, ← HBXE.out]; exact below_drew ((Below.refl _ _).alloc (Nat.le_refl _) _)
        have hE7 := fun (o : Nat) => hB7.cell (p := ⟨eb, o, none⟩) (by show eb < bx; have := HBS.out; omega)
        replace e0 := (hE7 _).trans e0
        replace e1 := (hE7 _).trans e1
        replace e2 := (hE7 _).trans e2
        replace e3 := (hE7 _).trans e3
        replace e4 := (hE7 _).trans e4
        replace e5 := (hE7 _).trans e5
        replace e6 := (hE7 _).trans e6
        replace e7 := (hE7 _).trans e7
        have HR7 := Lib.hid hR7
        have HB7 := Lib.hid hB7
        obtain ⟨wo, rfl⟩ : ∃ wo, wo = wr := ⟨wr, rfl⟩
        clear hW7 hE7 HQA hiv
        by_cases hdn : rs = 0 ∨ tick < rs
        · have HDN := Lib.hid hdn
          have hd1 : (!decide (rs = 0) && decide (rs ≤ tick)) = false := by
            rcases hdn with h | h
            · rw [decide_eq_true h]; rfl
            · rw [decide_eq_false (show ¬ rs ≤ tick by omega), Bool.and_false]
          by_cases hr0 : rs = 0
          · have d0 : decide (rs = 0) = true := decide_eq_true hr0
            have d1 : (rs == 0) = true := by rw [beq_iff_eq]; exact hr0
            have d2 : (rs != 0) = false := by rw [bne, d1]; rfl
            clear hdn hr0 hd1
            go_upto_region 11 with fail
            have hB8 := hB7
            have hR8 := hR7
            clear hB7 hR7 e0 e1 e2 e3 e4 e5 e6 e7
            obtain ⟨W8, hW8⟩ : ∃ W8, W8 = W7 := ⟨_, rfl⟩
            rw [← hW8] at hB8 hR8
            rw [← hW8]
            clear hW8
            have HBR := Lib.hid hB8
            have HR8 := Lib.hid hR8
            clear hB8 hR8
            go_wp2_with fail
            go_loopw [63] (fun k2 wq => ∃ q : Nat, q ≤ T.length ∧ k2 = .int .i64 q ∧ Hid (RowBlk 44 wq bx [.int .i64 ca, .int .i64 iv, .int .i64 0, .int .i64 (cntT (T.take (min q P)) ca : Int), .int .i64 0, .int .u64 0, .slice none 0 0, .slice none 0 0]) ∧ Hid (Below bx wo wq)) (fun k2 _ => T.length - (RowKit.intOf k2).toNat)
            case atStart => exact ⟨0, Nat.zero_le _, rfl, Lib.hid (by rw [Nat.zero_min]; exact HR8.out), HBR⟩
            case round =>
              obtain ⟨q, hq, rfl, hRq, hBq⟩ := hrel
              by_cases hql : q < T.length
              · obtain rfl := HT1.out (by omega)
                have htg := HT3.out (by omega)
                obtain ⟨i, hi⟩ : ∃ i, T[q]? = some i := ⟨T[q], List.getElem?_eq_getElem (by omega)⟩
                have hbxs := HBS.out
                have htc : wr.cell? ⟨tg, q, none⟩ = some (.int .i64 (i : Int)) := (hBq.out.cell (p := ⟨tg, _, none⟩) (by show tg < bx; omega)).trans ((HS.out.belowB.cell (p := ⟨tg, _, none⟩) htg).trans (HT4.out q _ (by unfold nums; rw [List.getElem?_map, hi]; rfl)))
                have x0 := hRq.out.cell (i := 0) rfl
                have x3 := hRq.out.cell (i := 3) rfl
                have xf : ∀ j, wr.frozen? ⟨bx, j, none⟩ = false := fun j => hRq.out.free
                have hcq := cntT_le (T.take (min q P)) ca
                rw [List.length_take] at hcq
                have hcb : cntT (T.take (min q P)) ca ≤ 65536 := by omega
                have hPT := HPT.out
                by_cases hqt : (q : Int) < tick
                · have d1 : decide ((q : Int) < tick) = true := decide_eq_true hqt
                  have hqP : q < P := by rw [hPT]; unfold pastN; omega
                  have hmn : min (q + 1) P = q + 1 := by omega
                  have hmn2 : min q P = q := by omega
                  have hsn : T.take (min (q + 1) P) = T.take (min q P) ++ [i] := by rw [hmn, hmn2]; exact take_snoc hi
                  by_cases hic : (i : Int) = ca
                  · have d2 : decide ((i : Int) = ca) = true := decide_eq_true hic
                    have d3 : ((i : Int) == ca) = true := by rw [beq_iff_eq]; exact hic
                    have hcs : cntT (T.take (min (q + 1) P)) ca = cntT (T.take (min q P)) ca + 1 := by rw [hsn, cntT_snoc, if_pos hic]
                    have HRx : Hid (∀ nq, RowBlk 44 ((wr.drewN nq).setCell ⟨bx, 3, none⟩ (.int .i64 ((cntT (T.take (min q P)) ca : Int) + 1))) bx [.int .i64 ca, .int .i64 iv, .int .i64 0, .int .i64 (cntT (T.take (min (q + 1) P)) ca : Int), .int .i64 0, .int .u64 0, .slice none 0 0, .slice none 0 0]) := Lib.hid (fun nq => by rw [hcs]; exact (hRq.out.drewN nq).put 3 _)
                    have HBx : Hid (∀ nq, Below bx wo ((wr.drewN nq).setCell ⟨bx, 3, none⟩ (.int .i64 ((cntT (T.take (min q P)) ca : Int) + 1)))) := Lib.hid (fun nq => (below_drewN hBq.out nq).setCell (Nat.le_refl _) _)
                    have HIC := Lib.hid hic
                    clear hic hcs hsn hi hmn hmn2 hRq
                    generalize cntT (T.take (min q P)) ca = cq at x3 HRx HBx hcb
                    go_wp2_with fail
                    go_quiet (fail)
                    go_wp2_with fail
                    go_roundw
                    case rel => exact ⟨q + 1, by omega, by go_num, Lib.hid (HRx.out _), Lib.hid (HBx.out _)⟩
                    case measure => simp [RowKit.intOf]; omega
                  · have d2 : decide ((i : Int) = ca) = false := decide_eq_false hic
                    have d3 : ((i : Int) == ca) = false := by rw [beq_eq_false_iff_ne]; exact hic
                    have hcs : cntT (T.take (min (q + 1) P)) ca = cntT (T.take (min q P)) ca := by rw [hsn, cntT_snoc, if_neg hic]; rfl
                    have HRx : Hid (∀ nq, RowBlk 44 (wr.drewN nq) bx [.int .i64 ca, .int .i64 iv, .int .i64 0, .int .i64 (cntT (T.take (min (q + 1) P)) ca : Int), .int .i64 0, .int .u64 0, .slice none 0 0, .slice none 0 0]) := Lib.hid (fun nq => by rw [hcs]; exact hRq.out.drewN nq)
                    have HBx : Hid (∀ nq, Below bx wo (wr.drewN nq)) := Lib.hid (fun nq => below_drewN hBq.out nq)
                    clear hic hcs hsn hi hmn hmn2 hRq
                    go_wp2_with fail
                    go_quiet (fail)
                    go_wp2_with fail
                    go_roundw
                    case rel => exact ⟨q + 1, by omega, by go_num, Lib.hid (HRx.out _), Lib.hid (HBx.out _)⟩
                    case measure => simp [RowKit.intOf]; omega
                · have d1 : decide ((q : Int) < tick) = false := decide_eq_false hqt
                  have hqP : ¬ q < P := by rw [hPT]; unfold pastN; omega
                  have hmn : min (q + 1) P = min q P := by omega
                  have HRx : Hid (∀ nq, RowBlk 44 (wr.drewN nq) bx [.int .i64 ca, .int .i64 iv, .int .i64 0, .int .i64 (cntT (T.take (min (q + 1) P)) ca : Int), .int .i64 0, .int .u64 0, .slice none 0 0, .slice none 0 0]) := Lib.hid (fun nq => by rw [hmn]; exact hRq.out.drewN nq)
                  have HBx : Hid (∀ nq, Below bx wo (wr.drewN nq)) := Lib.hid (fun nq => below_drewN hBq.out nq)
                  clear hqP hmn hi hRq
                  go_wp2_with fail
                  go_quiet (fail)
                  go_wp2_with fail
                  go_roundw
                  case rel => exact ⟨q + 1, by omega, by go_num, Lib.hid (HRx.out _), Lib.hid (HBx.out _)⟩
                  case measure => simp [RowKit.intOf]; omega
              · have hq2 : q = T.length := by omega
                have hmn : min q P = P := by have := HPT.out; rw [hq2, this]; unfold pastN; omega
                have hR9 := hRq.out
                rw [hmn] at hR9
                have HB9 : Hid (Below wo.heap.size wo wr) := Lib.hid (by rw [HBXE.out]; exact hBq.out)
                have HR9 := Lib.hid hR9
                have x0 := hR9.cell (i := 0) rfl
                have x1 := hR9.cell (i := 1) rfl
                have x2 := hR9.cell (i := 2) rfl
                have x3 := hR9.cell (i := 3) rfl
                have x4 := hR9.cell (i := 4) rfl
                have x5 := hR9.cell (i := 5) rfl
                have x6 := hR9.cell (i := 6) rfl
                have x7 := hR9.cell (i := 7) rfl
                have HRW : Hid (wr.ownsRow B 44 8 (.slice a10 acc.length c10) acc.length (evRows acc)) := Lib.hid (owns_below HS.out.row HB9.out)
                have hsz9 : B ≤ wr.heap.size := by have := HB9.out.size; have := HS.out.size; omega
                have hacc : acc.length ≤ 4000000 := by have := HS.out.acl; have := HEL.out; omega
                clear hmn hR9 hRq hq2
                generalize hcn : cntT (T.take P) ca = cn at x3 HR9
                have HCN := Lib.hid hcn
                clear hcn
                go_wp2_with (at_builtin; refine append_new rfl _ _ 27 rfl B 44 iE (.agg #[.int .i64 0, .int .i64 0, .int .i64 0, .int .i64 0, .int .i64 0, .int .u64 0, .slice none 0 0, .slice none 0 0]) 8 96 Try.underlying27 ja jb jc jd rfl (by decide) (by decide) _ acc.length _ rfl HRW.out [.int .i64 ca, .int .i64 iv, .int .i64 0, .int .i64 (cn : Int), .int .i64 0, .int .u64 0, .slice none 0 0, .slice none 0 0] rfl rfl rfl (by omega) hsz9 ?_; intro v5 W5 ho5 hb5 _ _)
                have HYE := Lib.hid (show evAtX ⟨ca, iv, rs, st, er, vl, lw, kw⟩ tick (cntT (T.take P) ca : Int) = ⟨ca, iv, 0, (cn : Int), 0, 0, [], []⟩ by rw [HCN.out]; exact evAtX_open HDN.out)
                have HEY : Hid (EvR w ⟨ca, iv, 0, (cn : Int), 0, 0, [], []⟩ s0) := Lib.hid (EvR.none _ _ rfl rfl)
                have HEO : Hid ((⟨ca, iv, 0, (cn : Int), 0, 0, [], []⟩ : EvX).Ok ∧ EvSmall ⟨ca, iv, 0, (cn : Int), 0, 0, [], []⟩) := Lib.hid (by rw [← HYE.out]; exact ⟨evAtX_ok HOK.out tick (cntT (T.take P) ca : Int) (by have := cntT_le (T.take P) ca; rw [List.length_take] at this; unfold I63; omega), evAtX_small HSX.out _ _⟩)
                have HS5 := Lib.hid (HS.out.next HX.out HIV.out HB9.out hb5 HCN.out (y := ⟨ca, iv, 0, (cn : Int), 0, 0, [], []⟩) (s := s0) HYE.out HEY.out HEO.out ho5)
                clear ho5 hb5
                go_wp2_with fail
                go_roundw
                case rel => exact ⟨j + 1, _, by omega, by go_num, HS5⟩
                case measure => simp [RowKit.intOf]; omega
          · have d0 : decide (rs = 0) = false := decide_eq_false hr0
            have d1 : (rs == 0) = false := by rw [beq_eq_false_iff_ne]; exact hr0
            have d2 : (rs != 0) = true := by rw [bne, d1]; rfl
            have d3 : decide (rs ≤ tick) = false := decide_eq_false (by omega)
            clear hdn hr0 hd1
            go_upto_region 11 with fail
            have hB8 := hB7
            have hR8 := hR7
            clear hB7 hR7 e0 e1 e2 e3 e4 e5 e6 e7
            obtain ⟨W8, hW8⟩ : ∃ W8, W8 = W7 := ⟨_, rfl⟩
            rw [← hW8] at hB8 hR8
            rw [← hW8]
            clear hW8
            have HBR := Lib.hid hB8
            have HR8 := Lib.hid hR8
            clear hB8 hR8
            go_wp2_with fail
            go_loopw [63] (fun k2 wq => ∃ q : Nat, q ≤ T.length ∧ k2 = .int .i64 q ∧ Hid (RowBlk 44 wq bx [.int .i64 ca, .int .i64 iv, .int .i64 0, .int .i64 (cntT (T.take (min q P)) ca : Int), .int .i64 0, .int .u64 0, .slice none 0 0, .slice none 0 0]) ∧ Hid (Below bx wo wq)) (fun k2 _ => T.length - (RowKit.intOf k2).toNat)
            case atStart => exact ⟨0, Nat.zero_le _, rfl, Lib.hid (by rw [Nat.zero_min]; exact HR8.out), HBR⟩
            case round =>
              obtain ⟨q, hq, rfl, hRq, hBq⟩ := hrel
              by_cases hql : q < T.length
              · obtain rfl := HT1.out (by omega)
                have htg := HT3.out (by omega)
                obtain ⟨i, hi⟩ : ∃ i, T[q]? = some i := ⟨T[q], List.getElem?_eq_getElem (by omega)⟩
                have hbxs := HBS.out
                have htc : wr.cell? ⟨tg, q, none⟩ = some (.int .i64 (i : Int)) := (hBq.out.cell (p := ⟨tg, _, none⟩) (by show tg < bx; omega)).trans ((HS.out.belowB.cell (p := ⟨tg, _, none⟩) htg).trans (HT4.out q _ (by unfold nums; rw [List.getElem?_map, hi]; rfl)))
                have x0 := hRq.out.cell (i := 0) rfl
                have x3 := hRq.out.cell (i := 3) rfl
                have xf : ∀ j, wr.frozen? ⟨bx, j, none⟩ = false := fun j => hRq.out.free
                have hcq := cntT_le (T.take (min q P)) ca
                rw [List.length_take] at hcq
                have hcb : cntT (T.take (min q P)) ca ≤ 65536 := by omega
                have hPT := HPT.out
                by_cases hqt : (q : Int) < tick
                · have d1 : decide ((q : Int) < tick) = true := decide_eq_true hqt
                  have hqP : q < P := by rw [hPT]; unfold pastN; omega
                  have hmn : min (q + 1) P = q + 1 := by omega
                  have hmn2 : min q P = q := by omega
                  have hsn : T.take (min (q + 1) P) = T.take (min q P) ++ [i] := by rw [hmn, hmn2]; exact take_snoc hi
                  by_cases hic : (i : Int) = ca
                  · have d2 : decide ((i : Int) = ca) = true := decide_eq_true hic
                    have d3 : ((i : Int) == ca) = true := by rw [beq_iff_eq]; exact hic
                    have hcs : cntT (T.take (min (q + 1) P)) ca = cntT (T.take (min q P)) ca + 1 := by rw [hsn, cntT_snoc, if_pos hic]
                    have HRx : Hid (∀ nq, RowBlk 44 ((wr.drewN nq).setCell ⟨bx, 3, none⟩ (.int .i64 ((cntT (T.take (min q P)) ca : Int) + 1))) bx [.int .i64 ca, .int .i64 iv, .int .i64 0, .int .i64 (cntT (T.take (min (q + 1) P)) ca : Int), .int .i64 0, .int .u64 0, .slice none 0 0, .slice none 0 0]) := Lib.hid (fun nq => by rw [hcs]; exact (hRq.out.drewN nq).put 3 _)
                    have HBx : Hid (∀ nq, Below bx wo ((wr.drewN nq).setCell ⟨bx, 3, none⟩ (.int .i64 ((cntT (T.take (min q P)) ca : Int) + 1)))) := Lib.hid (fun nq => (below_drewN hBq.out nq).setCell (Nat.le_refl _) _)
                    have HIC := Lib.hid hic
                    clear hic hcs hsn hi hmn hmn2 hRq
                    generalize cntT (T.take (min q P)) ca = cq at x3 HRx HBx hcb
                    go_wp2_with fail
                    go_quiet (fail)
                    go_wp2_with fail
                    go_roundw
                    case rel => exact ⟨q + 1, by omega, by go_num, Lib.hid (HRx.out _), Lib.hid (HBx.out _)⟩
                    case measure => simp [RowKit.intOf]; omega
                  · have d2 : decide ((i : Int) = ca) = false := decide_eq_false hic
                    have d3 : ((i : Int) == ca) = false := by rw [beq_eq_false_iff_ne]; exact hic
                    have hcs : cntT (T.take (min (q + 1) P)) ca = cntT (T.take (min q P)) ca := by rw [hsn, cntT_snoc, if_neg hic]; rfl
                    have HRx : Hid (∀ nq, RowBlk 44 (wr.drewN nq) bx [.int .i64 ca, .int .i64 iv, .int .i64 0, .int .i64 (cntT (T.take (min (q + 1) P)) ca : Int), .int .i64 0, .int .u64 0, .slice none 0 0, .slice none 0 0]) := Lib.hid (fun nq => by rw [hcs]; exact hRq.out.drewN nq)
                    have HBx : Hid (∀ nq, Below bx wo (wr.drewN nq)) := Lib.hid (fun nq => below_drewN hBq.out nq)
                    clear hic hcs hsn hi hmn hmn2 hRq
                    go_wp2_with fail
                    go_quiet (fail)
                    go_wp2_with fail
                    go_roundw
                    case rel => exact ⟨q + 1, by omega, by go_num, Lib.hid (HRx.out _), Lib.hid (HBx.out _)⟩
                    case measure => simp [RowKit.intOf]; omega
                · have d1 : decide ((q : Int) < tick) = false := decide_eq_false hqt
                  have hqP : ¬ q < P := by rw [hPT]; unfold pastN; omega
                  have hmn : min (q + 1) P = min q P := by omega
                  have HRx : Hid (∀ nq, RowBlk 44 (wr.drewN nq) bx [.int .i64 ca, .int .i64 iv, .int .i64 0, .int .i64 (cntT (T.take (min (q + 1) P)) ca : Int), .int .i64 0, .int .u64 0, .slice none 0 0, .slice none 0 0]) := Lib.hid (fun nq => by rw [hmn]; exact hRq.out.drewN nq)
                  have HBx : Hid (∀ nq, Below bx wo (wr.drewN nq)) := Lib.hid (fun nq => below_drewN hBq.out nq)
                  clear hqP hmn hi hRq
                  go_wp2_with fail
                  go_quiet (fail)
                  go_wp2_with fail
                  go_roundw
                  case rel => exact ⟨q + 1, by omega, by go_num, Lib.hid (HRx.out _), Lib.hid (HBx.out _)⟩
                  case measure => simp [RowKit.intOf]; omega
              · have hq2 : q = T.length := by omega
                have hmn : min q P = P := by have := HPT.out; rw [hq2, this]; unfold pastN; omega
                have hR9 := hRq.out
                rw [hmn] at hR9
                have HB9 : Hid (Below wo.heap.size wo wr) := Lib.hid (by rw [HBXE.out]; exact hBq.out)
                have HR9 := Lib.hid hR9
                have x0 := hR9.cell (i := 0) rfl
                have x1 := hR9.cell (i := 1) rfl
                have x2 := hR9.cell (i := 2) rfl
                have x3 := hR9.cell (i := 3) rfl
                have x4 := hR9.cell (i := 4) rfl
                have x5 := hR9.cell (i := 5) rfl
                have x6 := hR9.cell (i := 6) rfl
                have x7 := hR9.cell (i := 7) rfl
                have HRW : Hid (wr.ownsRow B 44 8 (.slice a10 acc.length c10) acc.length (evRows acc)) := Lib.hid (owns_below HS.out.row HB9.out)
                have hsz9 : B ≤ wr.heap.size := by have := HB9.out.size; have := HS.out.size; omega
                have hacc : acc.length ≤ 4000000 := by have := HS.out.acl; have := HEL.out; omega
                clear hmn hR9 hRq hq2
                generalize hcn : cntT (T.take P) ca = cn at x3 HR9
                have HCN := Lib.hid hcn
                clear hcn
                go_wp2_with (at_builtin; refine append_new rfl _ _ 27 rfl B 44 iE (.agg #[.int .i64 0, .int .i64 0, .int .i64 0, .int .i64 0, .int .i64 0, .int .u64 0, .slice none 0 0, .slice none 0 0]) 8 96 Try.underlying27 ja jb jc jd rfl (by decide) (by decide) _ acc.length _ rfl HRW.out [.int .i64 ca, .int .i64 iv, .int .i64 0, .int .i64 (cn : Int), .int .i64 0, .int .u64 0, .slice none 0 0, .slice none 0 0] rfl rfl rfl (by omega) hsz9 ?_; intro v5 W5 ho5 hb5 _ _)
                have HYE := Lib.hid (show evAtX ⟨ca, iv, rs, st, er, vl, lw, kw⟩ tick (cntT (T.take P) ca : Int) = ⟨ca, iv, 0, (cn : Int), 0, 0, [], []⟩ by rw [HCN.out]; exact evAtX_open HDN.out)
                have HEY : Hid (EvR w ⟨ca, iv, 0, (cn : Int), 0, 0, [], []⟩ s0) := Lib.hid (EvR.none _ _ rfl rfl)
                have HEO : Hid ((⟨ca, iv, 0, (cn : Int), 0, 0, [], []⟩ : EvX).Ok ∧ EvSmall ⟨ca, iv, 0, (cn : Int), 0, 0, [], []⟩) := Lib.hid (by rw [← HYE.out]; exact ⟨evAtX_ok HOK.out tick (cntT (T.take P) ca : Int) (by have := cntT_le (T.take P) ca; rw [List.length_take] at this; unfold I63; omega), evAtX_small HSX.out _ _⟩)
                have HS5 := Lib.hid (HS.out.next HX.out HIV.out HB9.out hb5 HCN.out (y := ⟨ca, iv, 0, (cn : Int), 0, 0, [], []⟩) (s := s0) HYE.out HEY.out HEO.out ho5)
                clear ho5 hb5
                go_wp2_with fail
                go_roundw
                case rel => exact ⟨j + 1, _, by omega, by go_num, HS5⟩
                case measure => simp [RowKit.intOf]; omega
        · have HDN := Lib.hid hdn
          have hr0 : ¬ rs = 0 := fun h => hdn (.inl h)
          have d0 : decide (rs = 0) = false := decide_eq_false hr0
          have d1 : (rs == 0) = false := by rw [beq_eq_false_iff_ne]; exact hr0
          have d2 : (rs != 0) = true := by rw [bne, d1]; rfl
          have d3 : decide (rs ≤ tick) = true := decide_eq_true (by omega)
          have y0 := hR7.cell (i := 0) rfl
          have y1 := hR7.cell (i := 1) rfl
          have y2 := hR7.cell (i := 2) rfl
          have y3 := hR7.cell (i := 3) rfl
          have y4 := hR7.cell (i := 4) rfl
          have y5 := hR7.cell (i := 5) rfl
          have y6 := hR7.cell (i := 6) rfl
          have y7 := hR7.cell (i := 7) rfl
          have yf : ∀ j, W7.frozen? ⟨bx, j, none⟩ = false := fun j => hR7.free
          have hR8 := (put8_row hR7 (.int .i64 ca) (.int .i64 iv) (.int .i64 rs) (.int .i64 st) (.int .i64 er) (.int .u64 (vl : Int)) (.slice la lw.length lc) (.slice ka kw.length kc)).put 3 (.int .i64 0)
          have hB8 := (put8_below hB7 (Nat.le_refl bx) (.int .i64 ca) (.int .i64 iv) (.int .i64 rs) (.int .i64 st) (.int .i64 er) (.int .u64 (vl : Int)) (.slice la lw.length lc) (.slice ka kw.length kc)).setCell (show bx ≤ (⟨bx, 3, none⟩ : Addr).block from Nat.le_refl _) (.int .i64 0)
          have hy0 : ∀ (a : Addr) (v : Value), a.block = bx → (W7.setCell a v).heap.size = W7.heap.size := fun a v _ => by simp [World.setCell]
          clear hdn hr0 hR7 hB7
          go_upto_region 11 with fail
          obtain ⟨W8, hW8⟩ : ∃ W8, (put8 W7 bx (.int .i64 ca) (.int .i64 iv) (.int .i64 rs) (.int .i64 st) (.int .i64 er) (.int .u64 (vl : Int)) (.slice la lw.length lc) (.slice ka kw.length kc)).setCell ⟨bx, 3, none⟩ (.int .i64 0) = W8 := ⟨_, rfl⟩
          rw [hW8] at hR8 hB8
          unfold put8 at hW8
          rw [hW8]
          clear hW8 hy0 e0 e1 e2 e3 e4 e5 e6 e7 y0 y1 y2 y3 y4 y5 y6 y7 yf
          have hR8' : RowBlk 44 W8 bx [.int .i64 ca, .int .i64 iv, .int .i64 rs, .int .i64 0, .int .i64 er, .int .u64 (vl : Int), .slice la lw.length lc, .slice ka kw.length kc] := hR8
          clear hR8
          have hR8 := hR8'
          clear hR8'
          have HBR := Lib.hid hB8
          have HR8 := Lib.hid hR8
          clear hB8 hR8
          go_wp2_with fail
          go_loopw [63] (fun k2 wq => ∃ q : Nat, q ≤ T.length ∧ k2 = .int .i64 q ∧ Hid (RowBlk 44 wq bx [.int .i64 ca, .int .i64 iv, .int .i64 rs, .int .i64 (cntT (T.take (min q P)) ca : Int), .int .i64 er, .int .u64 (vl : Int), .slice la lw.length lc, .slice ka kw.length kc]) ∧ Hid (Below bx wo wq)) (fun k2 _ => T.length - (RowKit.intOf k2).toNat)
          case atStart => exact ⟨0, Nat.zero_le _, rfl, Lib.hid (by rw [Nat.zero_min]; exact HR8.out), HBR⟩
          case round =>
            obtain ⟨q, hq, rfl, hRq, hBq⟩ := hrel
            by_cases hql : q < T.length
            · obtain rfl := HT1.out (by omega)
              have htg := HT3.out (by omega)
              obtain ⟨i, hi⟩ : ∃ i, T[q]? = some i := ⟨T[q], List.getElem?_eq_getElem (by omega)⟩
              have hbxs := HBS.out
              have htc : wr.cell? ⟨tg, q, none⟩ = some (.int .i64 (i : Int)) := (hBq.out.cell (p := ⟨tg, _, none⟩) (by show tg < bx; omega)).trans ((HS.out.belowB.cell (p := ⟨tg, _, none⟩) htg).trans (HT4.out q _ (by unfold nums; rw [List.getElem?_map, hi]; rfl)))
              have x0 := hRq.out.cell (i := 0) rfl
              have x3 := hRq.out.cell (i := 3) rfl
              have xf : ∀ j, wr.frozen? ⟨bx, j, none⟩ = false := fun j => hRq.out.free
              have hcq := cntT_le (T.take (min q P)) ca
              rw [List.length_take] at hcq
              have hcb : cntT (T.take (min q P)) ca ≤ 65536 := by omega
              have hPT := HPT.out
              by_cases hqt : (q : Int) < tick
              · have d1 : decide ((q : Int) < tick) = true := decide_eq_true hqt
                have hqP : q < P := by rw [hPT]; unfold pastN; omega
                have hmn : min (q + 1) P = q + 1 := by omega
                have hmn2 : min q P = q := by omega
                have hsn : T.take (min (q + 1) P) = T.take (min q P) ++ [i] := by rw [hmn, hmn2]; exact take_snoc hi
                by_cases hic : (i : Int) = ca
                · have d2 : decide ((i : Int) = ca) = true := decide_eq_true hic
                  have d3 : ((i : Int) == ca) = true := by rw [beq_iff_eq]; exact hic
                  have hcs : cntT (T.take (min (q + 1) P)) ca = cntT (T.take (min q P)) ca + 1 := by rw [hsn, cntT_snoc, if_pos hic]
                  have HRx : Hid (∀ nq, RowBlk 44 ((wr.drewN nq).setCell ⟨bx, 3, none⟩ (.int .i64 ((cntT (T.take (min q P)) ca : Int) + 1))) bx [.int .i64 ca, .int .i64 iv, .int .i64 rs, .int .i64 (cntT (T.take (min (q + 1) P)) ca : Int), .int .i64 er, .int .u64 (vl : Int), .slice la lw.length lc, .slice ka kw.length kc]) := Lib.hid (fun nq => by rw [hcs]; exact (hRq.out.drewN nq).put 3 _)
                  have HBx : Hid (∀ nq, Below bx wo ((wr.drewN nq).setCell ⟨bx, 3, none⟩ (.int .i64 ((cntT (T.take (min q P)) ca : Int) + 1)))) := Lib.hid (fun nq => (below_drewN hBq.out nq).setCell (Nat.le_refl _) _)
                  have HIC := Lib.hid hic
                  clear hic hcs hsn hi hmn hmn2 hRq
                  generalize cntT (T.take (min q P)) ca = cq at x3 HRx HBx hcb
                  go_wp2_with fail
                  go_quiet (fail)
                  go_wp2_with fail
                  go_roundw
                  case rel => exact ⟨q + 1, by omega, by go_num, Lib.hid (HRx.out _), Lib.hid (HBx.out _)⟩
                  case measure => simp [RowKit.intOf]; omega
                · have d2 : decide ((i : Int) = ca) = false := decide_eq_false hic
                  have d3 : ((i : Int) == ca) = false := by rw [beq_eq_false_iff_ne]; exact hic
                  have hcs : cntT (T.take (min (q + 1) P)) ca = cntT (T.take (min q P)) ca := by rw [hsn, cntT_snoc, if_neg hic]; rfl
                  have HRx : Hid (∀ nq, RowBlk 44 (wr.drewN nq) bx [.int .i64 ca, .int .i64 iv, .int .i64 rs, .int .i64 (cntT (T.take (min (q + 1) P)) ca : Int), .int .i64 er, .int .u64 (vl : Int), .slice la lw.length lc, .slice ka kw.length kc]) := Lib.hid (fun nq => by rw [hcs]; exact hRq.out.drewN nq)
                  have HBx : Hid (∀ nq, Below bx wo (wr.drewN nq)) := Lib.hid (fun nq => below_drewN hBq.out nq)
                  clear hic hcs hsn hi hmn hmn2 hRq
                  go_wp2_with fail
                  go_quiet (fail)
                  go_wp2_with fail
                  go_roundw
                  case rel => exact ⟨q + 1, by omega, by go_num, Lib.hid (HRx.out _), Lib.hid (HBx.out _)⟩
                  case measure => simp [RowKit.intOf]; omega
              · have d1 : decide ((q : Int) < tick) = false := decide_eq_false hqt
                have hqP : ¬ q < P := by rw [hPT]; unfold pastN; omega
                have hmn : min (q + 1) P = min q P := by omega
                have HRx : Hid (∀ nq, RowBlk 44 (wr.drewN nq) bx [.int .i64 ca, .int .i64 iv, .int .i64 rs, .int .i64 (cntT (T.take (min (q + 1) P)) ca : Int), .int .i64 er, .int .u64 (vl : Int), .slice la lw.length lc, .slice ka kw.length kc]) := Lib.hid (fun nq => by rw [hmn]; exact hRq.out.drewN nq)
                have HBx : Hid (∀ nq, Below bx wo (wr.drewN nq)) := Lib.hid (fun nq => below_drewN hBq.out nq)
                clear hqP hmn hi hRq
                go_wp2_with fail
                go_quiet (fail)
                go_wp2_with fail
                go_roundw
                case rel => exact ⟨q + 1, by omega, by go_num, Lib.hid (HRx.out _), Lib.hid (HBx.out _)⟩
                case measure => simp [RowKit.intOf]; omega
            · have hq2 : q = T.length := by omega
              have hmn : min q P = P := by have := HPT.out; rw [hq2, this]; unfold pastN; omega
              have hR9 := hRq.out
              rw [hmn] at hR9
              have HB9 : Hid (Below wo.heap.size wo wr) := Lib.hid (by rw [HBXE.out]; exact hBq.out)
              have HR9 := Lib.hid hR9
              have x0 := hR9.cell (i := 0) rfl
              have x1 := hR9.cell (i := 1) rfl
              have x2 := hR9.cell (i := 2) rfl
              have x3 := hR9.cell (i := 3) rfl
              have x4 := hR9.cell (i := 4) rfl
              have x5 := hR9.cell (i := 5) rfl
              have x6 := hR9.cell (i := 6) rfl
              have x7 := hR9.cell (i := 7) rfl
              have HRW : Hid (wr.ownsRow B 44 8 (.slice a10 acc.length c10) acc.length (evRows acc)) := Lib.hid (owns_below HS.out.row HB9.out)
              have hsz9 : B ≤ wr.heap.size := by have := HB9.out.size; have := HS.out.size; omega
              have hacc : acc.length ≤ 4000000 := by have := HS.out.acl; have := HEL.out; omega
              clear hmn hR9 hRq hq2
              generalize hcn : cntT (T.take P) ca = cn at x3 HR9
              have HCN := Lib.hid hcn
              clear hcn
              go_wp2_with (at_builtin; refine append_new rfl _ _ 27 rfl B 44 iE (.agg #[.int .i64 0, .int .i64 0, .int .i64 0, .int .i64 0, .int .i64 0, .int .u64 0, .slice none 0 0, .slice none 0 0]) 8 96 Try.underlying27 ja jb jc jd rfl (by decide) (by decide) _ acc.length _ rfl HRW.out [.int .i64 ca, .int .i64 iv, .int .i64 rs, .int .i64 (cn : Int), .int .i64 er, .int .u64 (vl : Int), .slice la lw.length lc, .slice ka kw.length kc] rfl rfl rfl (by omega) hsz9 ?_; intro v5 W5 ho5 hb5 _ _)
              have HYE := Lib.hid (show evAtX ⟨ca, iv, rs, st, er, vl, lw, kw⟩ tick (cntT (T.take P) ca : Int) = ⟨ca, iv, rs, (cn : Int), er, vl, lw, kw⟩ by rw [HCN.out]; exact evAtX_done HDN.out)
              have HEY : Hid (EvR w ⟨ca, iv, rs, (cn : Int), er, vl, lw, kw⟩ ⟨la, lb, lo, lc, ka, kb, ko, kc⟩) := Lib.hid (⟨HEW.out.la, HEW.out.lb, HEW.out.lr, HEW.out.lc, HEW.out.ka, HEW.out.kb, HEW.out.kr, HEW.out.kc⟩)
              have HEO : Hid ((⟨ca, iv, rs, (cn : Int), er, vl, lw, kw⟩ : EvX).Ok ∧ EvSmall ⟨ca, iv, rs, (cn : Int), er, vl, lw, kw⟩) := Lib.hid (by rw [← HYE.out]; exact ⟨evAtX_ok HOK.out tick (cntT (T.take P) ca : Int) (by have := cntT_le (T.take P) ca; rw [List.length_take] at this; unfold I63; omega), evAtX_small HSX.out _ _⟩)
              have HS5 := Lib.hid (HS.out.next HX.out HIV.out HB9.out hb5 HCN.out (y := ⟨ca, iv, rs, (cn : Int), er, vl, lw, kw⟩) (s := ⟨la, lb, lo, lc, ka, kb, ko, kc⟩) HYE.out HEY.out HEO.out ho5)
              clear ho5 hb5
              go_wp2_with fail
              go_roundw
              case rel => exact ⟨j + 1, _, by omega, by go_num, HS5⟩
              case measure => simp [RowKit.intOf]; omega
    · have hj2 : j = le.length := by omega
      have hfin := HS.out.fst
      rw [hj2, ← exs_len le, List.take_length] at hfin
      have HF := Lib.hid hfin
      clear hfin
      subst hj2
      go_wp2_with fail
      go_ret
      obtain ⟨a, g, c, hv, o1, o2, o3, o4⟩ := owns_open HS.out.row
      have hBw : Below w.heap.size w wr := HB1.out.trans (HS.out.belowB.mono hwB)
      refine ⟨a, g, 0, c, acc, by rw [← hv]; rfl, ⟨o1, o3, fun i p hp k u hu => ?_, fun p hp => ⟨(HS.out.ev p hp).2.1, (HS.out.ev p hp).1.below hBw⟩⟩, fun p hp => (HS.out.ev p hp).2.2, by rw [HTT.out]; unfold atOf; rw [← HPT.out]; exact HF.out, hBw⟩
      rw [Nat.zero_add]
      exact o4 _ _ (evRows_get acc i p hp k u hu)
end Go.Proofs.Ythacohejdpjjeaa
