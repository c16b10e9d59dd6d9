/- Walk of Wrong, for any events: those that have keys and have not responded are applied. -/
import Derived.Test.YtcedfcdhdgmelaaQW
namespace Go.Proofs.Ytcedfcdhdgmelaa
open Go.ChangeShapes Go.WideShapes Go.ChangeAt Go.RowKit
set_option linter.unusedVariables false
set_option linter.unusedSimpArgs false
theorem cell_past {w : World} {o : Obj} {c k : Nat} (h : c < w.heap.size) : (w.alloc o).cell? ⟨c, k, none⟩ = w.cell? ⟨c, k, none⟩ := World.cell?_alloc_past _ _ _ h
set_option maxRecDepth 100000 in
set_option maxHeartbeats 4000000 in
theorem wrong_any {D : Mod} {Inv : List Nat → Prop} {n : Nat} {k p q : Int} (hM : ModelC D Inv (n : Int) k p q) (hn : 1 ≤ n ∧ n ≤ 16) (gs cS0 : Nat) (ao : Option Addr) (b o cap : Nat) (cs : List CallV) (aoE : Option Addr) (gE capE : Nat) (evs : List EvR) (B : Nat) (w : World)
    (hs0 : w.cell? ⟨gs, 0, none⟩ = some (.int .i64 k)) (hs1 : w.cell? ⟨gs, 1, none⟩ = some (.int .i64 p)) (hs2 : w.cell? ⟨gs, 2, none⟩ = some (.int .i64 q))
    (hao : 0 < evs.length → aoE = some ⟨gE, 0, none⟩) (hev : EvAllG B w gE evs) (hel : evs.length ≤ 70000) (hc : CallsAt w b o cs) (ha : 0 < cs.length → ao = some ⟨b, o, none⟩) (hcl : cs.length ≤ 9223372036854775807)
    (hcall : ∀ (j : Nat) (x : EvR), evs[j]? = some x → ∃ y, cs[x.i]? = some y ∧ 0 ≤ y.t ∧ y.t < n) (hkey : ∀ (j : Nat) (x : EvR), evs[j]? = some x → ¬ x.resp = 0 → ¬ x.key.length = 0) (hW : WrongOk D cs evs) :
    Calls Try.prog 26 #[.int .i64 (n : Int), .slice (some ⟨gs, 0, none⟩) 1 cS0, .slice ao cs.length cap, .slice aoE evs.length capE] w fun e w' => e = .returned (.int .i64 (-1)) ∧ Below w.heap.size w w' := by
  obtain ⟨iS, ja, jb, jc, jd⟩ := info_parts infoSl
  have hgl := World.block_lt_of_cell? w ⟨gs, 0, none⟩ hs0
  have HSP : Hid (∀ W, Below w.heap.size w W → W.cell? ⟨gs, 0, none⟩ = some (.int .i64 k) ∧ W.cell? ⟨gs, 1, none⟩ = some (.int .i64 p) ∧ W.cell? ⟨gs, 2, none⟩ = some (.int .i64 q)) := Lib.hid (fun W hW => ⟨(hW.cell (p := ⟨gs, 0, none⟩) hgl).trans hs0, (hW.cell (p := ⟨gs, 1, none⟩) hgl).trans hs1, (hW.cell (p := ⟨gs, 2, none⟩) hgl).trans hs2⟩)
  have HSZ : Hid (∀ W, Calls Try.prog 38 #[.int .i64 (n : Int), .agg #[.int .i64 k, .int .i64 p, .int .i64 q]] W fun e w' => ∃ s : Int, e = .returned (.int .i64 s) ∧ 0 ≤ s ∧ Below W.heap.size W w') := Lib.hid hM.size
  have HNEW : Hid (∀ W, Calls Try.prog 39 #[.int .i64 (n : Int), .agg #[.int .i64 k, .int .i64 p, .int .i64 q]] W fun e w' => ∃ v, e = .returned v ∧ ListAt w' 43 mkU (fun b => W.heap.size ≤ b) v D.st0 ∧ Below W.heap.size W w') := Lib.hid hM.new
  have HAPL : Hid (∀ (W : World) (v : Value) (st : List Nat) (x : CallV) (pr : Nat → Prop), Inv st → x.a < 18446744073709551616 → ListAt W 43 mkU pr v st → Calls Try.prog 42 #[.int .i64 (n : Int), .agg #[.int .i64 k, .int .i64 p, .int .i64 q], v, .agg #[.int .i64 x.t, .int .i64 x.o, .int .i64 x.k, .int .u64 x.a, .int .u64 x.b, .int .u64 x.c]] W fun e w' =>
    ∃ v' lv, e = .returned (.tuple #[v', .agg #[.int .i64 ((D.ap st x).2.err : Int), .int .u64 ((D.ap st x).2.val : Int), lv]]) ∧ ListAt w' 43 mkU (fun b => W.heap.size ≤ b) v' (D.ap st x).1 ∧ ListAt w' 43 mkU (fun b => W.heap.size ≤ b) lv (D.ap st x).2.list ∧ Below W.heap.size W w') := Lib.hid hM.apply
  have HLEG : Hid (∀ (W : World) (v lv : Value) (st : List Nat) (x : CallV) (pr qr : Nat → Prop), Inv st → x.a < 18446744073709551616 → ListAt W 43 mkU pr v st → ListAt W 43 mkU qr lv (D.ap st x).2.list →
    Calls Try.prog 43 #[.int .i64 (n : Int), .agg #[.int .i64 k, .int .i64 p, .int .i64 q], v, .agg #[.int .i64 x.t, .int .i64 x.o, .int .i64 x.k, .int .u64 x.a, .int .u64 x.b, .int .u64 x.c], .agg #[.int .i64 ((D.ap st x).2.err : Int), .int .u64 ((D.ap st x).2.val : Int), lv]] W fun e w' =>
      ∃ v', e = .returned (.tuple #[v', .bool true]) ∧ ListAt w' 43 mkU (fun b => W.heap.size ≤ b) v' (D.ap st x).1 ∧ Below W.heap.size W w') := Lib.hid hM.legal
  have HINV : Hid (∀ kk, Inv (stAt D cs evs kk)) := Lib.hid (stAt_inv hM (calls_a hc) evs)
  have HCA := Lib.hid (calls_a hc)
  have HAO := Lib.hid hao
  have HEV : Hid (∀ W, Below w.heap.size w W → EvAllG B W gE evs) := Lib.hid (fun W hW => hev.below hW (Nat.le_refl _))
  have HV := Lib.hid hev
  have HC := Lib.hid hc
  have HA := Lib.hid ha
  have HCALL := Lib.hid hcall
  have HKEY := Lib.hid hkey
  have HW := Lib.hid hW
  have n1 : ¬ (n : Int) < 1 := by omega
  have n2 : ¬ (16 : Int) < (n : Int) := by omega
  have n1d : decide ((n : Int) < 1) = false := decide_eq_false n1
  have n2d : decide ((n : Int) > 16) = false := decide_eq_false (by omega)
  clear hM hs0 hs1 hs2 hao hev hc ha hcall hkey hW
  go_enter Try.func26, Try.ntmps26
  go_wp2_with fail
  go_loopw [23] (fun kv wr => ∃ (j : Nat), j ≤ 1 ∧ kv = .int .i64 j ∧ Hid (Below w.heap.size w wr)) (fun kv _ => 1 - (intOf kv).toNat)
  case atStart => exact ⟨0, by omega, rfl, Lib.hid (Below.refl _ _)⟩
  case round =>
    obtain ⟨j, hj, rfl, hB⟩ := hrel
    rcases Nat.eq_zero_or_pos j with hz | hz
    · subst hz
      obtain ⟨p0, p1, p2⟩ := HSP.out wr hB.out
      go_wp2_with fail
      refine (HSZ.out _).mono ?_
      rintro e w1 ⟨s, rfl, hs, hb⟩
      have HB1 : Hid (Below w.heap.size w w1) := Lib.hid (hB.out.trans (hb.mono hB.out.size))
      have m1 : ¬ s < 0 := by omega
      have m2 : decide (s < 0) = false := decide_eq_false m1
      clear hb hs
      go_wp2_with fail
      go_roundw
      case rel => exact ⟨0 + 1, by omega, by go_num, HB1⟩
      case measure => simp [intOf]
    · obtain rfl : j = 1 := by omega
      go_wp2_with fail
      go_loopw [44] (fun kv wr => ∃ (j : Nat), j ≤ evs.length ∧ kv = .int .i64 j ∧ Hid (Below w.heap.size w wr)) (fun kv _ => evs.length - (intOf kv).toNat)
      case atStart => exact ⟨0, Nat.zero_le _, rfl, hB⟩
      case round =>
        obtain ⟨j, hj, rfl, hB⟩ := hrel
        by_cases hjl : j < evs.length
        · obtain rfl := HAO.out (by omega)
          obtain ⟨x, hx⟩ : ∃ x, evs[j]? = some x := ⟨evs[j], List.getElem?_eq_getElem hjl⟩
          obtain ⟨_, la, ka, lc, kc, hxv⟩ := HEV.out wr hB.out j x hx
          obtain ⟨y, hy, hy0, hy1⟩ := HCALL.out j x hx
          have hkx := HKEY.out j x hx
          have hil := (List.getElem?_eq_some_iff.1 hy).1
          obtain rfl := HA.out (by omega)
          obtain ⟨c0, _⟩ := (HC.out.stays hB.out (fun _ => World.block_lt_of_cell? w ⟨b, _, none⟩ (HC.out x.i y hy).1)) x.i y hy
          have v0 := hxv.c0
          have v2 := hxv.c2
          have v7 := hxv.c7
          have i0 : (0 : Int) ≤ (j : Int) := Int.natCast_nonneg _
          have i1 : (j : Int) < (evs.length : Int) := by omega
          have k0 : (0 : Int) ≤ (x.i : Int) := Int.natCast_nonneg _
          have k1 : (x.i : Int) < (cs.length : Int) := by omega
          have g1 : ¬ (x.i : Int) < 0 := by omega
          have g1d : decide ((x.i : Int) < 0) = false := decide_eq_false g1
          have g2 : ¬ (cs.length : Int) ≤ (x.i : Int) := by omega
          have g2d : decide ((x.i : Int) ≥ (cs.length : Int)) = false := decide_eq_false (by omega)
          have g3 : ¬ y.t < 0 := by omega
          have g3d : decide (y.t < 0) = false := decide_eq_false g3
          have g4 : ¬ (n : Int) ≤ y.t := by omega
          have g4d : decide (y.t ≥ (n : Int)) = false := decide_eq_false (by omega)
          clear hxv hx hy hil
          by_cases hr : x.resp = 0
          · have r0 : (x.resp : Int) = 0 := by omega
            have r1 : (x.resp != 0) = false := by rw [hr]; rfl
            have r2 : ((x.resp : Int) != 0) = false := by rw [r0]; rfl
            clear hkx hr
            go_wp2_with fail
            go_roundw
            case rel => exact ⟨j + 1, by omega, by go_num, hB⟩
            case measure => simp [intOf]; omega
          · have r0 : ¬ (x.resp : Int) = 0 := by omega
            have r2 : ((x.resp : Int) != 0) = true := by rw [bne_iff_ne]; exact r0
            have q0 : ¬ (x.key.length : Int) = 0 := by have := hkx hr; omega
            have q1 : ((x.key.length : Int) == 0) = false := by rw [beq_eq_false_iff_ne]; exact q0
            clear hkx hr
            go_wp2_with fail
            go_roundw
            case rel => exact ⟨j + 1, by omega, by go_num, hB⟩
            case measure => simp [intOf]; omega
        · have i1 : ¬ (j : Int) < (evs.length : Int) := by omega
          have i2 : decide ((j : Int) < (evs.length : Int)) = false := decide_eq_false i1
          go_wp2_with fail
          go_loopw [11, 106] (fun v kv wr => (kv = .int .i64 0 ∧ v = .slice none 0 0 ∧ Hid (Below w.heap.size w wr)) ∨ (kv = .int .i64 1 ∧ ∃ gS cS, v = .slice (some ⟨gS, 0, none⟩) 1 cS ∧ Hid (States w.heap.size gS cS D.st0 wr) ∧ Hid (Below w.heap.size w wr))) (fun _ kv _ => 1 - (intOf kv).toNat)
          case atStart => exact .inl ⟨rfl, rfl, hB⟩
          case round =>
            rcases hrel with ⟨rfl, rfl, hB⟩ | ⟨rfl, gS, cS, rfl, hS, hB⟩
            · obtain ⟨p0, p1, p2⟩ := HSP.out wr hB.out
              go_wp2_with fail
              refine (HNEW.out _).mono ?_
              rintro e w1 ⟨sv, rfl, hl, hb⟩
              have HB1 : Hid (Below w.heap.size w w1) := Lib.hid (hB.out.trans (hb.mono hB.out.size))
              have z1 := HB1.out.size
              obtain ⟨sao, scap, rfl⟩ := hl.isSlice
              have HL : Hid (ListAt w1 43 mkU (fun b => w.heap.size ≤ b) (.slice sao D.st0.length scap) D.st0) := Lib.hid (hl.keep (fun b _ hB' => ⟨rfl, Nat.le_trans hB.out.size hB'⟩))
              clear hl hb
              go_wp2_with (at_builtin; refine append_g rfl _ _ 75 rfl w.heap.size 27 iS (.slice none 0 0) 1 24 Try.underlying75 ja jb jc jd rfl (by decide) (by decide) _ 0 [] rfl (World.ownsRow_nil _ _ _ _) [.slice sao D.st0.length scap] rfl rfl rfl (by decide) z1 ?_)
              intro v1 w2 ho1 hg1 hnn
              obtain ⟨gS, cS, rfl, hgB, hgl1⟩ := owns_slice ho1 hnn
              have HB2 : Hid (Below w.heap.size w w2) := Lib.hid (HB1.out.grown hg1 z1 (fun k hk => by simp [Value.ownBlock] at hk))
              have HS : Hid (States w.heap.size gS cS D.st0 w2) := Lib.hid ⟨_, ho1, HL.out.keep (fun b ht hB' => ⟨hg1.block b ht.lt (by simp [Value.ownBlock]), hB'⟩)⟩
              clear ho1 hg1 hnn
              go_wp2_with fail
              go_roundw
              case rel => exact .inr ⟨by go_num, gS, cS, rfl, HS, HB2⟩
              case measure => simp [intOf]
            · go_wp2_with fail
              refine (order_any aoE gE capE evs B wr HAO.out (HEV.out wr hB.out) hel).mono ?_
              rintro e w3 ⟨vO, rfl, hO, hb⟩
              have HS3 := Lib.hid (hS.out.below hb)
              have HB3 : Hid (Below w.heap.size w w3) := Lib.hid (hB.out.trans (hb.mono hB.out.size))
              obtain ⟨L, hL⟩ : ∃ L, (ordP evs evs.length).length = L := ⟨_, rfl⟩
              rw [hL] at hO
              have hO' : w3.ownsRow w.heap.size 3 1 vO L (nums (ordP evs evs.length)) := by
                obtain ⟨o1, ⟨o2, o3⟩ | ⟨g', cap', cur, o2, o3, o4⟩⟩ := hO
                · exact ⟨o1, .inl ⟨o2, o3⟩⟩
                · exact ⟨o1, .inr ⟨g', cap', cur, o2, Nat.le_trans hB.out.size o3, o4⟩⟩
              obtain ⟨aoO, gO, cO, hvO, hoa, hob, hoc, _⟩ := owns_open hO'
              subst hvO
              have HO3 := Lib.hid hO'
              have HOA := Lib.hid hoa
              have HLL := Lib.hid hL
              clear hb hO hO' hL hoa hob hoc hS hB
              go_wp2_with fail
              go_loopw [123] (fun kv wr => ∃ (kk : Nat), kk ≤ L ∧ kv = .int .i64 kk ∧ Hid (States w.heap.size gS cS (stAt D cs evs kk) wr) ∧ Hid (wr.ownsRow w.heap.size 3 1 (.slice aoO L cO) L (nums (ordP evs evs.length))) ∧ Hid (Below w.heap.size w wr)) (fun kv _ => L - (intOf kv).toNat)
              case atStart => exact ⟨0, Nat.zero_le _, rfl, Lib.hid (by
                have e : stAt D cs evs 0 = D.st0 := by unfold stAt mFold; simp
                rw [e]; exact HS3.out), HO3, HB3⟩
              case round =>
                obtain ⟨kk, hkk, rfl, hS, hO, hB⟩ := hrel
                have hLb : L ≤ 70000 := by have := ordP_len evs evs.length; rw [HLL.out] at this; omega
                have hsz := hB.out.size
                by_cases hkl : kk < L
                · obtain rfl := HOA.out (by omega)
                  obtain ⟨j, hj⟩ : ∃ j, (ordP evs evs.length)[kk]? = some j := ⟨_, List.getElem?_eq_getElem (by rw [HLL.out]; exact hkl)⟩
                  have hjl : j < evs.length := ordP_lt evs _ j (List.mem_of_getElem? hj)
                  obtain ⟨x, hx⟩ : ∃ x, evs[j]? = some x := ⟨evs[j], List.getElem?_eq_getElem hjl⟩
                  have hst := stAt_succ (D := D) (cs := cs) hj hx
                  obtain ⟨y, hy, hy0, hy1⟩ := HCALL.out j x hx
                  have hil := (List.getElem?_eq_some_iff.1 hy).1
                  obtain rfl := HAO.out (by omega)
                  obtain rfl := HA.out (by omega)
                  have o1 : wr.cell? ⟨gO, kk, none⟩ = some (.int .i64 (j : Int)) := owns_at hO.out (nums_get1 hj)
                  obtain ⟨_, la, ka, lc, kc, hxv⟩ := HEV.out wr hB.out j x hx
                  obtain ⟨c0, c1, c2, c3, c4, c5, _⟩ := (HC.out.stays hB.out (fun _ => World.block_lt_of_cell? w ⟨b, _, none⟩ (HC.out x.i y hy).1)) x.i y hy
                  have i0 : (0 : Int) ≤ (kk : Int) := Int.natCast_nonneg _
                  have i1 : (kk : Int) < (L : Int) := by omega
                  have i2 : decide ((kk : Int) < (L : Int)) = true := decide_eq_true i1
                  have j0 : (0 : Int) ≤ (j : Int) := Int.natCast_nonneg _
                  have j1 : (j : Int) < (evs.length : Int) := by omega
                  have k0 : (0 : Int) ≤ (x.i : Int) := Int.natCast_nonneg _
                  have k1 : (x.i : Int) < (cs.length : Int) := by omega
                  have v0 := hxv.c0
                  have v1 := hxv.c1
                  have v2 := hxv.c2
                  have v3 := hxv.c3
                  have v7 := hxv.c7
                  have hlE := World.block_lt_of_cell? wr ⟨gE, _, none⟩ v0
                  have hlB := World.block_lt_of_cell? wr ⟨b, _, none⟩ c0
                  by_cases hr : x.resp = 0
                  · have v4 := hxv.c4
                    have v5 := hxv.c5
                    have v6 := hxv.c6
                    have v2' : wr.cell? ⟨gE, j * 8 + 2, none⟩ = some (.int .i64 0) := by have := v2; rw [hr] at this; exact this
                    clear v2
                    by_cases ho : y.o < 0 ∨ 1 ≤ y.o
                    · rw [mStep_off hy ho] at hst
                      have HST := Lib.hid hst
                      clear hst hxv hx hy hj hr hil
                      rcases ho with ho | ho
                      · have q1 : decide (y.o < 0) = true := decide_eq_true ho
                        go_wp2_with fail
                        have hb6 : ∀ o1 o2, Below wr.heap.size wr ((wr.alloc o1).alloc o2) := fun o1 o2 => ((Below.refl wr.heap.size wr).alloc (Nat.le_refl _) _).alloc (by simp) _
                        go_roundw
                        case rel => exact ⟨kk + 1, by omega, by go_num, by rw [HST.out]; exact Lib.hid (hS.out.below (hb6 _ _)), Lib.hid (owns_below hO.out (hb6 _ _)), Lib.hid (hB.out.trans ((hb6 _ _).mono hsz))⟩
                        case measure => simp [intOf]; omega
                      · have q1 : ¬ y.o < 0 := by omega
                        have q2 : decide (y.o < 0) = false := decide_eq_false q1
                        have q3 : decide (y.o ≥ 1) = true := decide_eq_true ho
                        go_wp2_with fail
                        have hb6 : ∀ o1 o2, Below wr.heap.size wr ((wr.alloc o1).alloc o2) := fun o1 o2 => ((Below.refl wr.heap.size wr).alloc (Nat.le_refl _) _).alloc (by simp) _
                        go_roundw
                        case rel => exact ⟨kk + 1, by omega, by go_num, by rw [HST.out]; exact Lib.hid (hS.out.below (hb6 _ _)), Lib.hid (owns_below hO.out (hb6 _ _)), Lib.hid (hB.out.trans ((hb6 _ _).mono hsz))⟩
                        case measure => simp [intOf]; omega
                    · have hy00 : y.o = 0 := by omega
                      rw [mStep_on hy ho] at hst
                      obtain ⟨sv, hsv1, hsv2⟩ := hS.out
                      have hInv := HINV.out kk
                      generalize stAt D cs evs kk = st at hS hst hsv2 hInv
                      obtain ⟨sao, scap, rfl⟩ := hsv2.isSlice
                      have hya := HCA.out y (List.mem_of_getElem? hy)
                      obtain ⟨st2, an2, hs2⟩ : ∃ st2 an2, D.ap st y = (st2, an2) := ⟨_, _, rfl⟩
                      have HAPC : Hid (∀ W, Below wr.heap.size wr W → Calls Try.prog 42 #[.int .i64 (n : Int), .agg #[.int .i64 k, .int .i64 p, .int .i64 q], .slice sao st.length scap, .agg #[.int .i64 y.t, .int .i64 0, .int .i64 y.k, .int .u64 y.a, .int .u64 y.b, .int .u64 y.c]] W fun e w' =>
                          ∃ a5 c5 la5 lc5, e = .returned (.tuple #[.slice a5 st2.length c5, .agg #[.int .i64 (an2.err : Int), .int .u64 (an2.val : Int), .slice la5 an2.list.length lc5]]) ∧ ListAt w' 43 mkU (fun b => W.heap.size ≤ b) (.slice a5 st2.length c5) st2 ∧ Below W.heap.size W w') := Lib.hid (fun W hW => by
                        have h2 : ListAt W 43 mkU (fun _ => True) (.slice sao st.length scap) st := hsv2.keep (fun b hb _ => ⟨hW.block b hb.lt, trivial⟩)
                        have h3 := HAPL.out W (.slice sao st.length scap) st y _ hInv hya h2
                        rw [hy00, hs2] at h3
                        refine h3.mono ?_
                        rintro e w' ⟨v', lv, rfl, g1, g2, g3⟩
                        obtain ⟨a5, c5, rfl⟩ := g1.isSlice
                        obtain ⟨la5, lc5, rfl⟩ := g2.isSlice
                        exact ⟨a5, c5, la5, lc5, rfl, g1, g3⟩)
                      rw [hs2] at hst
                      rw [hy00] at c1
                      have HST := Lib.hid hst
                      clear hst hxv hx hy hj hr hil hya hInv ho hs2
                      go_wp2_with fail
                      generalize hW2 : (wr.alloc (.cells #[.int .i64 (x.i : Int), .int .i64 (x.inv : Int), .int .i64 0, .int .i64 (x.steps : Int), .int .i64 (x.ans.err : Int), .int .u64 (x.ans.val : Int), .slice la x.ans.list.length lc, .slice ka x.key.length kc] 47)).alloc (.cells #[.int .i64 y.t, .int .i64 0, .int .i64 y.k, .int .u64 (y.a : Int), .int .u64 (y.b : Int), .int .u64 (y.c : Int)] 49) = W2
                      have hb2 : Below wr.heap.size wr W2 := by rw [← hW2]; exact ((Below.refl wr.heap.size wr).alloc (Nat.le_refl _) _).alloc (by simp) _
                      have HEV2 : Hid (RowBlk 47 W2 wr.heap.size [.int .i64 (x.i : Int), .int .i64 (x.inv : Int), .int .i64 0, .int .i64 (x.steps : Int), .int .i64 (x.ans.err : Int), .int .u64 (x.ans.val : Int), .slice la x.ans.list.length lc, .slice ka x.key.length kc]) := Lib.hid (by rw [← hW2]; exact (RowBlk.new _ _ _).alloc _)
                      have HCA2 : Hid (RowBlk 49 W2 (wr.heap.size + 1) [.int .i64 y.t, .int .i64 0, .int .i64 y.k, .int .u64 (y.a : Int), .int .u64 (y.b : Int), .int .u64 (y.c : Int)]) := Lib.hid (by
                        rw [← hW2]
                        have h1 := RowBlk.new (wr.alloc (.cells #[.int .i64 (x.i : Int), .int .i64 (x.inv : Int), .int .i64 0, .int .i64 (x.steps : Int), .int .i64 (x.ans.err : Int), .int .u64 (x.ans.val : Int), .slice la x.ans.list.length lc, .slice ka x.key.length kc] 47)) [.int .i64 y.t, .int .i64 0, .int .i64 y.k, .int .u64 (y.a : Int), .int .u64 (y.b : Int), .int .u64 (y.c : Int)] 49
                        have e : (wr.alloc (.cells #[.int .i64 (x.i : Int), .int .i64 (x.inv : Int), .int .i64 0, .int .i64 (x.steps : Int), .int .i64 (x.ans.err : Int), .int .u64 (x.ans.val : Int), .slice la x.ans.list.length lc, .slice ka x.key.length kc] 47)).heap.size = wr.heap.size + 1 := by simp
                        rw [e] at h1; exact h1)
                      have HR2 := Lib.hid hb2
                      have HBW2 : Hid (Below w.heap.size w W2) := Lib.hid (hB.out.trans (hb2.mono hsz))
                      have HOW := Lib.hid hsv1
                      have HLV := Lib.hid hsv2
                      clear hW2 v0 v1 v2' v3 v4 v5 v6 v7 c0 c1 c2 c3 c4 c5 o1 hsv1 hsv2
                      obtain ⟨p0, p1, p2⟩ := HSP.out W2 HBW2.out
                      have t0 : W2.cell? ⟨gS, 0, none⟩ = some (.slice sao st.length scap) := owns_at (owns_below HOW.out hb2) rfl
                      have d0 : W2.cell? ⟨wr.heap.size + 1, 0, none⟩ = some (.int .i64 y.t) := HCA2.out.cell rfl
                      have d1 : W2.cell? ⟨wr.heap.size + 1, 1, none⟩ = some (.int .i64 0) := HCA2.out.cell rfl
                      have d2 : W2.cell? ⟨wr.heap.size + 1, 2, none⟩ = some (.int .i64 y.k) := HCA2.out.cell rfl
                      have d3 : W2.cell? ⟨wr.heap.size + 1, 3, none⟩ = some (.int .u64 (y.a : Int)) := HCA2.out.cell rfl
                      have d4 : W2.cell? ⟨wr.heap.size + 1, 4, none⟩ = some (.int .u64 (y.b : Int)) := HCA2.out.cell rfl
                      have d5 : W2.cell? ⟨wr.heap.size + 1, 5, none⟩ = some (.int .u64 (y.c : Int)) := HCA2.out.cell rfl
                      have e4 : W2.cell? ⟨wr.heap.size, 4, none⟩ = some (.int .i64 (x.ans.err : Int)) := HEV2.out.cell rfl
                      have e5 : W2.cell? ⟨wr.heap.size, 5, none⟩ = some (.int .u64 (x.ans.val : Int)) := HEV2.out.cell rfl
                      have e6 : W2.cell? ⟨wr.heap.size, 6, none⟩ = some (.slice la x.ans.list.length lc) := HEV2.out.cell rfl
                      clear hb2
                      go_region_held3 (fun w' => w'.cell? ⟨gs, 0, none⟩ = some (.int .i64 k) ∧ w'.cell? ⟨gs, 1, none⟩ = some (.int .i64 p) ∧ w'.cell? ⟨gs, 2, none⟩ = some (.int .i64 q) ∧ w'.cell? ⟨gS, 0, none⟩ = some (.slice sao st.length scap) ∧ w'.cell? ⟨wr.heap.size + 1, 0, none⟩ = some (.int .i64 y.t) ∧ w'.cell? ⟨wr.heap.size + 1, 1, none⟩ = some (.int .i64 0) ∧ w'.cell? ⟨wr.heap.size + 1, 2, none⟩ = some (.int .i64 y.k) ∧ w'.cell? ⟨wr.heap.size + 1, 3, none⟩ = some (.int .u64 (y.a : Int)) ∧ w'.cell? ⟨wr.heap.size + 1, 4, none⟩ = some (.int .u64 (y.b : Int)) ∧ w'.cell? ⟨wr.heap.size + 1, 5, none⟩ = some (.int .u64 (y.c : Int)) ∧ w'.cell? ⟨wr.heap.size, 4, none⟩ = some (.int .i64 (x.ans.err : Int)) ∧ w'.cell? ⟨wr.heap.size, 5, none⟩ = some (.int .u64 (x.ans.val : Int)) ∧ w'.cell? ⟨wr.heap.size, 6, none⟩ = some (.slice la x.ans.list.length lc)) (first | with_reducible exact ⟨p0, p1, p2, t0, d0, d1, d2, d3, d4, d5, e4, e5, e6⟩ | (simp only [cell_far m1, cell_far m2, cell_far m3, cell_far m4, cell_past l1, cell_past l2, cell_past l3, cell_past l4]; with_reducible exact ⟨p0, p1, p2, t0, d0, d1, d2, d3, d4, d5, e4, e5, e6⟩) | go_keep)
                        (first
                          | (with_reducible refine (HAPC.out _ (below_drew (HR2.out.alloc HR2.out.size _))).mono ?_
                             rintro e w5 ⟨a5, c5, la5, lc5, rfl, hl5, hb5⟩
                             have HR5 : Hid (Below wr.heap.size wr w5) := Lib.hid ((below_drew (HR2.out.alloc HR2.out.size _)).trans (hb5.mono (below_drew (HR2.out.alloc HR2.out.size _)).size))
                             have HB5 : Hid (Below w.heap.size w w5) := Lib.hid (hB.out.trans (HR5.out.mono hsz))
                             have HE5 := Lib.hid (RowBlk.same (RowBlk.drew (HEV2.out.alloc _)) (hb5.block _ (RowBlk.drew (HEV2.out.alloc _)).lt))
                             have HC5 := Lib.hid (RowBlk.same (RowBlk.drew (HCA2.out.alloc _)) (hb5.block _ (RowBlk.drew (HCA2.out.alloc _)).lt))
                             have HV5 : Hid (ListAt w5 43 mkU (fun b => wr.heap.size ≤ b ∧ wr.heap.size + 1 < b) (.slice a5 st2.length c5) st2) := Lib.hid (hl5.keep (fun b _ hB' => ⟨rfl, Nat.le_trans (below_drew (HR2.out.alloc HR2.out.size _)).size hB', Nat.lt_of_lt_of_le (RowBlk.drew (HCA2.out.alloc _)).lt hB'⟩))
                             have hgSl := (HOW.out.lt gS rfl).2
                             have z5 := HR5.out.size
                             have z7 := HC5.out.lt
                             have z8 := HCA2.out.lt
                             have m1 : gs ≠ W2.heap.size := by omega
                             have m2 : gS ≠ W2.heap.size := by omega
                             have m3 : wr.heap.size ≠ W2.heap.size := by omega
                             have m4 : wr.heap.size + 1 ≠ W2.heap.size := by omega
                             have l1 : gs < w5.heap.size := by omega
                             have l2 : gS < w5.heap.size := by omega
                             have l3 : wr.heap.size < w5.heap.size := by omega
                             have l4 : wr.heap.size + 1 < w5.heap.size := by omega
                             have HA5 : Hid (RowBlk 45 w5 W2.heap.size [.int .i64 0, .int .u64 0, .slice none 0 0]) := Lib.hid (RowBlk.same (RowBlk.drew (RowBlk.new W2 [.int .i64 0, .int .u64 0, .slice none 0 0] 45)) (hb5.block W2.heap.size (by show W2.heap.size < (W2.alloc _).heap.size; simp)))
                             have a0 := HA5.out.cell (i := 0) rfl
                             have a1 := HA5.out.cell (i := 1) rfl
                             have a2 := HA5.out.cell (i := 2) rfl
                             have y0 : w5.frozen? ⟨W2.heap.size, 0, none⟩ = false := HA5.out.free
                             have y1 : w5.frozen? ⟨W2.heap.size, 1, none⟩ = false := HA5.out.free
                             have y2 : w5.frozen? ⟨W2.heap.size, 2, none⟩ = false := HA5.out.free
                             have HX : Hid (Below wr.heap.size wr (((w5.setCell ⟨W2.heap.size, 0, none⟩ (.int .i64 (an2.err : Int))).setCell ⟨W2.heap.size, 1, none⟩ (.int .u64 (an2.val : Int))).setCell ⟨W2.heap.size, 2, none⟩ (.slice la5 an2.list.length lc5)) ∧ ListAt (((w5.setCell ⟨W2.heap.size, 0, none⟩ (.int .i64 (an2.err : Int))).setCell ⟨W2.heap.size, 1, none⟩ (.int .u64 (an2.val : Int))).setCell ⟨W2.heap.size, 2, none⟩ (.slice la5 an2.list.length lc5)) 43 mkU (fun b => wr.heap.size ≤ b) (.slice a5 st2.length c5) st2 ∧ RowBlk 49 (((w5.setCell ⟨W2.heap.size, 0, none⟩ (.int .i64 (an2.err : Int))).setCell ⟨W2.heap.size, 1, none⟩ (.int .u64 (an2.val : Int))).setCell ⟨W2.heap.size, 2, none⟩ (.slice la5 an2.list.length lc5)) (wr.heap.size + 1) [.int .i64 y.t, .int .i64 0, .int .i64 y.k, .int .u64 (y.a : Int), .int .u64 (y.b : Int), .int .u64 (y.c : Int)]) := Lib.hid ⟨((HR5.out.setCell (show wr.heap.size ≤ W2.heap.size by omega) _).setCell (show wr.heap.size ≤ W2.heap.size by omega) _).setCell (show wr.heap.size ≤ W2.heap.size by omega) _, HV5.out.keep (fun b ht hB' => ⟨by have hne := ht.ne (BlkT.of_row HA5.out) (by decide); rw [Below.heap_setCell _ _ _ _ hne, Below.heap_setCell _ _ _ _ hne, Below.heap_setCell _ _ _ _ hne], hB'.1⟩), ((HC5.out.other m4 _).other m4 _).other m4 _⟩
                             clear hl5 hb5
                             obtain ⟨p0, p1, p2⟩ := HSP.out w5 HB5.out
                             have t0 : w5.cell? ⟨gS, 0, none⟩ = some (.slice sao st.length scap) := owns_at (owns_below HOW.out HR5.out) rfl
                             have d0 : w5.cell? ⟨wr.heap.size + 1, 0, none⟩ = some (.int .i64 y.t) := HC5.out.cell rfl
                             have d1 : w5.cell? ⟨wr.heap.size + 1, 1, none⟩ = some (.int .i64 0) := HC5.out.cell rfl
                             have d2 : w5.cell? ⟨wr.heap.size + 1, 2, none⟩ = some (.int .i64 y.k) := HC5.out.cell rfl
                             have d3 : w5.cell? ⟨wr.heap.size + 1, 3, none⟩ = some (.int .u64 (y.a : Int)) := HC5.out.cell rfl
                             have d4 : w5.cell? ⟨wr.heap.size + 1, 4, none⟩ = some (.int .u64 (y.b : Int)) := HC5.out.cell rfl
                             have d5 : w5.cell? ⟨wr.heap.size + 1, 5, none⟩ = some (.int .u64 (y.c : Int)) := HC5.out.cell rfl
                             have e4 : w5.cell? ⟨wr.heap.size, 4, none⟩ = some (.int .i64 (x.ans.err : Int)) := HE5.out.cell rfl
                             have e5 : w5.cell? ⟨wr.heap.size, 5, none⟩ = some (.int .u64 (x.ans.val : Int)) := HE5.out.cell rfl
                             have e6 : w5.cell? ⟨wr.heap.size, 6, none⟩ = some (.slice la x.ans.list.length lc) := HE5.out.cell rfl)
                          | (with_reducible refine (HAPC.out _ (below_drew HR2.out)).mono ?_
                             rintro e w5 ⟨a5, c5, la5, lc5, rfl, hl5, hb5⟩
                             have HR5 : Hid (Below wr.heap.size wr w5) := Lib.hid ((below_drew HR2.out).trans (hb5.mono (below_drew HR2.out).size))
                             have HB5 : Hid (Below w.heap.size w w5) := Lib.hid (hB.out.trans (HR5.out.mono hsz))
                             have HE5 := Lib.hid (RowBlk.same (RowBlk.drew HEV2.out) (hb5.block _ (RowBlk.drew HEV2.out).lt))
                             have HC5 := Lib.hid (RowBlk.same (RowBlk.drew HCA2.out) (hb5.block _ (RowBlk.drew HCA2.out).lt))
                             have HV5 : Hid (ListAt w5 43 mkU (fun b => wr.heap.size ≤ b ∧ wr.heap.size + 1 < b) (.slice a5 st2.length c5) st2) := Lib.hid (hl5.keep (fun b _ hB' => ⟨rfl, Nat.le_trans (below_drew HR2.out).size hB', Nat.lt_of_lt_of_le (RowBlk.drew HCA2.out).lt hB'⟩))
                             have hgSl := (HOW.out.lt gS rfl).2
                             have z5 := HR5.out.size
                             have z7 := HC5.out.lt
                             have z8 := HCA2.out.lt
                             have m1 : gs ≠ w5.heap.size := by omega
                             have m2 : gS ≠ w5.heap.size := by omega
                             have m3 : wr.heap.size ≠ w5.heap.size := by omega
                             have m4 : wr.heap.size + 1 ≠ w5.heap.size := by omega
                             have l1 : gs < w5.heap.size := by omega
                             have l2 : gS < w5.heap.size := by omega
                             have l3 : wr.heap.size < w5.heap.size := by omega
                             have l4 : wr.heap.size + 1 < w5.heap.size := by omega
                             clear hl5 hb5
                             obtain ⟨p0, p1, p2⟩ := HSP.out w5 HB5.out
                             have t0 : w5.cell? ⟨gS, 0, none⟩ = some (.slice sao st.length scap) := owns_at (owns_below HOW.out HR5.out) rfl
                             have d0 : w5.cell? ⟨wr.heap.size + 1, 0, none⟩ = some (.int .i64 y.t) := HC5.out.cell rfl
                             have d1 : w5.cell? ⟨wr.heap.size + 1, 1, none⟩ = some (.int .i64 0) := HC5.out.cell rfl
                             have d2 : w5.cell? ⟨wr.heap.size + 1, 2, none⟩ = some (.int .i64 y.k) := HC5.out.cell rfl
                             have d3 : w5.cell? ⟨wr.heap.size + 1, 3, none⟩ = some (.int .u64 (y.a : Int)) := HC5.out.cell rfl
                             have d4 : w5.cell? ⟨wr.heap.size + 1, 4, none⟩ = some (.int .u64 (y.b : Int)) := HC5.out.cell rfl
                             have d5 : w5.cell? ⟨wr.heap.size + 1, 5, none⟩ = some (.int .u64 (y.c : Int)) := HC5.out.cell rfl
                             have e4 : w5.cell? ⟨wr.heap.size, 4, none⟩ = some (.int .i64 (x.ans.err : Int)) := HE5.out.cell rfl
                             have e5 : w5.cell? ⟨wr.heap.size, 5, none⟩ = some (.int .u64 (x.ans.val : Int)) := HE5.out.cell rfl
                             have e6 : w5.cell? ⟨wr.heap.size, 6, none⟩ = some (.slice la x.ans.list.length lc) := HE5.out.cell rfl))
                      · rename_i hHeld
                        clear hHeld p0 p1 p2 t0 d0 d1 d2 d3 d4 d5 e4 e5 e6
                        have HX : Hid (Below wr.heap.size wr (w5.alloc (.cells #[.int .i64 (an2.err : Int), .int .u64 (an2.val : Int), .slice la5 an2.list.length lc5] 45)) ∧ ListAt (w5.alloc (.cells #[.int .i64 (an2.err : Int), .int .u64 (an2.val : Int), .slice la5 an2.list.length lc5] 45)) 43 mkU (fun b => wr.heap.size ≤ b) (.slice a5 st2.length c5) st2 ∧ RowBlk 49 (w5.alloc (.cells #[.int .i64 (an2.err : Int), .int .u64 (an2.val : Int), .slice la5 an2.list.length lc5] 45)) (wr.heap.size + 1) [.int .i64 y.t, .int .i64 0, .int .i64 y.k, .int .u64 (y.a : Int), .int .u64 (y.b : Int), .int .u64 (y.c : Int)]) := Lib.hid ⟨HR5.out.alloc HR5.out.size _, HV5.out.keep (fun b ht hB' => ⟨Below.heap_alloc _ _ _ ht.lt, hB'.1⟩), HC5.out.alloc _⟩
                        generalize (w5.alloc (.cells #[.int .i64 (an2.err : Int), .int .u64 (an2.val : Int), .slice la5 an2.list.length lc5] 45)) = W6 at HX ⊢
                        have hOS := owns_below HOW.out HX.out.1
                        have fS : W6.frozen? ⟨gS, 0, none⟩ = false := owns_free hOS 0
                        have t6 : W6.cell? ⟨gS, 0, none⟩ = some (.slice sao st.length scap) := owns_at hOS rfl
                        have HS6 : Hid (∀ v, v = .slice a5 st2.length c5 → States w.heap.size gS cS st2 (W6.setCell ⟨gS, 0, none⟩ v)) := Lib.hid (fun v e => by
                          subst e
                          exact States.put (st := st) ⟨_, hOS, HLV.out.keep (fun b ht hB' => ⟨HX.out.1.block b ht.lt, hB'⟩)⟩ (HX.out.2.1.keep (fun b ht hB' => ⟨rfl, Nat.le_trans hsz hB'⟩)))
                        have HO6 : Hid (∀ v, (W6.setCell ⟨gS, 0, none⟩ v).ownsRow w.heap.size 3 1 (.slice (some ⟨gO, 0, none⟩) L cO) L (nums (ordP evs evs.length))) := Lib.hid (fun v => by
                          refine owns_sameB (owns_below hO.out HX.out.1) (fun b hb => Below.heap_setCell _ _ _ _ (fun e => ?_))
                          cases hb
                          exact (owns_color (owns_below hO.out HX.out.1)).ne (owns_color hOS) (by decide) e)
                        have hgS := (hOS.lt gS rfl).1
                        have HB6 : Hid (∀ v, Below w.heap.size w (W6.setCell ⟨gS, 0, none⟩ v)) := Lib.hid (fun v => (hB.out.trans (HX.out.1.mono hsz)).setCell hgS _)
                        have d6 : W6.cell? ⟨wr.heap.size + 1, 1, none⟩ = some (.int .i64 0) := HX.out.2.2.cell rfl
                        clear hOS
                        go_wp2_with fail
                        go_roundw
                        case rel => exact ⟨kk + 1, by omega, by go_num, by rw [HST.out]; exact Lib.hid (HS6.out _ rfl), Lib.hid (HO6.out _), Lib.hid (HB6.out _)⟩
                        case measure => simp [intOf]; omega
                      · rename_i hHeld
                        clear hHeld p0 p1 p2 t0 d0 d1 d2 d3 d4 d5 e4 e5 e6
                        clear a0 a1 a2 y0 y1 y2
                        generalize (((w5.setCell ⟨W2.heap.size, 0, none⟩ (.int .i64 (an2.err : Int))).setCell ⟨W2.heap.size, 1, none⟩ (.int .u64 (an2.val : Int))).setCell ⟨W2.heap.size, 2, none⟩ (.slice la5 an2.list.length lc5)) = W6 at HX ⊢
                        have hOS := owns_below HOW.out HX.out.1
                        have fS : W6.frozen? ⟨gS, 0, none⟩ = false := owns_free hOS 0
                        have t6 : W6.cell? ⟨gS, 0, none⟩ = some (.slice sao st.length scap) := owns_at hOS rfl
                        have HS6 : Hid (∀ v, v = .slice a5 st2.length c5 → States w.heap.size gS cS st2 (W6.setCell ⟨gS, 0, none⟩ v)) := Lib.hid (fun v e => by
                          subst e
                          exact States.put (st := st) ⟨_, hOS, HLV.out.keep (fun b ht hB' => ⟨HX.out.1.block b ht.lt, hB'⟩)⟩ (HX.out.2.1.keep (fun b ht hB' => ⟨rfl, Nat.le_trans hsz hB'⟩)))
                        have HO6 : Hid (∀ v, (W6.setCell ⟨gS, 0, none⟩ v).ownsRow w.heap.size 3 1 (.slice (some ⟨gO, 0, none⟩) L cO) L (nums (ordP evs evs.length))) := Lib.hid (fun v => by
                          refine owns_sameB (owns_below hO.out HX.out.1) (fun b hb => Below.heap_setCell _ _ _ _ (fun e => ?_))
                          cases hb
                          exact (owns_color (owns_below hO.out HX.out.1)).ne (owns_color hOS) (by decide) e)
                        have hgS := (hOS.lt gS rfl).1
                        have HB6 : Hid (∀ v, Below w.heap.size w (W6.setCell ⟨gS, 0, none⟩ v)) := Lib.hid (fun v => (hB.out.trans (HX.out.1.mono hsz)).setCell hgS _)
                        have d6 : W6.cell? ⟨wr.heap.size + 1, 1, none⟩ = some (.int .i64 0) := HX.out.2.2.cell rfl
                        clear hOS
                        go_wp2_with fail
                        go_roundw
                        case rel => exact ⟨kk + 1, by omega, by go_num, by rw [HST.out]; exact Lib.hid (HS6.out _ rfl), Lib.hid (HO6.out _), Lib.hid (HB6.out _)⟩
                        case measure => simp [intOf]; omega
                  · have hans := HW.out kk j x hj hx hr
                    have r0 : ¬ (x.resp : Int) = 0 := by omega
                    have r2 : ((x.resp : Int) != 0) = true := by rw [bne_iff_ne]; exact r0
                    have r3 : ((x.resp : Int) == 0) = false := by rw [beq_eq_false_iff_ne]; exact r0
                    by_cases ho : y.o < 0 ∨ 1 ≤ y.o
                    · rw [mAns_off hy ho] at hans
                      rw [mStep_off hy ho] at hst
                      have v4 : wr.cell? ⟨gE, j * 8 + 4, none⟩ = some (.int .i64 12) := by have := hxv.c4; rw [hans] at this; exact this
                      have v5 : wr.cell? ⟨gE, j * 8 + 5, none⟩ = some (.int .u64 0) := by have := hxv.c5; rw [hans] at this; exact this
                      have v6 : wr.cell? ⟨gE, j * 8 + 6, none⟩ = some (.slice la 0 lc) := by have := hxv.c6; rw [hans] at this; exact this
                      have HST := Lib.hid hst
                      clear hans hst hxv hx hy hj hr hil
                      rcases ho with ho | ho
                      · have q1 : decide (y.o < 0) = true := decide_eq_true ho
                        go_wp2_with fail
                        refine (answer12 la lc _).mono ?_
                        rintro e w5 ⟨rfl, hb5⟩
                        have hb6 : Below wr.heap.size wr w5 := (((Below.refl wr.heap.size wr).alloc (Nat.le_refl _) _).alloc (by simp) _).trans (hb5.mono (by simp; omega))
                        have HB5 : Hid (Below w.heap.size w w5) := Lib.hid (hB.out.trans (hb6.mono hsz))
                        have HS5 := Lib.hid (hS.out.below hb6)
                        have HO5 := Lib.hid (owns_below hO.out hb6)
                        clear hb5 hb6
                        go_wp2_with fail
                        go_roundw
                        case rel => exact ⟨kk + 1, by omega, by go_num, by rw [HST.out]; exact HS5, HO5, HB5⟩
                        case measure => simp [intOf]; omega
                      · have q1 : ¬ y.o < 0 := by omega
                        have q2 : decide (y.o < 0) = false := decide_eq_false q1
                        have q3 : decide (y.o ≥ 1) = true := decide_eq_true ho
                        go_wp2_with fail
                        refine (answer12 la lc _).mono ?_
                        rintro e w5 ⟨rfl, hb5⟩
                        have hb6 : Below wr.heap.size wr w5 := (((Below.refl wr.heap.size wr).alloc (Nat.le_refl _) _).alloc (by simp) _).trans (hb5.mono (by simp; omega))
                        have HB5 : Hid (Below w.heap.size w w5) := Lib.hid (hB.out.trans (hb6.mono hsz))
                        have HS5 := Lib.hid (hS.out.below hb6)
                        have HO5 := Lib.hid (owns_below hO.out hb6)
                        clear hb5 hb6
                        go_wp2_with fail
                        go_roundw
                        case rel => exact ⟨kk + 1, by omega, by go_num, by rw [HST.out]; exact HS5, HO5, HB5⟩
                        case measure => simp [intOf]; omega
                    · have hy00 : y.o = 0 := by omega
                      rw [mAns_on hy ho] at hans
                      rw [mStep_on hy ho] at hst
                      obtain ⟨sv, hsv1, hsv2⟩ := hS.out
                      have hInv := HINV.out kk
                      generalize stAt D cs evs kk = st at hS hans hst hsv2 hInv
                      obtain ⟨sao, scap, rfl⟩ := hsv2.isSlice
                      have hya := HCA.out y (List.mem_of_getElem? hy)
                      have HLG : Hid (∀ W, Below wr.heap.size wr W → Calls Try.prog 43 #[.int .i64 (n : Int), .agg #[.int .i64 k, .int .i64 p, .int .i64 q], .slice sao st.length scap, .agg #[.int .i64 y.t, .int .i64 0, .int .i64 y.k, .int .u64 y.a, .int .u64 y.b, .int .u64 y.c], .agg #[.int .i64 (x.ans.err : Int), .int .u64 (x.ans.val : Int), .slice la x.ans.list.length lc]] W fun e w' =>
                          ∃ v', e = .returned (.tuple #[v', .bool true]) ∧ ListAt w' 43 mkU (fun b => W.heap.size ≤ b) v' (D.ap st y).1 ∧ Below W.heap.size W w') := Lib.hid (fun W hW => by
                        have h1 : ListAt W 43 mkU (fun _ => True) (.slice la x.ans.list.length lc) x.ans.list := (hxv.lst).keep (fun b hb _ => ⟨hW.block b hb.lt, trivial⟩)
                        have h2 : ListAt W 43 mkU (fun _ => True) (.slice sao st.length scap) st := hsv2.keep (fun b hb _ => ⟨hW.block b hb.lt, trivial⟩)
                        have h3 := HLEG.out W (.slice sao st.length scap) (.slice la x.ans.list.length lc) st y _ _ hInv hya h2 (by rw [← hans]; exact h1)
                        rw [← hans, hy00] at h3
                        exact h3)
                      obtain ⟨st2, hs2⟩ : ∃ st2, (D.ap st y).1 = st2 := ⟨_, rfl⟩
                      rw [hs2] at HLG hst
                      clear hs2
                      rw [hy00] at c1
                      have v4 := hxv.c4
                      have v5 := hxv.c5
                      have v6 := hxv.c6
                      have HST := Lib.hid hst
                      clear hans hst hxv hx hy hj hr hil hya hInv ho
                      go_wp2_with fail
                      generalize hW2 : (wr.alloc (.cells #[.int .i64 (x.i : Int), .int .i64 (x.inv : Int), .int .i64 (x.resp : Int), .int .i64 (x.steps : Int), .int .i64 (x.ans.err : Int), .int .u64 (x.ans.val : Int), .slice la x.ans.list.length lc, .slice ka x.key.length kc] 47)).alloc (.cells #[.int .i64 y.t, .int .i64 0, .int .i64 y.k, .int .u64 (y.a : Int), .int .u64 (y.b : Int), .int .u64 (y.c : Int)] 49) = W2
                      have hb2 : Below wr.heap.size wr W2 := by rw [← hW2]; exact ((Below.refl wr.heap.size wr).alloc (Nat.le_refl _) _).alloc (by simp) _
                      have HEV2 : Hid (RowBlk 47 W2 wr.heap.size [.int .i64 (x.i : Int), .int .i64 (x.inv : Int), .int .i64 (x.resp : Int), .int .i64 (x.steps : Int), .int .i64 (x.ans.err : Int), .int .u64 (x.ans.val : Int), .slice la x.ans.list.length lc, .slice ka x.key.length kc]) := Lib.hid (by rw [← hW2]; exact (RowBlk.new _ _ _).alloc _)
                      have HCA2 : Hid (RowBlk 49 W2 (wr.heap.size + 1) [.int .i64 y.t, .int .i64 0, .int .i64 y.k, .int .u64 (y.a : Int), .int .u64 (y.b : Int), .int .u64 (y.c : Int)]) := Lib.hid (by
                        rw [← hW2]
                        have h1 := RowBlk.new (wr.alloc (.cells #[.int .i64 (x.i : Int), .int .i64 (x.inv : Int), .int .i64 (x.resp : Int), .int .i64 (x.steps : Int), .int .i64 (x.ans.err : Int), .int .u64 (x.ans.val : Int), .slice la x.ans.list.length lc, .slice ka x.key.length kc] 47)) [.int .i64 y.t, .int .i64 0, .int .i64 y.k, .int .u64 (y.a : Int), .int .u64 (y.b : Int), .int .u64 (y.c : Int)] 49
                        have e : (wr.alloc (.cells #[.int .i64 (x.i : Int), .int .i64 (x.inv : Int), .int .i64 (x.resp : Int), .int .i64 (x.steps : Int), .int .i64 (x.ans.err : Int), .int .u64 (x.ans.val : Int), .slice la x.ans.list.length lc, .slice ka x.key.length kc] 47)).heap.size = wr.heap.size + 1 := by simp
                        rw [e] at h1; exact h1)
                      have HR2 := Lib.hid hb2
                      have HBW2 : Hid (Below w.heap.size w W2) := Lib.hid (hB.out.trans (hb2.mono hsz))
                      have HOW := Lib.hid hsv1
                      have HLV := Lib.hid hsv2
                      clear hW2 v0 v1 v2 v3 v4 v5 v6 v7 c0 c1 c2 c3 c4 c5 o1 hsv1 hsv2
                      obtain ⟨p0, p1, p2⟩ := HSP.out W2 HBW2.out
                      have t0 : W2.cell? ⟨gS, 0, none⟩ = some (.slice sao st.length scap) := owns_at (owns_below HOW.out hb2) rfl
                      have d0 : W2.cell? ⟨wr.heap.size + 1, 0, none⟩ = some (.int .i64 y.t) := HCA2.out.cell rfl
                      have d1 : W2.cell? ⟨wr.heap.size + 1, 1, none⟩ = some (.int .i64 0) := HCA2.out.cell rfl
                      have d2 : W2.cell? ⟨wr.heap.size + 1, 2, none⟩ = some (.int .i64 y.k) := HCA2.out.cell rfl
                      have d3 : W2.cell? ⟨wr.heap.size + 1, 3, none⟩ = some (.int .u64 (y.a : Int)) := HCA2.out.cell rfl
                      have d4 : W2.cell? ⟨wr.heap.size + 1, 4, none⟩ = some (.int .u64 (y.b : Int)) := HCA2.out.cell rfl
                      have d5 : W2.cell? ⟨wr.heap.size + 1, 5, none⟩ = some (.int .u64 (y.c : Int)) := HCA2.out.cell rfl
                      have e4 : W2.cell? ⟨wr.heap.size, 4, none⟩ = some (.int .i64 (x.ans.err : Int)) := HEV2.out.cell rfl
                      have e5 : W2.cell? ⟨wr.heap.size, 5, none⟩ = some (.int .u64 (x.ans.val : Int)) := HEV2.out.cell rfl
                      have e6 : W2.cell? ⟨wr.heap.size, 6, none⟩ = some (.slice la x.ans.list.length lc) := HEV2.out.cell rfl
                      clear hb2
                      go_region_held3 (fun w' => w'.cell? ⟨gs, 0, none⟩ = some (.int .i64 k) ∧ w'.cell? ⟨gs, 1, none⟩ = some (.int .i64 p) ∧ w'.cell? ⟨gs, 2, none⟩ = some (.int .i64 q) ∧ w'.cell? ⟨gS, 0, none⟩ = some (.slice sao st.length scap) ∧ w'.cell? ⟨wr.heap.size + 1, 0, none⟩ = some (.int .i64 y.t) ∧ w'.cell? ⟨wr.heap.size + 1, 1, none⟩ = some (.int .i64 0) ∧ w'.cell? ⟨wr.heap.size + 1, 2, none⟩ = some (.int .i64 y.k) ∧ w'.cell? ⟨wr.heap.size + 1, 3, none⟩ = some (.int .u64 (y.a : Int)) ∧ w'.cell? ⟨wr.heap.size + 1, 4, none⟩ = some (.int .u64 (y.b : Int)) ∧ w'.cell? ⟨wr.heap.size + 1, 5, none⟩ = some (.int .u64 (y.c : Int)) ∧ w'.cell? ⟨wr.heap.size, 4, none⟩ = some (.int .i64 (x.ans.err : Int)) ∧ w'.cell? ⟨wr.heap.size, 5, none⟩ = some (.int .u64 (x.ans.val : Int)) ∧ w'.cell? ⟨wr.heap.size, 6, none⟩ = some (.slice la x.ans.list.length lc)) (first | with_reducible exact ⟨p0, p1, p2, t0, d0, d1, d2, d3, d4, d5, e4, e5, e6⟩ | go_keep)
                        (first
                          | (go_at_call 43
                             refine (HLG.out _ (below_drew HR2.out)).mono ?_
                             rintro e w5 ⟨v', rfl, hl5, hb5⟩
                             obtain ⟨ao5, cap5, rfl⟩ := hl5.isSlice
                             have HV5 := Lib.hid hl5
                             have HR5 : Hid (Below wr.heap.size wr w5) := Lib.hid ((below_drew HR2.out).trans (hb5.mono (by show wr.heap.size ≤ W2.heap.size; exact HR2.out.size)))
                             have HB5 : Hid (Below w.heap.size w w5) := Lib.hid (hB.out.trans (HR5.out.mono hsz))
                             have HE5 := Lib.hid (RowBlk.same (RowBlk.drew HEV2.out) (hb5.block _ HEV2.out.lt))
                             have HC5 := Lib.hid (RowBlk.same (RowBlk.drew HCA2.out) (hb5.block _ HCA2.out.lt))
                             have HZ5 : Hid (wr.heap.size ≤ W2.heap.size) := Lib.hid HR2.out.size
                             clear hl5 hb5
                             obtain ⟨p0, p1, p2⟩ := HSP.out w5 HB5.out
                             have t0 : w5.cell? ⟨gS, 0, none⟩ = some (.slice sao st.length scap) := owns_at (owns_below HOW.out HR5.out) rfl
                             have d0 : w5.cell? ⟨wr.heap.size + 1, 0, none⟩ = some (.int .i64 y.t) := HC5.out.cell rfl
                             have d1 : w5.cell? ⟨wr.heap.size + 1, 1, none⟩ = some (.int .i64 0) := HC5.out.cell rfl
                             have d2 : w5.cell? ⟨wr.heap.size + 1, 2, none⟩ = some (.int .i64 y.k) := HC5.out.cell rfl
                             have d3 : w5.cell? ⟨wr.heap.size + 1, 3, none⟩ = some (.int .u64 (y.a : Int)) := HC5.out.cell rfl
                             have d4 : w5.cell? ⟨wr.heap.size + 1, 4, none⟩ = some (.int .u64 (y.b : Int)) := HC5.out.cell rfl
                             have d5 : w5.cell? ⟨wr.heap.size + 1, 5, none⟩ = some (.int .u64 (y.c : Int)) := HC5.out.cell rfl
                             have e4 : w5.cell? ⟨wr.heap.size, 4, none⟩ = some (.int .i64 (x.ans.err : Int)) := HE5.out.cell rfl
                             have e5 : w5.cell? ⟨wr.heap.size, 5, none⟩ = some (.int .u64 (x.ans.val : Int)) := HE5.out.cell rfl
                             have e6 : w5.cell? ⟨wr.heap.size, 6, none⟩ = some (.slice la x.ans.list.length lc) := HE5.out.cell rfl))
                      have hOS := owns_below HOW.out HR5.out
                      have fS : w5.frozen? ⟨gS, 0, none⟩ = false := owns_free hOS 0
                      have HS6 : Hid (∀ v, v = .slice ao5 st2.length cap5 → States w.heap.size gS cS st2 (w5.setCell ⟨gS, 0, none⟩ v)) := Lib.hid (fun v e => by
                        subst e
                        exact States.put (st := st) ⟨_, hOS, HLV.out.keep (fun b ht hB' => ⟨HR5.out.block b ht.lt, hB'⟩)⟩ (HV5.out.keep (fun b ht hB' => ⟨rfl, by have := HZ5.out; have h2 : W2.drew.heap.size ≤ b := hB'; have h3 : W2.drew.heap.size = W2.heap.size := rfl; omega⟩)))
                      have HO6 : Hid (∀ v, (w5.setCell ⟨gS, 0, none⟩ v).ownsRow w.heap.size 3 1 (.slice (some ⟨gO, 0, none⟩) L cO) L (nums (ordP evs evs.length))) := Lib.hid (fun v => by
                        refine owns_sameB (owns_below hO.out HR5.out) (fun b hb => Below.heap_setCell _ _ _ _ (fun e => ?_))
                        cases hb
                        exact (owns_color (owns_below hO.out HR5.out)).ne (owns_color hOS) (by decide) e)
                      have hgS := (hOS.lt gS rfl).1
                      have HB6 : Hid (∀ v, Below w.heap.size w (w5.setCell ⟨gS, 0, none⟩ v)) := Lib.hid (fun v => HB5.out.setCell hgS _)
                      clear hOS
                      go_wp2_with fail
                      go_roundw
                      case rel => exact ⟨kk + 1, by omega, by go_num, by rw [HST.out]; exact Lib.hid (HS6.out _ rfl), Lib.hid (HO6.out _), Lib.hid (HB6.out _)⟩
                      case measure => simp [intOf]; omega
                · have i1 : ¬ (kk : Int) < (L : Int) := by omega
                  have i2 : decide ((kk : Int) < (L : Int)) = false := decide_eq_false i1
                  go_wp2_with fail
                  go_ret
                  exact ⟨rfl, hB.out⟩
end Go.Proofs.Ytcedfcdhdgmelaa
