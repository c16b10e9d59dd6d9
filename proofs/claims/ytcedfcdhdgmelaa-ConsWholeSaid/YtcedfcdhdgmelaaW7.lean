/- The cons, one by one, plainly; its model; walk of the law ConsWhole. -/
import Derived.Test.YtcedfcdhdgmelaaP7
import Derived.Test.YtcedfcdhdgmelaaQJ
import Derived.Test.YtcedfcdhdgmelaaQN0
import Derived.Test.YtcedfcdhdgmelaaQWp
import Derived.Test.YtcedfcdhdgmelaaQA0
import Derived.Test.YtcedfcdhdgmelaaQR
import Derived.Test.YtcedfcdhdgmelaaZG
import Derived.Test.YtcedfcdhdgmelaaZE
namespace Go.Proofs.Ytcedfcdhdgmelaa
set_option linter.unusedVariables false
set_option linter.unusedSimpArgs false
section
open Go.RowKit
def conD : Mod := ⟨[0], fun st x => if x.k = 0 then (if 4294967296 ≤ x.a then (st, ⟨10, 0, []⟩) else if st.getD 0 0 = 0 then ([x.a + 1], ⟨0, x.a, []⟩) else (st, ⟨0, st.getD 0 0 - 1, []⟩)) else if x.k = 1 then (if st.getD 0 0 = 0 then (st, ⟨7, 0, []⟩) else (st, ⟨0, st.getD 0 0 - 1, []⟩)) else (st, ⟨9, 0, []⟩)⟩
theorem conD_ap (st : List Nat) (x : CallV) : conD.ap st x = if x.k = 0 then (if 4294967296 ≤ x.a then (st, ⟨10, 0, []⟩) else if st.getD 0 0 = 0 then ([x.a + 1], ⟨0, x.a, []⟩) else (st, ⟨0, st.getD 0 0 - 1, []⟩)) else if x.k = 1 then (if st.getD 0 0 = 0 then (st, ⟨7, 0, []⟩) else (st, ⟨0, st.getD 0 0 - 1, []⟩)) else (st, ⟨9, 0, []⟩) := rfl
/-- one that has proposed -/
def ConG (_ : consM.S) (ws : List Nat) (q : consM.Q ⊕ Nat) (inv : Nat) (a : Ans) : Prop := ∃ f, q = .inl (⟨true, f, inv⟩ : ConsQ) ∧ 0 < inv ∧ ¬ ws.getD 0 0 = 0 ∧ a = ⟨0, ws.getD 0 0 - 1, []⟩
theorem conFirst (cs : List CallV) : FirstM (M := consM) conD cs ConsI ConG where
  key := fun s ws q inv a h => by
    obtain ⟨f, rfl, h1, _⟩ := h
    show (if inv = 0 then [] else [2 * inv]) = _
    rw [if_neg (by omega)]
  first := fun st i x t hI hx ht => by
    obtain ⟨y, hy⟩ : ∃ y, st.ws = [y] := by
      have h := hI.1
      match hw : st.ws, h with
      | [y], _ => exact ⟨y, rfl⟩
    have hm : (consM.m : Int) = 1 := rfl
    by_cases ho : x.o < 0 ∨ 1 ≤ x.o
    · have e : invQ (M := consM) st.s x = (st.s, .inr 12) := by unfold invQ; rw [if_pos (by rw [hm]; exact ho)]
      rw [e, mStep_off hx ho, mAns_off hx ho]
      exact ⟨rfl, fun a h => ⟨(Option.some.inj h).symm, rfl⟩, fun h => (by cases h), fun _ _ _ h => h⟩
    · have e : invQ (M := consM) st.s x = consM.inv st.s x := by unfold invQ; rw [if_neg (by rw [hm]; exact ho)]
      rw [e, cons_inv_eq, mStep_on hx ho, mAns_on hx ho, conD_ap, hy]
      by_cases k0 : x.k = 0
      · rw [if_pos k0, if_pos k0]
        by_cases ha : 4294967296 ≤ x.a
        · rw [if_pos ha, if_pos ha]
          exact ⟨rfl, fun a h => ⟨(Option.some.inj h).symm, rfl⟩, fun h => (by cases h), fun _ _ _ h => h⟩
        · rw [if_neg ha, if_neg ha]
          by_cases hz : y = 0
          · subst hz
            rw [if_pos (show [0].getD 0 0 = 0 from rfl)]
            exact ⟨rfl, fun a h => (by cases h), fun _ => ⟨x.a + 1, rfl, ht, by show ¬ x.a + 1 = 0; omega, rfl⟩, fun _ _ _ h => by obtain ⟨f, _, _, h3, _⟩ := h; exact absurd rfl h3⟩
          · rw [if_neg (show ¬ [y].getD 0 0 = 0 from hz)]
            have e1 : (stepQ (M := consM) st.s (.inl (⟨false, x.a + 1, 0⟩ : ConsQ)) [y] st.cn t).ws = [y] := by
              show ((Acc.sw 0 0 (x.a + 1)).run [y] st.cn).2.1 = _
              simp only [Acc.run]
              rw [if_neg (show ¬ [y].getD 0 0 = 0 from hz)]
            refine ⟨e1, fun a h => (by cases h), fun _ => ?_, fun q inv a h => ?_⟩
            · show ConG _ (stepQ (M := consM) st.s (.inl (⟨false, x.a + 1, 0⟩ : ConsQ)) [y] st.cn t).ws _ _ _
              rw [e1]
              exact ⟨x.a + 1, rfl, ht, hz, rfl⟩
            · show ConG _ (stepQ (M := consM) st.s (.inl (⟨false, x.a + 1, 0⟩ : ConsQ)) [y] st.cn t).ws q inv a
              rw [e1]; exact h
      · rw [if_neg k0, if_neg k0]
        by_cases k1 : x.k = 1
        · rw [if_pos k1, if_pos k1]
          by_cases hz : y = 0
          · subst hz
            rw [if_pos (show [0].getD 0 0 = 0 from rfl)]
            exact ⟨rfl, fun a h => ⟨(Option.some.inj h).symm, rfl⟩, fun h => (by cases h), fun _ _ _ h => h⟩
          · rw [if_neg (show ¬ [y].getD 0 0 = 0 from hz)]
            refine ⟨rfl, fun a h => ⟨?_, rfl⟩, fun h => (by cases h), fun _ _ _ h => h⟩
            have h' : (if y = 0 then (⟨7, 0, []⟩ : Ans) else ⟨0, y - 1, []⟩) = a := Option.some.inj h
            rw [if_neg hz] at h'
            exact h'.symm
        · rw [if_neg k1, if_neg k1]
          exact ⟨rfl, fun a h => ⟨(Option.some.inj h).symm, rfl⟩, fun h => (by cases h), fun _ _ _ h => h⟩
  more := fun st q inv a t hI hG ht => by
    obtain ⟨f, rfl, h1, h2, rfl⟩ := hG
    refine ⟨rfl, fun a' h => ?_, fun h => (by cases h), fun _ _ _ h => h⟩
    have h' : (if st.ws.getD 0 0 = 0 then (⟨7, 0, []⟩ : Ans) else ⟨0, st.ws.getD 0 0 - 1, []⟩) = a' := Option.some.inj h
    rw [if_neg h2] at h'
    refine ⟨h'.symm, ?_⟩
    show (if inv = 0 then [] else [2 * inv]) = _
    rw [if_neg (by omega)]
theorem con_wrong (cs : List CallV) (picks : List Int) : WrongOk conD cs (repOf (endM (M := consM) cs [0] () picks)).evs :=
  linI_wrong (conFirst cs) (linI_end (conFirst cs) (cons_ok cs) [0] () (consI_first cs) rfl picks) (rowI_end cs _ _ picks)
theorem con_in (cs : List CallV) (picks : List Int) : KeysIn (endM (M := consM) cs [0] () picks) :=
  linI_in (conFirst cs) (linI_end (conFirst cs) (cons_ok cs) [0] () (consI_first cs) rfl picks) (rowI_end cs _ _ picks)
end
section
open Go.ChangeShapes Go.WideShapes Go.ChangeAt Go.RowKit
set_option maxRecDepth 20000 in
theorem size_cons (n p q : Int) (W : World) : Calls Try.prog 38 #[.int .i64 n, specAgg 1 p q] W fun e w' => ∃ s : Int, e = .returned (.int .i64 s) ∧ 0 ≤ s ∧ Below W.heap.size W w' := by
  unfold specAgg
  go_enter Try.func38, Try.ntmps38
  go_wp2_with fail
  go_ret
  exact ⟨1, rfl, by omega, (Below.refl _ _).alloc (Nat.le_refl _) _⟩
set_option maxRecDepth 20000 in
theorem new_cons (n p q : Int) (W : World) : Calls Try.prog 39 #[.int .i64 n, specAgg 1 p q] W fun e w' => ∃ v, e = .returned v ∧ ListAt w' 43 mkU (fun b => W.heap.size ≤ b) v [0] ∧ Below W.heap.size W w' := by
  have hb1 : Below W.heap.size W (W.alloc (.cells #[.int .i64 1, .int .i64 p, .int .i64 q] 38)) := (Below.refl _ _).alloc (Nat.le_refl _) _
  obtain ⟨v, hv, hl, hb⟩ := new_one W _ hb1
  have hs : (W.alloc (.cells #[.int .i64 1, .int .i64 p, .int .i64 q] 38)).heap.size = W.heap.size + 1 := by simp
  rw [hs] at hv
  have HL := Lib.hid hl
  have HB := Lib.hid hb
  clear hl hb
  unfold specAgg
  go_enter Try.func39, Try.ntmps39
  go_wp2_with fail
  go_ret
  exact ⟨v, by rw [hv]; rfl, HL.out, HB.out⟩
theorem apply_conD (n p q : Int) (W : World) (v : Value) (st : List Nat) (x : CallV) (pr : Nat → Prop) (hI : OneInv st) (ha : x.a < 18446744073709551616) (hv : ListAt W 43 mkU pr v st) :
    Calls Try.prog 42 #[.int .i64 n, specAgg 1 p q, v, callAgg x] W fun e w' =>
      ∃ v' lv, e = .returned (.tuple #[v', .agg #[.int .i64 ((conD.ap st x).2.err : Int), .int .u64 ((conD.ap st x).2.val : Int), lv]]) ∧ ListAt w' 43 mkU (fun b => W.heap.size ≤ b) v' (conD.ap st x).1 ∧ ListAt w' 43 mkU (fun b => W.heap.size ≤ b) lv (conD.ap st x).2.list ∧ Below W.heap.size W w' := by
  obtain ⟨y, rfl, hy⟩ := hI
  have key : (∃ z, (conD.ap [y] x).1 = [z]) ∧ (conD.ap [y] x).2.list = [] ∧ ∀ (g cap : Nat) (W' : World), Own1 W' g y → Calls Try.prog 64 #[.slice (some ⟨g, 0, none⟩) 1 cap, callAgg x] W' (OneOut (conD.ap [y] x) g cap W') := by
    rw [conD_ap, show [y].getD 0 0 = y from rfl]
    by_cases k0 : x.k = 0
    · rw [if_pos k0]
      by_cases h10 : 4294967296 ≤ x.a
      · rw [if_pos h10]; exact ⟨⟨_, rfl⟩, rfl, fun g cap W' h => m_con10 x g cap y W' h k0 h10⟩
      · rw [if_neg h10]
        by_cases hz : y = 0
        · rw [if_pos hz]; exact ⟨⟨_, rfl⟩, rfl, fun g cap W' h => m_con0z x g cap y W' h k0 (by omega) hz⟩
        · rw [if_neg hz]; exact ⟨⟨_, rfl⟩, rfl, fun g cap W' h => m_con0n x g cap y W' h k0 (by omega) hz hy⟩
    · rw [if_neg k0]
      by_cases k1 : x.k = 1
      · rw [if_pos k1]
        by_cases hz : y = 0
        · rw [if_pos hz]; subst hz; exact ⟨⟨_, rfl⟩, rfl, fun g cap W' h => m_con1z x g cap 0 W' h k1 rfl⟩
        · rw [if_neg hz]; exact ⟨⟨_, rfl⟩, rfl, fun g cap W' h => m_con1n x g cap y W' h k1 hz hy⟩
      · rw [if_neg k1]; exact ⟨⟨_, rfl⟩, rfl, fun g cap W' h => m_con9 x g cap y W' h k0 k1⟩
  exact (apply_cons (conD.ap [y] x) n p q v y x pr W hv key.2.2).mono fun e w' h => h.gen key.1 key.2.1
theorem model_cons (n p q : Int) : ModelC conD OneInv n 1 p q where
  size := size_cons n p q
  new := new_cons n p q
  apply := fun W v st x pr hI ha hv => apply_conD n p q W v st x pr hI ha hv
  legal := fun W v lv st x pr qr hI ha hv hl => legal_any (by omega) (fun W v st x pr hI ha hv => apply_conD n p q W v st x pr hI ha hv) W v lv st x pr qr hI ha hv hl
  inv0 := ⟨0, rfl, by omega⟩
  invS := fun st x hI ha => by
    obtain ⟨y, rfl, hy⟩ := hI
    rw [conD_ap]
    split
    · split
      · exact ⟨_, rfl, hy⟩
      · split
        · exact ⟨_, rfl, by omega⟩
        · exact ⟨_, rfl, hy⟩
    · split
      · split
        · exact ⟨_, rfl, hy⟩
        · exact ⟨_, rfl, hy⟩
      · exact ⟨_, rfl, hy⟩
end
section
open Go.RowKit
set_option maxRecDepth 100000 in
set_option maxHeartbeats 2000000 in
theorem whole_any {D : Mod} {Inv : List Nat → Prop} {n : Nat} {k p q : Int} (hM : ModelC D Inv (n : Int) k p q) (gs cS0 : Nat) (cs : List CallV) (r : RepR) (aoE : Option Addr) (gE capE gw : Nat) (ao : Option Addr) (b o cap B : Nat) (w : World)
    (hs0 : w.cell? ⟨gs, 0, none⟩ = some (.int .i64 k)) (hs1 : w.cell? ⟨gs, 1, none⟩ = some (.int .i64 p)) (hs2 : w.cell? ⟨gs, 2, none⟩ = some (.int .i64 q))
    (hR : RowsOk cs n r) (hao : 0 < r.evs.length → aoE = some ⟨gE, 0, none⟩) (hev : EvAllG B w gE r.evs) (hc : CallsAt w b o cs) (ha : 0 < cs.length → ao = some ⟨b, o, none⟩) (hcl : cs.length ≤ 9223372036854775807) (hel : r.evs.length ≤ 70000)
    (hWr : WrongOk D cs r.evs) :
    Calls Try.prog 13 #[.int .i64 (n : Int), .slice (some ⟨gs, 0, none⟩) 1 cS0, .slice ao cs.length cap, .agg (repVs (.slice aoE r.evs.length capE) gw r).toArray] w fun e w' => e = .returned (.bool true) ∧ Below w.heap.size w w' := by
  have hbl : ∀ h0 : 0 < cs.length, b < w.heap.size := fun h0 => by
    obtain ⟨x, hx⟩ : ∃ x, cs[0]? = some x := ⟨cs[0], List.getElem?_eq_getElem h0⟩
    exact World.block_lt_of_cell? w ⟨b, _, none⟩ (hc 0 x hx).1
  have hgl := World.block_lt_of_cell? w ⟨gs, 0, none⟩ hs0
  have HSP : Hid (∀ W, Below w.heap.size w W → W.cell? ⟨gs, 0, none⟩ = some (.int .i64 k) ∧ W.cell? ⟨gs, 1, none⟩ = some (.int .i64 p) ∧ W.cell? ⟨gs, 2, none⟩ = some (.int .i64 q)) := Lib.hid (fun W hW => ⟨(hW.cell (p := ⟨gs, 0, none⟩) hgl).trans hs0, (hW.cell (p := ⟨gs, 1, none⟩) hgl).trans hs1, (hW.cell (p := ⟨gs, 2, none⟩) hgl).trans hs2⟩)
  have hb0 : Below w.heap.size w (w.alloc (.cells (repVs (.slice aoE r.evs.length capE) gw r).toArray 31)) := (Below.refl _ _).alloc (Nat.le_refl _) _
  have H1 := Lib.hid (rows_yes cs n r aoE gE capE gw ao b o cap B (w.alloc (.cells (repVs (.slice aoE r.evs.length capE) gw r).toArray 31)) hR hao (hev.below hb0 (Nat.le_refl _)) (hc.stays hb0 hbl) ha hcl hel)
  have H2 : Hid (∀ W, Below w.heap.size w W → Calls Try.prog 26 #[.int .i64 (n : Int), .slice (some ⟨gs, 0, none⟩) 1 cS0, .slice ao cs.length cap, .slice aoE r.evs.length capE] W fun e w' => e = .returned (.int .i64 (-1)) ∧ Below W.heap.size W w') := Lib.hid (fun W hW => by
    obtain ⟨p0, p1, p2⟩ := HSP.out W hW
    refine wrong_any hM hR.n1 gs cS0 ao b o cap cs aoE gE capE r.evs B W p0 p1 p2 hao (hev.below hW (Nat.le_refl _)) hel (hc.stays hW hbl) ha hcl (fun j x hx => ?_) (fun j x hx hr h0 => ?_) hWr
    · obtain ⟨y, h1, h2, h3⟩ := (hR.ev j x hx).call
      exact ⟨y, h1, h2, h3⟩
    · obtain ⟨_, _, _, a, ra, hk, _⟩ := (hR.ev j x hx).done hr
      rw [hk] at h0; simp at h0)
  have H3 : Hid (∀ W, Below w.heap.size w W → Calls Try.prog 27 #[.slice aoE r.evs.length capE] W fun e w' => e = .returned (.bool true) ∧ Below W.heap.size W w') := Lib.hid (fun W hW => aheadAll_yes aoE gE capE r.evs B W hao (hev.below hW (Nat.le_refl _)) (rows_ahead hR) hel)
  have HB0 := Lib.hid hb0
  have HRB := Lib.hid (RowBlk.new w (repVs (.slice aoE r.evs.length capE) gw r) 31)
  clear hM hs0 hs1 hs2 hR hao hev hc ha hWr hb0
  unfold repVs at *
  go_enter Try.func13, Try.ntmps13
  go_wp2_with fail
  refine H1.out.mono ?_
  rintro e w1 ⟨rfl, hb1⟩
  have hr1 := HRB.out.same (hb1.block _ (by simp))
  have c0 : w1.cell? ⟨w.heap.size, 0, none⟩ = some (.slice aoE r.evs.length capE) := hr1.cell rfl
  have HB1 : Hid (Below w.heap.size w w1) := Lib.hid (HB0.out.trans (hb1.mono (by simp)))
  have HR1 := Lib.hid hr1
  clear hb1 hr1
  go_wp2_with fail
  refine (H2.out w1 HB1.out).mono ?_
  rintro e w2 ⟨rfl, hb2⟩
  have hr2 := HR1.out.same (hb2.block _ HR1.out.lt)
  have c0' : w2.cell? ⟨w.heap.size, 0, none⟩ = some (.slice aoE r.evs.length capE) := hr2.cell rfl
  have HB2 : Hid (Below w.heap.size w w2) := Lib.hid (HB1.out.trans (hb2.mono HB1.out.size))
  clear hb2 hr2 c0
  go_wp2_with fail
  refine (H3.out w2 HB2.out).mono ?_
  rintro e w3 ⟨rfl, hb3⟩
  have HB3 : Hid (Below w.heap.size w w3) := Lib.hid (HB2.out.trans (hb3.mono HB2.out.size))
  clear hb3
  go_wp2_with fail
  go_ret
  exact ⟨rfl, HB3.out⟩
def longB7 (cl pl : Nat) : Prop := (60 < cl ∧ cl ≤ 1000) ∨ (600 < pl ∧ pl ≤ 65536) ∨ 1100 < cl
set_option maxRecDepth 20000 in
theorem cwhole_long (q0 : Int) (ao ao3 : Option Addr) (cl cap pl cap3 : Nat) (w : World) (hp : pl ≤ 9223372036854775807) (h : longB7 cl pl) :
    Calls Try.prog 3 #[.int .i64 q0, .slice ao cl cap, .slice ao3 pl cap3] w fun e w' => e = .returned (.bool true) ∧ Below w.heap.size w w' := by
  have H := Lib.hid h
  clear h
  go_enter Try.func3, Try.ntmps3
  go_wp2_with fail
  refine (many_yes _ _ _ _ _ _ _ hp H.out).mono ?_
  rintro e w1 ⟨rfl, rfl⟩
  go_wp2_with fail
  refine (both_any _).mono ?_
  rintro e w2 ⟨rfl, hb⟩
  have HB : Hid (Below w.heap.size w w2) := Lib.hid hb
  clear hb
  go_wp2_with fail
  go_ret
  exact ⟨rfl, HB.out⟩

set_option maxRecDepth 100000 in
set_option maxHeartbeats 2000000 in
theorem cwhole_bad (q0 : Int) (ao : Option Addr) (b o cap : Nat) (cs : List CallV) (ao3 : Option Addr) (b3 o3 cap3 : Nat) (picks : List Int) (w : World) (hl : ¬ longB7 cs.length picks.length) (ha : 0 < cs.length → ao = some ⟨b, o, none⟩) (hb : 0 < cs.length → b < w.heap.size) (hc : CallsAt w b o cs) (hcap : ao = none → cap = 0)
    (ha3 : 0 < picks.length → ao3 = some ⟨b3, o3, none⟩) (hb3 : 0 < picks.length → b3 < w.heap.size) (hc3 : ICells w b3 o3 picks) (hnp : picks.length ≤ 9223372036854775807) (he : playErr q0 cs picks.length 0 ≠ 0) :
    Calls Try.prog 3 #[.int .i64 q0, .slice ao cs.length cap, .slice ao3 picks.length cap3] w fun e w' => e = .returned (.bool true) ∧ Below w.heap.size w w' := by
  have hw1 : Below w.heap.size w w := Below.refl _ _
  have hP := consPlay_good q0 ao b o cap cs ao3 b3 o3 cap3 picks w ha hb hc hcap ha3 hb3 hc3 hnp
  have HP := Lib.hid hP
  have HE := Lib.hid he
  have HL := Lib.hid hl
  have hne : ¬ ((playErr q0 cs picks.length 0 : Nat) : Int) = 0 := by omega
  clear ha hb hc hcap ha3 hb3 hc3 he hl hP
  go_enter Try.func3, Try.ntmps3
  go_wp2_with fail
  refine (many_no _ _ _ _ _ _ _ hnp HL.out).mono ?_
  rintro e w1 ⟨rfl, rfl⟩
  go_wp2_with fail
  refine HP.out.mono ?_
  rintro e w2 hP
  obtain ⟨rfl, hb2⟩ := hP.bad HE.out
  have HB2 : Hid (Below w.heap.size w w2) := Lib.hid (hw1.trans (hb2.mono (by simp)))
  clear hP hb2 HP hw1
  generalize playErr q0 cs picks.length 0 = er at *
  unfold zeroRep zeroVs
  go_wp2_with fail
  have hnz := none_zero (w2.alloc (.cells #[.slice none 0 0, .slice none 0 0, .int .i64 0, .int .i64 0, .int .i64 0, .int .i64 0, .int .i64 0, .int .i64 0, .int .i64 0] 31))
  unfold zeroRep zeroVs at hnz
  refine hnz.mono ?_
  rintro e w3 ⟨rfl, hb3⟩
  have z2 := HB2.out.size
  have HB3 : Hid (Below w.heap.size w w3) := Lib.hid ((HB2.out.alloc z2 _).trans (hb3.mono (by simp; omega)))
  clear hb3 hnz
  go_wp2_with fail
  refine (both_any _).mono ?_
  rintro e w4 ⟨rfl, hb4⟩
  have HB4 : Hid (Below w.heap.size w w4) := Lib.hid (HB3.out.trans (hb4.mono HB3.out.size))
  clear hb4
  go_wp2_with fail
  go_ret
  exact ⟨rfl, HB4.out⟩

set_option maxRecDepth 100000 in
set_option maxHeartbeats 2000000 in
theorem cwhole_good (k : Nat) (ao : Option Addr) (b o cap : Nat) (cs : List CallV) (ao3 : Option Addr) (b3 o3 cap3 : Nat) (picks : List Int) (w : World) (hl : ¬ longB7 cs.length picks.length) (ha : 0 < cs.length → ao = some ⟨b, o, none⟩) (hb : 0 < cs.length → b < w.heap.size) (hc : CallsAt w b o cs) (hcap : ao = none → cap = 0)
    (ha3 : 0 < picks.length → ao3 = some ⟨b3, o3, none⟩) (hb3 : 0 < picks.length → b3 < w.heap.size) (hc3 : ICells w b3 o3 picks) (hnp : picks.length ≤ 9223372036854775807) (he : playErr (k : Int) cs picks.length 0 = 0) :
    Calls Try.prog 3 #[.int .i64 (k : Int), .slice ao cs.length cap, .slice ao3 picks.length cap3] w fun e w' => e = .returned (.bool true) ∧ Below w.heap.size w w' := by
  have hP := consPlay_good (k : Int) ao b o cap cs ao3 b3 o3 cap3 picks w ha hb hc hcap ha3 hb3 hc3 hnp
  have HP := Lib.hid hP
  have HE := Lib.hid he
  have HL := Lib.hid hl
  have HA := Lib.hid ha
  have HB := Lib.hid hb
  have HC := Lib.hid hc
  obtain ⟨k', hk', hk1, hth, hpl, hcl, _⟩ := play_threads he
  have hkk : k' = k := by omega
  subst hkk
  have hevs := endM_evs (M := consM) cs [0] () picks
  have hrows : RowsOk cs k' (repOf (endM (M := consM) cs [0] () picks)) := rows_ok (rowI_end cs _ _ picks) hth hk1 (con_in cs picks) (endM_cn _ _ _ _) (by omega)
  have hwr := con_wrong cs picks
  have hel : (repOf (endM (M := consM) cs [0] () picks)).evs.length ≤ 70000 := by
    show ((endM (M := consM) cs [0] () picks).evs.map _).length ≤ _
    rw [List.length_map]; omega
  obtain ⟨R, hR⟩ : ∃ R, repOf (endM (M := consM) cs [0] () picks) = R := ⟨_, rfl⟩
  rw [hR] at hrows hwr hel
  have HRO := Lib.hid hrows
  have HWR := Lib.hid hwr
  have HEL := Lib.hid hel
  have HRR := Lib.hid hR
  clear ha hb hc hcap ha3 hb3 hc3 he hl hP hR hrows hevs hth hk' hwr
  go_enter Try.func3, Try.ntmps3
  go_wp2_with fail
  refine (many_no _ _ _ _ _ _ _ hnp HL.out).mono ?_
  rintro e w1 ⟨rfl, rfl⟩
  go_wp2_with fail
  refine HP.out.mono ?_
  rintro e w2 hP
  have hG := hP.good HE.out
  rw [HRR.out] at hG
  obtain ⟨aoE, gE, capE, gw, rfl, hao, hev, hrw, hgw, hb2⟩ := hG
  have HB2 : Hid (Below w.heap.size w w2) := Lib.hid hb2
  have HAO := Lib.hid hao
  have HEV := Lib.hid hev
  have z2 := HB2.out.size
  clear hP hb2 hev hrw hao HP
  unfold repVs
  go_wp2_with fail
  have hbx : Below w2.heap.size w2 ((w2.alloc (.cells (repVs (.slice aoE R.evs.length capE) gw R).toArray 31)).alloc (.cells #[.int .i64 1, .int .i64 0, .int .i64 0] 38)) := ((Below.refl _ _).alloc (Nat.le_refl _) _).alloc (by simp) _
  have hsp : RowBlk 38 ((w2.alloc (.cells (repVs (.slice aoE R.evs.length capE) gw R).toArray 31)).alloc (.cells #[.int .i64 1, .int .i64 0, .int .i64 0] 38)) (w2.heap.size + 1) [.int .i64 1, .int .i64 0, .int .i64 0] := by
    have h1 := RowBlk.new (w2.alloc (.cells (repVs (.slice aoE R.evs.length capE) gw R).toArray 31)) [.int .i64 1, .int .i64 0, .int .i64 0] 38
    have e : (w2.alloc (.cells (repVs (.slice aoE R.evs.length capE) gw R).toArray 31)).heap.size = w2.heap.size + 1 := by simp
    rw [e] at h1; exact h1
  have hRW := whole_any (model_cons (k' : Int) 0 0) (w2.heap.size + 1) 1 cs R aoE gE capE gw ao b o cap w.heap.size _ (hsp.cell (i := 0) rfl) (hsp.cell (i := 1) rfl) (hsp.cell (i := 2) rfl) HRO.out HAO.out (HEV.out.below hbx (Nat.le_refl _)) (HC.out.stays (HB2.out.trans (hbx.mono z2)) HB.out) HA.out (by omega) HEL.out HWR.out
  refine hRW.mono ?_
  rintro e w3 ⟨rfl, hb3⟩
  have HB3 : Hid (Below w.heap.size w w3) := Lib.hid ((HB2.out.trans (hbx.mono z2)).trans (hb3.mono (by have := hbx.size; omega)))
  clear hb3 hRW hbx hsp
  go_wp2_with fail
  refine (both_any _).mono ?_
  rintro e w4 ⟨rfl, hb4⟩
  have HB4 : Hid (Below w.heap.size w w4) := Lib.hid (HB3.out.trans (hb4.mono HB3.out.size))
  clear hb4
  go_wp2_with fail
  go_ret
  exact ⟨rfl, HB4.out⟩

theorem cwhole_all (q0 : Int) (ao : Option Addr) (b o cap : Nat) (cs : List CallV) (ao3 : Option Addr) (b3 o3 cap3 : Nat) (picks : List Int) (w : World) (ha : 0 < cs.length → ao = some ⟨b, o, none⟩) (hb : 0 < cs.length → b < w.heap.size) (hc : CallsAt w b o cs) (hcap : ao = none → cap = 0)
    (ha3 : 0 < picks.length → ao3 = some ⟨b3, o3, none⟩) (hb3 : 0 < picks.length → b3 < w.heap.size) (hc3 : ICells w b3 o3 picks) (hnp : picks.length ≤ 9223372036854775807) (hcl : cs.length ≤ 9223372036854775807) :
    Calls Try.prog 3 #[.int .i64 q0, .slice ao cs.length cap, .slice ao3 picks.length cap3] w fun e w' => e = .returned (.bool true) ∧ Below w.heap.size w w' := by
  by_cases hl : longB7 cs.length picks.length
  · exact cwhole_long q0 ao ao3 cs.length cap picks.length cap3 w hnp hl
  · by_cases he : playErr q0 cs picks.length 0 = 0
    · obtain ⟨k, rfl, _⟩ := play_threads he
      exact cwhole_good k ao b o cap cs ao3 b3 o3 cap3 picks w hl ha hb hc hcap ha3 hb3 hc3 hnp he
    · exact cwhole_bad q0 ao b o cap cs ao3 b3 o3 cap3 picks w hl ha hb hc hcap ha3 hb3 hc3 hnp he
end
end Go.Proofs.Ytcedfcdhdgmelaa
