/- Whole is true: of any object whose operations answer in the order of their keys as the model does. -/
import Derived.Test.YtpoebpnmbogmnaaQW
import Derived.Test.YtpoebpnmbogmnaaQR
import Derived.Test.YtpoebpnmbogmnaaZG
import Derived.Test.YtpoebpnmbogmnaaGZ3
import Derived.Test.YtpoebpnmbogmnaaGQ2
namespace Go.Proofs.Ytpoebpnmbogmnaa
open Go.RowKit
set_option linter.unusedVariables false
set_option linter.unusedSimpArgs false
set_option maxRecDepth 100000 in
set_option maxHeartbeats 2000000 in
theorem whole_yesY {D : Mod} {Inv : List Nat → Prop} {n : Nat} {k p q : Int} (hM : ModelC D Inv (n : Int) k p q) (gs cS0 : Nat) (cs : List CallV) (r : RepR) (aoE : Option Addr) (gE capE gw : Nat) (ao : Option Addr) (b o cap B : Nat) (w : World)
    (hs0 : w.cell? ⟨gs, 0, none⟩ = some (.int .i64 k)) (hs1 : w.cell? ⟨gs, 1, none⟩ = some (.int .i64 p)) (hs2 : w.cell? ⟨gs, 2, none⟩ = some (.int .i64 q))
    (hR : RowsOk cs n r) (hao : 0 < r.evs.length → aoE = some ⟨gE, 0, none⟩) (hev : EvAllG B w gE r.evs) (hc : CallsAt w b o cs) (ha : 0 < cs.length → ao = some ⟨b, o, none⟩) (hcl : cs.length ≤ 9223372036854775807) (hel : r.evs.length ≤ 70000)
    (hall : ∀ (kk j : Nat) (x : EvR), (ordP r.evs r.evs.length)[kk]? = some j → r.evs[j]? = some x → ¬ x.resp = 0) (hWr : WrongOk D cs r.evs) :
    Calls Try.prog 20 #[.int .i64 (n : Int), .slice (some ⟨gs, 0, none⟩) 1 cS0, .slice ao cs.length cap, .agg (repVs (.slice aoE r.evs.length capE) gw r).toArray] w fun e w' => e = .returned (.bool true) ∧ Below w.heap.size w w' := by
  have hbl : ∀ h0 : 0 < cs.length, b < w.heap.size := fun h0 => by
    obtain ⟨x, hx⟩ : ∃ x, cs[0]? = some x := ⟨cs[0], List.getElem?_eq_getElem h0⟩
    exact World.block_lt_of_cell? w ⟨b, _, none⟩ (hc 0 x hx).1
  have hgl := World.block_lt_of_cell? w ⟨gs, 0, none⟩ hs0
  have HSP : Hid (∀ W, Below w.heap.size w W → W.cell? ⟨gs, 0, none⟩ = some (.int .i64 k) ∧ W.cell? ⟨gs, 1, none⟩ = some (.int .i64 p) ∧ W.cell? ⟨gs, 2, none⟩ = some (.int .i64 q)) := Lib.hid (fun W hW => ⟨(hW.cell (p := ⟨gs, 0, none⟩) hgl).trans hs0, (hW.cell (p := ⟨gs, 1, none⟩) hgl).trans hs1, (hW.cell (p := ⟨gs, 2, none⟩) hgl).trans hs2⟩)
  have hb0 : Below w.heap.size w (w.alloc (.cells (repVs (.slice aoE r.evs.length capE) gw r).toArray 32)) := (Below.refl _ _).alloc (Nat.le_refl _) _
  have H1 := Lib.hid (rows_yes cs n r aoE gE capE gw ao b o cap B (w.alloc (.cells (repVs (.slice aoE r.evs.length capE) gw r).toArray 32)) hR hao (hev.below hb0 (Nat.le_refl _)) (hc.stays hb0 hbl) ha hcl hel)
  have H2 : Hid (∀ W, Below w.heap.size w W → Calls Try.prog 30 #[.int .i64 (n : Int), .slice (some ⟨gs, 0, none⟩) 1 cS0, .slice ao cs.length cap, .slice aoE r.evs.length capE] W fun e w' => e = .returned (.int .i64 (-1)) ∧ Below W.heap.size W w') := Lib.hid (fun W hW => by
    obtain ⟨p0, p1, p2⟩ := HSP.out W hW
    refine wrong_yes hM hR.n1 gs cS0 ao b o cap cs aoE gE capE r.evs B W p0 p1 p2 hao (hev.below hW (Nat.le_refl _)) hel (hc.stays hW hbl) ha hcl (fun j x hx => ?_) (fun j x hx hr h0 => ?_) hall hWr
    · obtain ⟨y, h1, h2, h3⟩ := (hR.ev j x hx).call
      exact ⟨y, h1, h2, h3⟩
    · obtain ⟨_, _, _, a, ra, hk, _⟩ := (hR.ev j x hx).done hr
      rw [hk] at h0; simp at h0)
  have H3 : Hid (∀ W, Below w.heap.size w W → Calls Try.prog 31 #[.slice aoE r.evs.length capE] W fun e w' => e = .returned (.bool true) ∧ Below W.heap.size W w') := Lib.hid (fun W hW => aheadAll_yes aoE gE capE r.evs B W hao (hev.below hW (Nat.le_refl _)) (rows_ahead hR) hel)
  have HB0 := Lib.hid hb0
  have HRB := Lib.hid (RowBlk.new w (repVs (.slice aoE r.evs.length capE) gw r) 32)
  clear hM hs0 hs1 hs2 hR hao hev hc ha hall hWr hb0
  unfold repVs at *
  go_enter Try.func20, Try.ntmps20
  go_wp2_with fail
  refine H1.out.mono ?_
  rintro e w1 ⟨rfl, hb1⟩
  have hr1 := HRB.out.same (hb1.block _ (by simp))
  have c0 : w1.cell? ⟨w.heap.size, 0, none⟩ = some (.slice aoE r.evs.length capE) := hr1.cell rfl
  have HB1 : Hid (Below w.heap.size w w1) := Lib.hid (HB0.out.trans (hb1.mono (by simp)))
  have HR1 := Lib.hid hr1
  clear hb1 hr1
  go_wp2_with fail
  refine (H2.out w1 HB1.out).mono ?_
  rintro e w2 ⟨rfl, hb2⟩
  have hr2 := HR1.out.same (hb2.block _ HR1.out.lt)
  have c0' : w2.cell? ⟨w.heap.size, 0, none⟩ = some (.slice aoE r.evs.length capE) := hr2.cell rfl
  have HB2 : Hid (Below w.heap.size w w2) := Lib.hid (HB1.out.trans (hb2.mono HB1.out.size))
  clear hb2 hr2 c0
  go_wp2_with fail
  refine (H3.out w2 HB2.out).mono ?_
  rintro e w3 ⟨rfl, hb3⟩
  have HB3 : Hid (Below w.heap.size w w3) := Lib.hid (HB2.out.trans (hb3.mono HB2.out.size))
  clear hb3
  go_wp2_with fail
  go_ret
  exact ⟨rfl, HB3.out⟩
end Go.Proofs.Ytpoebpnmbogmnaa
