/- Walks of pin: Key; Step, whatever the stored step does. | Walks of pin: a write looks at a buffer. -/
import Derived.Test.YtpoebpnmbogmnaaGPb
namespace Go.Proofs.Ytpoebpnmbogmnaa
section
open Go.ChangeShapes Go.WideShapes Go.ChangeAt Go.RowKit
set_option linter.unusedVariables false
set_option linter.unusedSimpArgs false
theorem pin_key (br t0 q g f : Nat) (lv : Value) (ao : Option Addr) (ln cp : Nat) (W : World) (h : RowBlk 231 W g (RdVs br t0 q lv (.slice ao ln cp) g f)) : Calls Try.prog 167 #[.pointer (some ⟨g, 0, none⟩)] W fun e w' => e = .returned (.slice ao ln cp) ∧ W = w' := by
  have r4 : W.cell? ⟨g, 4, none⟩ = some (.slice ao ln cp) := h.cell rfl
  clear h
  go_enter Try.func167, Try.ntmps167
  go_wp2
  go_ret
  exact ⟨rfl, rfl⟩
def StpV (v : Nat) (ao : Option Addr) (ln cp : Nat) (d : Bool) : Value := .tuple #[.agg #[.int .i64 0, .int .u64 (v : Int), .slice ao ln cp], .bool d]
def StpIn (f g bm t v : Nat) (ao : Option Addr) (ln cp : Nat) (d : Bool) (R : World → Prop) (w : World) : Prop := ∀ W : World, ButS (fun _ => False) w W → W.heap.size = w.heap.size + 2 → Calls Try.prog f #[.pointer (some ⟨g, 0, none⟩), turnAgg bm (t : Int)] W (fun en w' => en = .returned (StpV v ao ln cp d) ∧ W.heap.size ≤ w'.heap.size ∧ w'.heap[w.heap.size]? = W.heap[w.heap.size]? ∧ w'.heap[w.heap.size + 1]? = W.heap[w.heap.size + 1]? ∧ R w')
def StpOut (v : Nat) (ao : Option Addr) (ln cp : Nat) (d : Bool) (R : World → Prop) (w : World) (en : Ending) (w' : World) : Prop := en = .returned (StpV v ao ln cp d) ∧ ∃ w4, R w4 ∧ w.heap.size + 2 ≤ w4.heap.size ∧ ButS (fun b => b = w.heap.size + 1) w4 w'
set_option maxRecDepth 100000 in
set_option maxHeartbeats 2000000 in
theorem pin_wStep (g bm t v f : Nat) (ao : Option Addr) (ln cp : Nat) (d : Bool) (R : World → Prop) (vs : List Value) (w : World) (hg : RowBlk 229 w g vs) (hf : vs[4]? = some (fnV f g)) (hen : ∀ (args : Array Value) (w : World), (callFunc f args).run Try.prog w = .ok (.enter f args) w) (H : StpIn f g bm t v ao ln cp d R w) :
    Calls Try.prog 166 #[.pointer (some ⟨g, 0, none⟩), turnAgg bm (t : Int)] w (StpOut v ao ln cp d R w) := by
  have HF := Lib.hid hf
  have HH := Lib.hid H
  have HG := Lib.hid hg
  have hgl := hg.lt
  unfold turnAgg
  clear hg hf H
  go_enter Try.func166, Try.ntmps166
  go_wp2_with fail
  have HGa := Lib.hid ((HG.out.alloc (.cells #[.iface 97 (.pointer (some ⟨bm, 0, none⟩)), .int .i64 (t : Int)] 113)).alloc (.cells #[.int .i64 0, .int .u64 0, .slice none 0 0] 39))
  have HTa : Hid (RowBlk 113 ((w.alloc (.cells #[.iface 97 (.pointer (some ⟨bm, 0, none⟩)), .int .i64 (t : Int)] 113)).alloc (.cells #[.int .i64 0, .int .u64 0, .slice none 0 0] 39)) w.heap.size [.iface 97 (.pointer (some ⟨bm, 0, none⟩)), .int .i64 (t : Int)]) := Lib.hid ((RowBlk.new w [.iface 97 (.pointer (some ⟨bm, 0, none⟩)), .int .i64 (t : Int)] 113).alloc _)
  have HAa : Hid (RowBlk 39 ((w.alloc (.cells #[.iface 97 (.pointer (some ⟨bm, 0, none⟩)), .int .i64 (t : Int)] 113)).alloc (.cells #[.int .i64 0, .int .u64 0, .slice none 0 0] 39)) (w.heap.size + 1) [.int .i64 0, .int .u64 0, .slice none 0 0]) := Lib.hid (by
    have h := RowBlk.new (w.alloc (.cells #[.iface 97 (.pointer (some ⟨bm, 0, none⟩)), .int .i64 (t : Int)] 113)) [.int .i64 0, .int .u64 0, .slice none 0 0] 39
    have e : (w.alloc (.cells #[.iface 97 (.pointer (some ⟨bm, 0, none⟩)), .int .i64 (t : Int)] 113)).heap.size = w.heap.size + 1 := by simp
    rw [e] at h; exact h)
  have HBa : Hid (ButS (fun _ => False) w ((w.alloc (.cells #[.iface 97 (.pointer (some ⟨bm, 0, none⟩)), .int .i64 (t : Int)] 113)).alloc (.cells #[.int .i64 0, .int .u64 0, .slice none 0 0] 39))) := Lib.hid (((ButS.refl _ _).alloc _).alloc _)
  have HSa : Hid (((w.alloc (.cells #[.iface 97 (.pointer (some ⟨bm, 0, none⟩)), .int .i64 (t : Int)] 113)).alloc (.cells #[.int .i64 0, .int .u64 0, .slice none 0 0] 39)).heap.size = w.heap.size + 2) := Lib.hid (by simp)
  generalize ((w.alloc (.cells #[.iface 97 (.pointer (some ⟨bm, 0, none⟩)), .int .i64 (t : Int)] 113)).alloc (.cells #[.int .i64 0, .int .u64 0, .slice none 0 0] 39)) = wa at HGa HTa HAa HBa HSa ⊢
  have g5 : wa.cell? ⟨g, 4, none⟩ = some (.func (.func f) #[.pointer (some ⟨g, 0, none⟩)] #[]) := HGa.out.cell HF.out
  have t0 : wa.cell? ⟨w.heap.size, 0, none⟩ = some (.iface 97 (.pointer (some ⟨bm, 0, none⟩))) := HTa.out.cell rfl
  have t1 : wa.cell? ⟨w.heap.size, 1, none⟩ = some (.int .i64 (t : Int)) := HTa.out.cell rfl
  have a0 := HAa.out.cell (i := 0) rfl
  have a1 := HAa.out.cell (i := 1) rfl
  have a2 := HAa.out.cell (i := 2) rfl
  go_region_with
    (first
      | (refine (HH.out wa.drew HBa.out.drew HSa.out).mono ?_
         rintro e w4 ⟨rfl, hs4, hT, hA, hR⟩
         dsimp only [StpV]
         have hT4 := HTa.out.drew.same hT
         have hA4 := HAa.out.drew.same hA
         have hs5 := HSa.out
         have HL : Hid (w.heap.size + 2 ≤ w4.heap.size) := Lib.hid (by
           have e : wa.drew.heap.size = wa.heap.size := rfl
           rw [e] at hs4; omega)
         have t0 := hT4.cell (i := 0) rfl
         have t1 := hT4.cell (i := 1) rfl
         have a0 := hA4.cell (i := 0) rfl
         have a1 := hA4.cell (i := 1) rfl
         have a2 := hA4.cell (i := 2) rfl
         have z0 : ∀ j, w4.frozen? ⟨w.heap.size + 1, j, none⟩ = false := fun j => hA4.free
         have HBs : ButS (fun b => b = w.heap.size + 1) w4 w4 := ButS.refl _ _
         have HX : Hid (RowBlk 39 ((((w4.setCell ⟨w.heap.size + 1, 0, none⟩ (.int .i64 0)).setCell ⟨w.heap.size + 1, 1, none⟩ (.int .u64 (v : Int)))).setCell ⟨w.heap.size + 1, 2, none⟩ (.slice ao ln cp)) (w.heap.size + 1) [.int .i64 0, .int .u64 (v : Int), .slice ao ln cp] ∧ ButS (fun b => b = w.heap.size + 1) w4 ((((w4.setCell ⟨w.heap.size + 1, 0, none⟩ (.int .i64 0)).setCell ⟨w.heap.size + 1, 1, none⟩ (.int .u64 (v : Int)))).setCell ⟨w.heap.size + 1, 2, none⟩ (.slice ao ln cp))) := Lib.hid
           ⟨((hA4.put 0 _).put 1 _).put 2 _, ((HBs.setCell (x := ⟨w.heap.size + 1, 0, none⟩) (.inl rfl) _).setCell (x := ⟨w.heap.size + 1, 1, none⟩) (.inl rfl) _).setCell (x := ⟨w.heap.size + 1, 2, none⟩) (.inl rfl) _⟩
         have HR := Lib.hid hR
         clear hA4 hs5 hs4 hA hR HBs hT hT4)
      | fail)
  all_goals
    clear g5
    go_wp2_with fail
    generalize ((((w4.setCell ⟨w.heap.size + 1, 0, none⟩ (.int .i64 0)).setCell ⟨w.heap.size + 1, 1, none⟩ (.int .u64 (v : Int)))).setCell ⟨w.heap.size + 1, 2, none⟩ (.slice ao ln cp)) = W5 at HX ⊢
    have q0 := HX.out.1.cell (i := 0) rfl
    have q1 := HX.out.1.cell (i := 1) rfl
    have q2 := HX.out.1.cell (i := 2) rfl
    exact bodyPost_ret (v := StpV v ao ln cp d) (by simp [StpV, results, Try.results166, go_sem, q0, q1, q2]) rfl ⟨rfl, w4, HR.out, HL.out, HX.out.2⟩
set_option maxRecDepth 100000 in
set_option maxHeartbeats 2000000 in
theorem pin_rStep (g bm t v f : Nat) (ao : Option Addr) (ln cp : Nat) (d : Bool) (R : World → Prop) (vs : List Value) (w : World) (hg : RowBlk 231 w g vs) (hf : vs[5]? = some (fnV f g)) (hen : ∀ (args : Array Value) (w : World), (callFunc f args).run Try.prog w = .ok (.enter f args) w) (H : StpIn f g bm t v ao ln cp d R w) :
    Calls Try.prog 168 #[.pointer (some ⟨g, 0, none⟩), turnAgg bm (t : Int)] w (StpOut v ao ln cp d R w) := by
  have HF := Lib.hid hf
  have HH := Lib.hid H
  have HG := Lib.hid hg
  have hgl := hg.lt
  unfold turnAgg
  clear hg hf H
  go_enter Try.func168, Try.ntmps168
  go_wp2_with fail
  have HGa := Lib.hid ((HG.out.alloc (.cells #[.iface 97 (.pointer (some ⟨bm, 0, none⟩)), .int .i64 (t : Int)] 113)).alloc (.cells #[.int .i64 0, .int .u64 0, .slice none 0 0] 39))
  have HTa : Hid (RowBlk 113 ((w.alloc (.cells #[.iface 97 (.pointer (some ⟨bm, 0, none⟩)), .int .i64 (t : Int)] 113)).alloc (.cells #[.int .i64 0, .int .u64 0, .slice none 0 0] 39)) w.heap.size [.iface 97 (.pointer (some ⟨bm, 0, none⟩)), .int .i64 (t : Int)]) := Lib.hid ((RowBlk.new w [.iface 97 (.pointer (some ⟨bm, 0, none⟩)), .int .i64 (t : Int)] 113).alloc _)
  have HAa : Hid (RowBlk 39 ((w.alloc (.cells #[.iface 97 (.pointer (some ⟨bm, 0, none⟩)), .int .i64 (t : Int)] 113)).alloc (.cells #[.int .i64 0, .int .u64 0, .slice none 0 0] 39)) (w.heap.size + 1) [.int .i64 0, .int .u64 0, .slice none 0 0]) := Lib.hid (by
    have h := RowBlk.new (w.alloc (.cells #[.iface 97 (.pointer (some ⟨bm, 0, none⟩)), .int .i64 (t : Int)] 113)) [.int .i64 0, .int .u64 0, .slice none 0 0] 39
    have e : (w.alloc (.cells #[.iface 97 (.pointer (some ⟨bm, 0, none⟩)), .int .i64 (t : Int)] 113)).heap.size = w.heap.size + 1 := by simp
    rw [e] at h; exact h)
  have HBa : Hid (ButS (fun _ => False) w ((w.alloc (.cells #[.iface 97 (.pointer (some ⟨bm, 0, none⟩)), .int .i64 (t : Int)] 113)).alloc (.cells #[.int .i64 0, .int .u64 0, .slice none 0 0] 39))) := Lib.hid (((ButS.refl _ _).alloc _).alloc _)
  have HSa : Hid (((w.alloc (.cells #[.iface 97 (.pointer (some ⟨bm, 0, none⟩)), .int .i64 (t : Int)] 113)).alloc (.cells #[.int .i64 0, .int .u64 0, .slice none 0 0] 39)).heap.size = w.heap.size + 2) := Lib.hid (by simp)
  generalize ((w.alloc (.cells #[.iface 97 (.pointer (some ⟨bm, 0, none⟩)), .int .i64 (t : Int)] 113)).alloc (.cells #[.int .i64 0, .int .u64 0, .slice none 0 0] 39)) = wa at HGa HTa HAa HBa HSa ⊢
  have g5 : wa.cell? ⟨g, 5, none⟩ = some (.func (.func f) #[.pointer (some ⟨g, 0, none⟩)] #[]) := HGa.out.cell HF.out
  have t0 : wa.cell? ⟨w.heap.size, 0, none⟩ = some (.iface 97 (.pointer (some ⟨bm, 0, none⟩))) := HTa.out.cell rfl
  have t1 : wa.cell? ⟨w.heap.size, 1, none⟩ = some (.int .i64 (t : Int)) := HTa.out.cell rfl
  have a0 := HAa.out.cell (i := 0) rfl
  have a1 := HAa.out.cell (i := 1) rfl
  have a2 := HAa.out.cell (i := 2) rfl
  go_region_with
    (first
      | (refine (HH.out wa.drew HBa.out.drew HSa.out).mono ?_
         rintro e w4 ⟨rfl, hs4, hT, hA, hR⟩
         dsimp only [StpV]
         have hT4 := HTa.out.drew.same hT
         have hA4 := HAa.out.drew.same hA
         have hs5 := HSa.out
         have HL : Hid (w.heap.size + 2 ≤ w4.heap.size) := Lib.hid (by
           have e : wa.drew.heap.size = wa.heap.size := rfl
           rw [e] at hs4; omega)
         have t0 := hT4.cell (i := 0) rfl
         have t1 := hT4.cell (i := 1) rfl
         have a0 := hA4.cell (i := 0) rfl
         have a1 := hA4.cell (i := 1) rfl
         have a2 := hA4.cell (i := 2) rfl
         have z0 : ∀ j, w4.frozen? ⟨w.heap.size + 1, j, none⟩ = false := fun j => hA4.free
         have HBs : ButS (fun b => b = w.heap.size + 1) w4 w4 := ButS.refl _ _
         have HX : Hid (RowBlk 39 ((((w4.setCell ⟨w.heap.size + 1, 0, none⟩ (.int .i64 0)).setCell ⟨w.heap.size + 1, 1, none⟩ (.int .u64 (v : Int)))).setCell ⟨w.heap.size + 1, 2, none⟩ (.slice ao ln cp)) (w.heap.size + 1) [.int .i64 0, .int .u64 (v : Int), .slice ao ln cp] ∧ ButS (fun b => b = w.heap.size + 1) w4 ((((w4.setCell ⟨w.heap.size + 1, 0, none⟩ (.int .i64 0)).setCell ⟨w.heap.size + 1, 1, none⟩ (.int .u64 (v : Int)))).setCell ⟨w.heap.size + 1, 2, none⟩ (.slice ao ln cp))) := Lib.hid
           ⟨((hA4.put 0 _).put 1 _).put 2 _, ((HBs.setCell (x := ⟨w.heap.size + 1, 0, none⟩) (.inl rfl) _).setCell (x := ⟨w.heap.size + 1, 1, none⟩) (.inl rfl) _).setCell (x := ⟨w.heap.size + 1, 2, none⟩) (.inl rfl) _⟩
         have HR := Lib.hid hR
         clear hA4 hs5 hs4 hA hR HBs hT hT4)
      | fail)
  all_goals
    clear g5
    go_wp2_with fail
    generalize ((((w4.setCell ⟨w.heap.size + 1, 0, none⟩ (.int .i64 0)).setCell ⟨w.heap.size + 1, 1, none⟩ (.int .u64 (v : Int)))).setCell ⟨w.heap.size + 1, 2, none⟩ (.slice ao ln cp)) = W5 at HX ⊢
    have q0 := HX.out.1.cell (i := 0) rfl
    have q1 := HX.out.1.cell (i := 1) rfl
    have q2 := HX.out.1.cell (i := 2) rfl
    exact bodyPost_ret (v := StpV v ao ln cp d) (by simp [StpV, results, Try.results168, go_sem, q0, q1, q2]) rfl ⟨rfl, w4, HR.out, HL.out, HX.out.2⟩
end
section
open Go.ChangeShapes Go.WideShapes Go.ChangeAt Go.RowKit
set_option linter.unusedVariables false
set_option linter.unusedSimpArgs false
def PinLook (br a q g f : Nat) (l : List Nat) (c : Cn) (bm bw : Nat) (w : World) (en : Ending) (w' : World) : Prop := en = .returned (.tuple #[.agg #[.int .i64 0, .int .u64 0, .slice none 0 0], .bool false]) ∧ MemIs 139 w' bm bw l c ∧ ButS (fun b => b = bm ∨ b = bw ∨ b = g) w w' ∧ RowBlk 229 w' g (WrVs br a q 0 g f)
set_option maxRecDepth 100000 in
set_option maxHeartbeats 2000000 in
theorem pin_found (n w0 br be g bm bw a q x : Nat) (s : PinS) (l : List Nat) (c : Cn) (t : Nat) (w : World) (hM : MemIs 139 w bm bw l c) (hR : RegIs n w0 br be s w) (hg : RowBlk 229 w g (WrVs br a q 0 g 132)) (hq : q ≤ n) (hn : n ≤ 16) (hlen : s.ent.length = n + 1) (h0 : 1 + q < l.length) (hl : l.length ≤ 65536) (hc : c.r < 9223372036854775807) (hxe : l.getD (1 + q) 0 = x) (hu0 : s.ent.getD q 0 = x) (hew : be ≠ bw) :
    Calls Try.prog 132 #[.pointer (some ⟨g, 0, none⟩), turnAgg bm (t : Int)] w (PinLook br a q g 135 ((Acc.rd (1 + q)).run l c).2.1 ((Acc.rd (1 + q)).run l c).2.2 bm bw w) := by
  have hmf : ∀ (fn : Fn) (first cap : Array Value) (w : World), (Instr.makeFunc fn first cap).run Try.prog w = .ok (.func fn first cap) w := fun _ _ _ _ => rfl
  have hgm : g ≠ bm := by intro e; have h1 := hg; have h2 := hM.1; unfold RowBlk at h1; rw [e, h2] at h1; simp at h1
  have hgw : g ≠ bw := by intro e; have h1 := hg; have h2 := hM.2.1; unfold RowBlk at h1; rw [e, h2] at h1; simp at h1
  have hrm : br ≠ bm := by intro e; have h1 := hR.1; have h2 := hM.1; unfold RowBlk at h1; rw [e, h2] at h1; simp at h1
  have hrw : br ≠ bw := by intro e; have h1 := hR.1; have h2 := hM.2.1; unfold RowBlk at h1; rw [e, h2] at h1; simp at h1
  have hem : be ≠ bm := by intro e; have h1 := hR.2; have h2 := hM.1; unfold RowBlk at h1; rw [e, h2] at h1; simp at h1
  obtain ⟨L2, hL2⟩ : ∃ L2, ((Acc.rd (1 + q)).run l c).2.1 = L2 := ⟨_, rfl⟩
  obtain ⟨C2, hC2⟩ : ∃ C2, ((Acc.rd (1 + q)).run l c).2.2 = C2 := ⟨_, rfl⟩
  have HSW : Hid (∀ W : World, MemIs 139 W bm bw l c → Calls Try.prog 196 #[.pointer (some ⟨bm, 0, none⟩), .int .i64 ((1 + q : Nat) : Int)] W fun e w' => e = .returned (.int .u64 (x : Int)) ∧ MemIs 139 w' bm bw L2 C2 ∧ But bm bw W w') := Lib.hid (fun W hW => by
    have h := rd_acc (i := 1 + q) hW h0 hl hc
    unfold AccPost at h
    rw [hL2, hC2, hxe] at h
    exact h)
  rw [hL2, hC2]
  have HLF : Hid (∀ W : World, RegIs n w0 br be s W → Calls Try.prog 134 #[.pointer (some ⟨br, 0, none⟩), .int .i64 (q : Int)] W fun e w' => e = .returned (.int .i64 ((1 + q : Nat) : Int)) ∧ W = w') := Lib.hid (fun W hW => pin_left n w0 br be q s W hW (by omega))
  obtain ⟨u, hu⟩ : ∃ u, 1 + q = u := ⟨_, rfl⟩
  rw [hu] at HSW HLF
  have he : s.ent[q]? = some x := by
    have h1 : s.ent[q]? = some (s.ent[q]'(by omega)) := List.getElem?_eq_getElem _
    rw [List.getD_eq_getElem?_getD, h1] at hu0
    rw [h1]; exact congrArg some hu0
  have hem2 : (s.ent.map (fun (x : Nat) => Value.int .u64 (x : Int)))[q]? = some (.int .u64 (x : Int)) := by rw [List.getElem?_map, he]; rfl
  have HM := Lib.hid hM
  have HG := Lib.hid hg
  have HR := Lib.hid hR
  have HE2 := Lib.hid hem2
  have hmm := m_Read ⟨bm, 0, none⟩
  have hbm := hM.lt1
  have hbw := hM.lt2
  have hgl := hg.lt
  have hrl := hR.1.lt
  have hel := hR.2.lt
  have hgr : g ≠ br := row_ne hg hR.1 (by decide)
  have hgb : g ≠ be := row_ne hg hR.2 (by decide)
  have hi0 : (0 : Int) ≤ (q : Int) := Int.natCast_nonneg _
  have hi1 : (q : Int) < ((n + 1 : Nat) : Int) := by omega
  obtain ⟨m1, hm1⟩ : ∃ m1, n + 1 = m1 := ⟨_, rfl⟩
  rw [hm1] at hi1
  have HM1 := Lib.hid hm1
  unfold WrVs fnV at *
  unfold turnAgg
  clear hM hg hR hxe hL2 hC2 h0 hl hu hu0 he hem2 hlen hm1
  go_enter Try.func132, Try.ntmps132
  go_wp2_with fail
  have HMa : Hid (MemIs 139 ((w.alloc (.cells #[.iface 97 (.pointer (some ⟨bm, 0, none⟩)), .int .i64 (t : Int)] 113)).alloc (.cells #[.int .i64 0, .int .u64 0, .slice none 0 0] 39)) bm bw l c) := Lib.hid ((HM.out.alloc _).alloc _)
  have HGa := Lib.hid ((HG.out.alloc (.cells #[.iface 97 (.pointer (some ⟨bm, 0, none⟩)), .int .i64 (t : Int)] 113)).alloc (.cells #[.int .i64 0, .int .u64 0, .slice none 0 0] 39))
  have HRa : Hid (RegIs n w0 br be s ((w.alloc (.cells #[.iface 97 (.pointer (some ⟨bm, 0, none⟩)), .int .i64 (t : Int)] 113)).alloc (.cells #[.int .i64 0, .int .u64 0, .slice none 0 0] 39))) := Lib.hid ⟨(HR.out.1.alloc _).alloc _, (HR.out.2.alloc _).alloc _⟩
  have HTa : Hid (RowBlk 113 ((w.alloc (.cells #[.iface 97 (.pointer (some ⟨bm, 0, none⟩)), .int .i64 (t : Int)] 113)).alloc (.cells #[.int .i64 0, .int .u64 0, .slice none 0 0] 39)) w.heap.size [.iface 97 (.pointer (some ⟨bm, 0, none⟩)), .int .i64 (t : Int)]) := Lib.hid ((RowBlk.new w [.iface 97 (.pointer (some ⟨bm, 0, none⟩)), .int .i64 (t : Int)] 113).alloc _)
  have HAa : Hid (RowBlk 39 ((w.alloc (.cells #[.iface 97 (.pointer (some ⟨bm, 0, none⟩)), .int .i64 (t : Int)] 113)).alloc (.cells #[.int .i64 0, .int .u64 0, .slice none 0 0] 39)) (w.heap.size + 1) [.int .i64 0, .int .u64 0, .slice none 0 0]) := Lib.hid (by
    have h := RowBlk.new (w.alloc (.cells #[.iface 97 (.pointer (some ⟨bm, 0, none⟩)), .int .i64 (t : Int)] 113)) [.int .i64 0, .int .u64 0, .slice none 0 0] 39
    have e : (w.alloc (.cells #[.iface 97 (.pointer (some ⟨bm, 0, none⟩)), .int .i64 (t : Int)] 113)).heap.size = w.heap.size + 1 := by simp
    rw [e] at h; exact h)
  have HBa : Hid (ButS (fun b => b = bm ∨ b = bw ∨ b = g) w ((w.alloc (.cells #[.iface 97 (.pointer (some ⟨bm, 0, none⟩)), .int .i64 (t : Int)] 113)).alloc (.cells #[.int .i64 0, .int .u64 0, .slice none 0 0] 39))) := Lib.hid (((ButS.refl _ _).alloc _).alloc _)
  generalize ((w.alloc (.cells #[.iface 97 (.pointer (some ⟨bm, 0, none⟩)), .int .i64 (t : Int)] 113)).alloc (.cells #[.int .i64 0, .int .u64 0, .slice none 0 0] 39)) = wa at HMa HGa HRa HTa HAa HBa ⊢
  have g0 : wa.cell? ⟨g, 0, none⟩ = some (.pointer (some ⟨br, 0, none⟩)) := HGa.out.cell rfl
  have g2 : wa.cell? ⟨g, 2, none⟩ = some (.int .i64 (q : Int)) := HGa.out.cell rfl
  have t0 : wa.cell? ⟨w.heap.size, 0, none⟩ = some (.iface 97 (.pointer (some ⟨bm, 0, none⟩))) := HTa.out.cell rfl
  have r4 : wa.cell? ⟨br, 4, none⟩ = some (.slice (some ⟨be, 0, none⟩) (m1 : Nat) m1) := by have := HRa.out.1.cell (i := 4) rfl; rw [HM1.out] at this; exact this
  have eq : wa.cell? ⟨be, q, none⟩ = some (.int .u64 (x : Int)) := HRa.out.2.cell HE2.out
  go_region_held3 (fun w' => w'.cell? ⟨g, 0, none⟩ = some (.pointer (some ⟨br, 0, none⟩)) ∧ w'.cell? ⟨g, 2, none⟩ = some (.int .i64 (q : Int)) ∧ w'.cell? ⟨w.heap.size, 0, none⟩ = some (.iface 97 (.pointer (some ⟨bm, 0, none⟩))) ∧ w'.cell? ⟨br, 4, none⟩ = some (.slice (some ⟨be, 0, none⟩) (m1 : Nat) m1) ∧ w'.cell? ⟨be, q, none⟩ = some (.int .u64 (x : Int)))
    (first | with_reducible exact ⟨g0, g2, t0, r4, eq⟩ | go_keep)
    (first
      | (go_at_call 134
         refine (HLF.out _ ⟨HRa.out.1.drew, HRa.out.2.drew⟩).mono ?_
         rintro e w4 ⟨rfl, rfl⟩)
      | (go_at_call 196
         refine (HSW.out _ HMa.out.drew).mono ?_
         rintro e w4 ⟨rfl, hM4, hB4⟩
         have hG4 := HGa.out.drew.same (hB4.block g HGa.out.lt hgm hgw)
         have hT4 := HTa.out.drew.same (hB4.block w.heap.size HTa.out.lt (by omega) (by omega))
         have hA4 := HAa.out.drew.same (hB4.block (w.heap.size + 1) HAa.out.lt (by omega) (by omega))
         have hR4 := HRa.out.1.drew.same (hB4.block br HRa.out.1.lt hrm hrw)
         have hE4 := HRa.out.2.drew.same (hB4.block be HRa.out.2.lt hem hew)
         have g0 : w4.cell? ⟨g, 0, none⟩ = some (.pointer (some ⟨br, 0, none⟩)) := hG4.cell rfl
         have g2 : w4.cell? ⟨g, 2, none⟩ = some (.int .i64 (q : Int)) := hG4.cell rfl
         have t0 : w4.cell? ⟨w.heap.size, 0, none⟩ = some (.iface 97 (.pointer (some ⟨bm, 0, none⟩))) := hT4.cell rfl
         have r4 : w4.cell? ⟨br, 4, none⟩ = some (.slice (some ⟨be, 0, none⟩) (m1 : Nat) m1) := by have := hR4.cell (i := 4) rfl; rw [HM1.out] at this; exact this
         have eq : w4.cell? ⟨be, q, none⟩ = some (.int .u64 (x : Int)) := hE4.cell HE2.out
         have HG4 := Lib.hid hG4
         have HA4 := Lib.hid hA4
         have HM4 := Lib.hid hM4
         have HB4 : Hid (ButS (fun b => b = bm ∨ b = bw ∨ b = g) w w4) := Lib.hid (HBa.out.drew.trans (ButS.of_but hB4 (.inl rfl) (.inr (.inl rfl))))
         clear hG4 hT4 hA4 hM4 hB4 hR4 hE4))
  clear g0 g2 t0 r4 eq
  have n1 : g ≠ w.heap.size + 1 := by omega
  have n2 : w.heap.size + 1 ≠ g := by omega
  have a0 := HA4.out.cell (i := 0) rfl
  have a1 := HA4.out.cell (i := 1) rfl
  have a2 := HA4.out.cell (i := 2) rfl
  have z0 : ∀ j, w4.frozen? ⟨w.heap.size + 1, j, none⟩ = false := fun j => HA4.out.free
  have g4 : w4.cell? ⟨g, 4, none⟩ = some (.func (.func 132) #[.pointer (some ⟨g, 0, none⟩)] #[]) := HG4.out.cell rfl
  have fz4 : ∀ j, w4.frozen? ⟨g, j, none⟩ = false := fun j => HG4.out.free
  have HX : Hid (RowBlk 39 ((((w4.setCell ⟨g, 4, none⟩ (.func (.func 135) #[.pointer (some ⟨g, 0, none⟩)] #[])).setCell ⟨w.heap.size + 1, 0, none⟩ (.int .i64 0)).setCell ⟨w.heap.size + 1, 1, none⟩ (.int .u64 0)).setCell ⟨w.heap.size + 1, 2, none⟩ (.slice none 0 0)) (w.heap.size + 1) [.int .i64 0, .int .u64 0, .slice none 0 0] ∧ RowBlk 229 ((((w4.setCell ⟨g, 4, none⟩ (.func (.func 135) #[.pointer (some ⟨g, 0, none⟩)] #[])).setCell ⟨w.heap.size + 1, 0, none⟩ (.int .i64 0)).setCell ⟨w.heap.size + 1, 1, none⟩ (.int .u64 0)).setCell ⟨w.heap.size + 1, 2, none⟩ (.slice none 0 0)) g [.pointer (some ⟨br, 0, none⟩), .int .u64 (a : Int), .int .i64 (q : Int), .int .i64 ((0 : Nat) : Int), .func (.func 135) #[.pointer (some ⟨g, 0, none⟩)] #[]] ∧ MemIs 139 ((((w4.setCell ⟨g, 4, none⟩ (.func (.func 135) #[.pointer (some ⟨g, 0, none⟩)] #[])).setCell ⟨w.heap.size + 1, 0, none⟩ (.int .i64 0)).setCell ⟨w.heap.size + 1, 1, none⟩ (.int .u64 0)).setCell ⟨w.heap.size + 1, 2, none⟩ (.slice none 0 0)) bm bw L2 C2 ∧ ButS (fun b => b = bm ∨ b = bw ∨ b = g) w ((((w4.setCell ⟨g, 4, none⟩ (.func (.func 135) #[.pointer (some ⟨g, 0, none⟩)] #[])).setCell ⟨w.heap.size + 1, 0, none⟩ (.int .i64 0)).setCell ⟨w.heap.size + 1, 1, none⟩ (.int .u64 0)).setCell ⟨w.heap.size + 1, 2, none⟩ (.slice none 0 0))) := Lib.hid
    ⟨(((HA4.out.other (a := ⟨g, 4, none⟩) n2 _).put 0 _).put 1 _).put 2 _, (((HG4.out.put 4 _).other (a := ⟨w.heap.size + 1, 0, none⟩) n1 _).other (a := ⟨w.heap.size + 1, 1, none⟩) n1 _).other (a := ⟨w.heap.size + 1, 2, none⟩) n1 _,
     (((HM4.out.setNew _ _ hgm hgw).setNew _ _ (by omega) (by omega)).setNew _ _ (by omega) (by omega)).setNew _ _ (by omega) (by omega),
     (((HB4.out.setCell (.inl (.inr (.inr rfl))) _).setCell (.inr (by show w.heap.size ≤ w.heap.size + 1; omega)) _).setCell (.inr (by show w.heap.size ≤ w.heap.size + 1; omega)) _).setCell (.inr (by show w.heap.size ≤ w.heap.size + 1; omega)) _⟩
  go_wp2_with fail
  generalize ((((w4.setCell ⟨g, 4, none⟩ (.func (.func 135) #[.pointer (some ⟨g, 0, none⟩)] #[])).setCell ⟨w.heap.size + 1, 0, none⟩ (.int .i64 0)).setCell ⟨w.heap.size + 1, 1, none⟩ (.int .u64 0)).setCell ⟨w.heap.size + 1, 2, none⟩ (.slice none 0 0)) = W5 at HX ⊢
  have q0 := HX.out.1.cell (i := 0) rfl
  have q1 := HX.out.1.cell (i := 1) rfl
  have q2 := HX.out.1.cell (i := 2) rfl
  exact bodyPost_ret (v := .tuple #[.agg #[.int .i64 0, .int .u64 0, .slice none 0 0], .bool false]) (by simp [results, Try.results132, go_sem, q0, q1, q2]) rfl ⟨rfl, HX.out.2.2.1, HX.out.2.2.2, HX.out.2.1⟩
end
end Go.Proofs.Ytpoebpnmbogmnaa
