/- Walks of pin: the steps. | Walks of pin: a read leaves. -/
import Derived.Test.YtpoebpnmbogmnaaGPb
namespace Go.Proofs.Ytpoebpnmbogmnaa
section
open Go.ChangeShapes Go.WideShapes Go.ChangeAt Go.RowKit
set_option linter.unusedVariables false
set_option linter.unusedSimpArgs false
def PinLeft (er : Nat) (d : Bool) (l : List Nat) (c : Cn) (bm bw : Nat) (S : Nat → Prop) (R : World → Prop) (w : World) (en : Ending) (w' : World) : Prop := en = .returned (.tuple #[.agg #[.int .i64 0, .int .u64 0, .slice none 0 0], .bool d]) ∧ MemIs 139 w' bm bw l c ∧ ButS (fun b => b = bm ∨ b = bw ∨ S b) w w' ∧ R w'
set_option maxRecDepth 100000 in
set_option maxHeartbeats 2000000 in
theorem pin_enters (n w0 br be g bm bw E cu : Nat) (s : PinS) (l : List Nat) (c : Cn) (t : Nat) (w : World) (hM : MemIs 139 w bm bw l c) (hR : RowBlk 192 w br (RegVs n w0 be s)) (hg : RowBlk 231 w g (RdVs br 0 0 (.slice none 0 0) (.slice none 0 0) g 133)) (h0 : 0 < l.length) (hl : l.length ≤ 65536) (hc : c.a < 9223372036854775807) (hx : l.getD 0 0 / 4294967296 = cu) (hcu : cu ≤ 17) (hx64 : l.getD 0 0 ≤ 18446744073709551615) :
    Calls Try.prog 133 #[.pointer (some ⟨g, 0, none⟩), turnAgg bm (t : Int)] w (PinLeft 0 false ((Acc.ad 0 1).run l c).2.1 ((Acc.ad 0 1).run l c).2.2 bm bw (fun b => b = g) (fun w' => RowBlk 231 w' g (RdVs br t cu (.slice none 0 0) (.slice none 0 0) g 136)) w) := by
  have hmf : ∀ (fn : Fn) (first cap : Array Value) (w : World), (Instr.makeFunc fn first cap).run Try.prog w = .ok (.func fn first cap) w := fun _ _ _ _ => rfl
  have hgm : g ≠ bm := by intro e; have h1 := hg; have h2 := hM.1; unfold RowBlk at h1; rw [e, h2] at h1; simp at h1
  have hgw : g ≠ bw := by intro e; have h1 := hg; have h2 := hM.2.1; unfold RowBlk at h1; rw [e, h2] at h1; simp at h1
  have hrm : br ≠ bm := by intro e; have h1 := hR; have h2 := hM.1; unfold RowBlk at h1; rw [e, h2] at h1; simp at h1
  have hrw : br ≠ bw := by intro e; have h1 := hR; have h2 := hM.2.1; unfold RowBlk at h1; rw [e, h2] at h1; simp at h1
  have hgr : g ≠ br := row_ne hg hR (by decide)
  obtain ⟨x, hxe⟩ : ∃ x, l.getD 0 0 = x := ⟨_, rfl⟩
  obtain ⟨L2, hL2⟩ : ∃ L2, ((Acc.ad 0 1).run l c).2.1 = L2 := ⟨_, rfl⟩
  obtain ⟨C2, hC2⟩ : ∃ C2, ((Acc.ad 0 1).run l c).2.2 = C2 := ⟨_, rfl⟩
  have HSW : Hid (∀ W : World, MemIs 139 W bm bw l c → Calls Try.prog 195 #[.pointer (some ⟨bm, 0, none⟩), .int .i64 0, .int .u64 1] W fun e w' => e = .returned (.int .u64 (x : Int)) ∧ MemIs 139 w' bm bw L2 C2 ∧ But bm bw W w') := Lib.hid (fun W hW => by
    have h := ad_acc (i := 0) 1 hW h0 hl hc
    unfold AccPost at h
    rw [hL2, hC2, hxe] at h
    exact h)
  rw [hxe] at hx hx64
  rw [hL2, hC2]
  have hxi : (x : Int) / 4294967296 = (cu : Int) := by omega
  have hxt : (x : Int).tdiv 4294967296 = (cu : Int) := by rw [Int.tdiv_eq_ediv_of_nonneg (by omega)]; exact hxi
  have hcw : IntKind.i64.wrap (cu : Int) = (cu : Int) := by unfold IntKind.wrap; simp [IntKind.bits, IntKind.signed]; omega
  have hcw2 : IntKind.u64.wrap (cu : Int) = (cu : Int) := by unfold IntKind.wrap; simp [IntKind.bits, IntKind.signed]; omega
  have HM := Lib.hid hM
  have HG := Lib.hid hg
  have HR := Lib.hid hR
  have hmm := m_Add ⟨bm, 0, none⟩
  have hbm := hM.lt1
  have hbw := hM.lt2
  have hgl := hg.lt
  have hrl := hR.lt
  unfold RdVs RegVs fnV at *
  unfold turnAgg
  clear hM hg hR hxe hL2 hC2 h0 hl hx
  have g1 : w.cell? ⟨g, 1, none⟩ = some (.int .i64 ((0 : Nat) : Int)) := HG.out.cell rfl
  have fz0 : ∀ j, w.frozen? ⟨g, j, none⟩ = false := fun j => HG.out.free
  go_enter Try.func133, Try.ntmps133
  go_wp2_with fail
  obtain ⟨w1, hw1⟩ : ∃ w1, w.setCell ⟨g, 1, none⟩ (.int .i64 (t : Int)) = w1 := ⟨_, rfl⟩
  have hs1 : w1.heap.size = w.heap.size := by rw [← hw1]; simp [World.setCell]
  have HM1 : Hid (MemIs 139 w1 bm bw l c) := Lib.hid (by rw [← hw1]; exact HM.out.setNew _ _ hgm hgw)
  have HG1 : Hid (RowBlk 231 w1 g [.pointer (some ⟨br, 0, none⟩), .int .i64 (t : Int), .int .i64 ((0 : Nat) : Int), .slice none 0 0, .slice none 0 0, .func (.func 133) #[.pointer (some ⟨g, 0, none⟩)] #[]]) := Lib.hid (by rw [← hw1]; exact HG.out.put 1 _)
  have HR1 : Hid (RowBlk 192 w1 br (RegVs n w0 be s)) := Lib.hid (by rw [← hw1]; exact HR.out.other (a := ⟨g, 1, none⟩) hgr.symm _)
  have HB1 : Hid (ButS (fun b => b = bm ∨ b = bw ∨ b = g) w w1) := Lib.hid (by rw [← hw1]; exact (ButS.refl _ _).setCell (.inl (.inr (.inr rfl))) _)
  rw [hw1]
  clear hw1 g1
  have HMa : Hid (MemIs 139 ((w1.alloc (.cells #[.iface 97 (.pointer (some ⟨bm, 0, none⟩)), .int .i64 (t : Int)] 113)).alloc (.cells #[.int .i64 0, .int .u64 0, .slice none 0 0] 39)) bm bw l c) := Lib.hid ((HM1.out.alloc _).alloc _)
  have HGa := Lib.hid ((HG1.out.alloc (.cells #[.iface 97 (.pointer (some ⟨bm, 0, none⟩)), .int .i64 (t : Int)] 113)).alloc (.cells #[.int .i64 0, .int .u64 0, .slice none 0 0] 39))
  have HRa := Lib.hid ((HR1.out.alloc (.cells #[.iface 97 (.pointer (some ⟨bm, 0, none⟩)), .int .i64 (t : Int)] 113)).alloc (.cells #[.int .i64 0, .int .u64 0, .slice none 0 0] 39))
  have HTa : Hid (RowBlk 113 ((w1.alloc (.cells #[.iface 97 (.pointer (some ⟨bm, 0, none⟩)), .int .i64 (t : Int)] 113)).alloc (.cells #[.int .i64 0, .int .u64 0, .slice none 0 0] 39)) w.heap.size [.iface 97 (.pointer (some ⟨bm, 0, none⟩)), .int .i64 (t : Int)]) := Lib.hid (by
    have h := (RowBlk.new w1 [.iface 97 (.pointer (some ⟨bm, 0, none⟩)), .int .i64 (t : Int)] 113).alloc (.cells #[.int .i64 0, .int .u64 0, .slice none 0 0] 39)
    rw [hs1] at h; exact h)
  have HAa : Hid (RowBlk 39 ((w1.alloc (.cells #[.iface 97 (.pointer (some ⟨bm, 0, none⟩)), .int .i64 (t : Int)] 113)).alloc (.cells #[.int .i64 0, .int .u64 0, .slice none 0 0] 39)) (w.heap.size + 1) [.int .i64 0, .int .u64 0, .slice none 0 0]) := Lib.hid (by
    have h := RowBlk.new (w1.alloc (.cells #[.iface 97 (.pointer (some ⟨bm, 0, none⟩)), .int .i64 (t : Int)] 113)) [.int .i64 0, .int .u64 0, .slice none 0 0] 39
    have e : (w1.alloc (.cells #[.iface 97 (.pointer (some ⟨bm, 0, none⟩)), .int .i64 (t : Int)] 113)).heap.size = w.heap.size + 1 := by simp [hs1]
    rw [e] at h; exact h)
  have HBa : Hid (ButS (fun b => b = bm ∨ b = bw ∨ b = g) w ((w1.alloc (.cells #[.iface 97 (.pointer (some ⟨bm, 0, none⟩)), .int .i64 (t : Int)] 113)).alloc (.cells #[.int .i64 0, .int .u64 0, .slice none 0 0] 39))) := Lib.hid ((HB1.out.alloc _).alloc _)
  generalize ((w1.alloc (.cells #[.iface 97 (.pointer (some ⟨bm, 0, none⟩)), .int .i64 (t : Int)] 113)).alloc (.cells #[.int .i64 0, .int .u64 0, .slice none 0 0] 39)) = wa at HMa HGa HRa HTa HAa HBa ⊢
  have g0 : wa.cell? ⟨g, 0, none⟩ = some (.pointer (some ⟨br, 0, none⟩)) := HGa.out.cell rfl
  have g2 : wa.cell? ⟨g, 2, none⟩ = some (.int .i64 ((0 : Nat) : Int)) := HGa.out.cell rfl
  have r1 : wa.cell? ⟨br, 1, none⟩ = some (.int .i64 0) := HRa.out.cell rfl
  have t0 : wa.cell? ⟨w.heap.size, 0, none⟩ = some (.iface 97 (.pointer (some ⟨bm, 0, none⟩))) := HTa.out.cell rfl
  go_region_held3 (fun w' => w'.cell? ⟨g, 0, none⟩ = some (.pointer (some ⟨br, 0, none⟩)) ∧ w'.cell? ⟨br, 1, none⟩ = some (.int .i64 0) ∧ w'.cell? ⟨w.heap.size, 0, none⟩ = some (.iface 97 (.pointer (some ⟨bm, 0, none⟩))))
    (first | with_reducible exact ⟨g0, r1, t0⟩ | with_reducible exact HP4.out _ | go_keep)
    (first
      | (go_at_call 195
         refine (HSW.out _ HMa.out.drew).mono ?_
         rintro e w4 ⟨rfl, hM4, hB4⟩
         have hG4 := HGa.out.drew.same (hB4.block g HGa.out.lt hgm hgw)
         have hR4 := HRa.out.drew.same (hB4.block br HRa.out.lt hrm hrw)
         have hT4 := HTa.out.drew.same (hB4.block w.heap.size HTa.out.lt (by omega) (by omega))
         have hA4 := HAa.out.drew.same (hB4.block (w.heap.size + 1) HAa.out.lt (by omega) (by omega))
         have g0 : w4.cell? ⟨g, 0, none⟩ = some (.pointer (some ⟨br, 0, none⟩)) := hG4.cell rfl
         have g2 : w4.cell? ⟨g, 2, none⟩ = some (.int .i64 ((0 : Nat) : Int)) := hG4.cell rfl
         have r1 : w4.cell? ⟨br, 1, none⟩ = some (.int .i64 0) := hR4.cell rfl
         have t0 : w4.cell? ⟨w.heap.size, 0, none⟩ = some (.iface 97 (.pointer (some ⟨bm, 0, none⟩))) := hT4.cell rfl
         have HP4 : Hid (∀ v : Value, (w4.setCell ⟨g, 2, none⟩ v).cell? ⟨g, 0, none⟩ = some (.pointer (some ⟨br, 0, none⟩)) ∧ (w4.setCell ⟨g, 2, none⟩ v).cell? ⟨br, 1, none⟩ = some (.int .i64 0) ∧ (w4.setCell ⟨g, 2, none⟩ v).cell? ⟨w.heap.size, 0, none⟩ = some (.iface 97 (.pointer (some ⟨bm, 0, none⟩)))) := Lib.hid (fun v => ⟨(hG4.put 2 v).cell rfl, (hR4.other (a := ⟨g, 2, none⟩) hgr.symm v).cell rfl, (hT4.other (a := ⟨g, 2, none⟩) (show w.heap.size ≠ g by omega) v).cell rfl⟩)
         have fz4 : ∀ j, w4.frozen? ⟨g, j, none⟩ = false := fun j => hG4.free
         have HG4 := Lib.hid hG4
         have HA4 := Lib.hid hA4
         have HM4 := Lib.hid hM4
         have HB4 := Lib.hid hB4
         clear hG4 hR4 hT4 hA4 hM4 hB4))
  have n1 : g ≠ w.heap.size + 1 := by omega
  have n2 : w.heap.size + 1 ≠ g := by omega
  have a0 := HA4.out.cell (i := 0) rfl
  have a1 := HA4.out.cell (i := 1) rfl
  have a2 := HA4.out.cell (i := 2) rfl
  have z0 : ∀ j, w4.frozen? ⟨w.heap.size + 1, j, none⟩ = false := fun j => HA4.out.free
  have g5 : w4.cell? ⟨g, 5, none⟩ = some (.func (.func 133) #[.pointer (some ⟨g, 0, none⟩)] #[]) := HG4.out.cell rfl
  have HX : Hid (RowBlk 39 (((((w4.setCell ⟨g, 2, none⟩ (.int .i64 (cu : Int))).setCell ⟨g, 5, none⟩ (.func (.func 136) #[.pointer (some ⟨g, 0, none⟩)] #[])).setCell ⟨w.heap.size + 1, 0, none⟩ (.int .i64 0)).setCell ⟨w.heap.size + 1, 1, none⟩ (.int .u64 0)).setCell ⟨w.heap.size + 1, 2, none⟩ (.slice none 0 0)) (w.heap.size + 1) [.int .i64 0, .int .u64 0, .slice none 0 0] ∧ RowBlk 231 (((((w4.setCell ⟨g, 2, none⟩ (.int .i64 (cu : Int))).setCell ⟨g, 5, none⟩ (.func (.func 136) #[.pointer (some ⟨g, 0, none⟩)] #[])).setCell ⟨w.heap.size + 1, 0, none⟩ (.int .i64 0)).setCell ⟨w.heap.size + 1, 1, none⟩ (.int .u64 0)).setCell ⟨w.heap.size + 1, 2, none⟩ (.slice none 0 0)) g [.pointer (some ⟨br, 0, none⟩), .int .i64 (t : Int), .int .i64 (cu : Int), .slice none 0 0, .slice none 0 0, .func (.func 136) #[.pointer (some ⟨g, 0, none⟩)] #[]] ∧ MemIs 139 (((((w4.setCell ⟨g, 2, none⟩ (.int .i64 (cu : Int))).setCell ⟨g, 5, none⟩ (.func (.func 136) #[.pointer (some ⟨g, 0, none⟩)] #[])).setCell ⟨w.heap.size + 1, 0, none⟩ (.int .i64 0)).setCell ⟨w.heap.size + 1, 1, none⟩ (.int .u64 0)).setCell ⟨w.heap.size + 1, 2, none⟩ (.slice none 0 0)) bm bw L2 C2 ∧ ButS (fun b => b = bm ∨ b = bw ∨ b = g) w (((((w4.setCell ⟨g, 2, none⟩ (.int .i64 (cu : Int))).setCell ⟨g, 5, none⟩ (.func (.func 136) #[.pointer (some ⟨g, 0, none⟩)] #[])).setCell ⟨w.heap.size + 1, 0, none⟩ (.int .i64 0)).setCell ⟨w.heap.size + 1, 1, none⟩ (.int .u64 0)).setCell ⟨w.heap.size + 1, 2, none⟩ (.slice none 0 0))) := Lib.hid
    ⟨((((HA4.out.other (a := ⟨g, 2, none⟩) n2 _).other (a := ⟨g, 5, none⟩) n2 _).put 0 _).put 1 _).put 2 _, ((((HG4.out.put 2 _).put 5 _).other (a := ⟨w.heap.size + 1, 0, none⟩) n1 _).other (a := ⟨w.heap.size + 1, 1, none⟩) n1 _).other (a := ⟨w.heap.size + 1, 2, none⟩) n1 _,
     ((((HM4.out.setNew _ _ hgm hgw).setNew _ _ hgm hgw).setNew _ _ (by omega) (by omega)).setNew _ _ (by omega) (by omega)).setNew _ _ (by omega) (by omega),
     (((((HBa.out.drew.trans (ButS.of_but HB4.out (.inl rfl) (.inr (.inl rfl)))).setCell (.inl (.inr (.inr rfl))) _).setCell (.inl (.inr (.inr rfl))) _).setCell (.inr (by show w.heap.size ≤ w.heap.size + 1; omega)) _).setCell (.inr (by show w.heap.size ≤ w.heap.size + 1; omega)) _).setCell (.inr (by show w.heap.size ≤ w.heap.size + 1; omega)) _⟩
  clear g0 r1 t0
  go_wp2_with fail
  generalize (((((w4.setCell ⟨g, 2, none⟩ (.int .i64 (cu : Int))).setCell ⟨g, 5, none⟩ (.func (.func 136) #[.pointer (some ⟨g, 0, none⟩)] #[])).setCell ⟨w.heap.size + 1, 0, none⟩ (.int .i64 0)).setCell ⟨w.heap.size + 1, 1, none⟩ (.int .u64 0)).setCell ⟨w.heap.size + 1, 2, none⟩ (.slice none 0 0)) = W5 at HX ⊢
  have q0 := HX.out.1.cell (i := 0) rfl
  have q1 := HX.out.1.cell (i := 1) rfl
  have q2 := HX.out.1.cell (i := 2) rfl
  exact bodyPost_ret (v := .tuple #[.agg #[.int .i64 0, .int .u64 0, .slice none 0 0], .bool false]) (by simp [results, Try.results133, go_sem, q0, q1, q2]) rfl ⟨rfl, HX.out.2.2.1, HX.out.2.2.2, HX.out.2.1⟩
end
section
open Go.ChangeShapes Go.WideShapes Go.ChangeAt Go.RowKit
set_option linter.unusedVariables false
set_option linter.unusedSimpArgs false
def RdAns (lv : Value) : Value := .tuple #[.agg #[.int .i64 0, .int .u64 0, lv], .bool true]
def PinGone (br t0 q g : Nat) (lv : Value) (l : List Nat) (c : Cn) (bm bw : Nat) (w : World) (en : Ending) (w' : World) : Prop := en = .returned (RdAns lv) ∧ MemIs 139 w' bm bw l c ∧ ButS (fun b => b = bm ∨ b = bw ∨ b = g) w w' ∧ ∃ bk, w.heap.size ≤ bk ∧ RowBlk 3 w' bk [.int .i64 ((2 * t0 : Nat) : Int)] ∧ RowBlk 231 w' g (RdVs br t0 q lv (.slice (some ⟨bk, 0, none⟩) 1 1) g 139)
set_option maxRecDepth 100000 in
set_option maxHeartbeats 2000000 in
theorem pin_leaves (n w0 br be g bm bw te q : Nat) (s : PinS) (l : List Nat) (c : Cn) (t : Nat) (ao : Option Addr) (ln : Nat) (cp : Nat) (w : World) (hM : MemIs 139 w bm bw l c) (hR : RegIs n w0 br be s w) (hg : RowBlk 231 w g (RdVs br te q (.slice ao ln cp) (.slice none 0 0) g 139)) (hq : q ≤ 17) (h0 : 1 + q < l.length) (hl : l.length ≤ 65536) (hc : c.a < 9223372036854775807) (hte : te ≤ 4611686018427387903) (hgb : g ≠ be) :
    Calls Try.prog 139 #[.pointer (some ⟨g, 0, none⟩), turnAgg bm (t : Int)] w (PinGone br te q g (.slice ao ln cp) ((Acc.ad (1 + q) 1).run l c).2.1 ((Acc.ad (1 + q) 1).run l c).2.2 bm bw w) := by
  have hgm : g ≠ bm := by intro e; have h1 := hg; have h2 := hM.1; unfold RowBlk at h1; rw [e, h2] at h1; simp at h1
  have hgw : g ≠ bw := by intro e; have h1 := hg; have h2 := hM.2.1; unfold RowBlk at h1; rw [e, h2] at h1; simp at h1
  obtain ⟨x, hxe⟩ : ∃ x, l.getD (1 + q) 0 = x := ⟨_, rfl⟩
  obtain ⟨L2, hL2⟩ : ∃ L2, ((Acc.ad (1 + q) 1).run l c).2.1 = L2 := ⟨_, rfl⟩
  obtain ⟨C2, hC2⟩ : ∃ C2, ((Acc.ad (1 + q) 1).run l c).2.2 = C2 := ⟨_, rfl⟩
  have HSW : Hid (∀ W : World, MemIs 139 W bm bw l c → Calls Try.prog 195 #[.pointer (some ⟨bm, 0, none⟩), .int .i64 ((1 + q : Nat) : Int), .int .u64 1] W fun e w' => e = .returned (.int .u64 (x : Int)) ∧ MemIs 139 w' bm bw L2 C2 ∧ But bm bw W w') := Lib.hid (fun W hW => by
    have h := ad_acc (i := 1 + q) 1 hW h0 hl hc
    unfold AccPost at h
    rw [hL2, hC2, hxe] at h
    exact h)
  have HLF : Hid (∀ W : World, RegIs n w0 br be s W → Calls Try.prog 134 #[.pointer (some ⟨br, 0, none⟩), .int .i64 (q : Int)] W fun e w' => e = .returned (.int .i64 ((1 + q : Nat) : Int)) ∧ W = w') := Lib.hid (fun W hW => pin_left n w0 br be q s W hW hq)
  rw [hL2, hC2]
  obtain ⟨u, hu⟩ : ∃ u, 1 + q = u := ⟨_, rfl⟩
  rw [hu] at HSW HLF
  have HM := Lib.hid hM
  have HG := Lib.hid hg
  have HR := Lib.hid hR
  have hmm := m_Add ⟨bm, 0, none⟩
  have hbm := hM.lt1
  have hbw := hM.lt2
  have hgl := hg.lt
  have HT2 : Hid (IntKind.i64.wrap (2 * (te : Int)) = ((2 * te : Nat) : Int)) := Lib.hid (by unfold IntKind.wrap; simp [IntKind.bits, IntKind.signed]; omega)
  have hrl := hR.1.lt
  have hel := hR.2.lt
  have hgr : g ≠ br := row_ne hg hR.1 (by decide)
  unfold RdVs fnV at *
  unfold turnAgg
  clear hM hg hR hxe hL2 hC2 h0 hl hu
  go_enter Try.func139, Try.ntmps139
  go_wp2_with fail
  have HMa : Hid (MemIs 139 ((w.alloc (.cells #[.iface 97 (.pointer (some ⟨bm, 0, none⟩)), .int .i64 (t : Int)] 113)).alloc (.cells #[.int .i64 0, .int .u64 0, .slice none 0 0] 39)) bm bw l c) := Lib.hid ((HM.out.alloc _).alloc _)
  have HGa := Lib.hid ((HG.out.alloc (.cells #[.iface 97 (.pointer (some ⟨bm, 0, none⟩)), .int .i64 (t : Int)] 113)).alloc (.cells #[.int .i64 0, .int .u64 0, .slice none 0 0] 39))
  have HRa : Hid (RegIs n w0 br be s ((w.alloc (.cells #[.iface 97 (.pointer (some ⟨bm, 0, none⟩)), .int .i64 (t : Int)] 113)).alloc (.cells #[.int .i64 0, .int .u64 0, .slice none 0 0] 39))) := Lib.hid ⟨(HR.out.1.alloc _).alloc _, (HR.out.2.alloc _).alloc _⟩
  have HTa : Hid (RowBlk 113 ((w.alloc (.cells #[.iface 97 (.pointer (some ⟨bm, 0, none⟩)), .int .i64 (t : Int)] 113)).alloc (.cells #[.int .i64 0, .int .u64 0, .slice none 0 0] 39)) w.heap.size [.iface 97 (.pointer (some ⟨bm, 0, none⟩)), .int .i64 (t : Int)]) := Lib.hid ((RowBlk.new w [.iface 97 (.pointer (some ⟨bm, 0, none⟩)), .int .i64 (t : Int)] 113).alloc _)
  have HAa : Hid (RowBlk 39 ((w.alloc (.cells #[.iface 97 (.pointer (some ⟨bm, 0, none⟩)), .int .i64 (t : Int)] 113)).alloc (.cells #[.int .i64 0, .int .u64 0, .slice none 0 0] 39)) (w.heap.size + 1) [.int .i64 0, .int .u64 0, .slice none 0 0]) := Lib.hid (by
    have h := RowBlk.new (w.alloc (.cells #[.iface 97 (.pointer (some ⟨bm, 0, none⟩)), .int .i64 (t : Int)] 113)) [.int .i64 0, .int .u64 0, .slice none 0 0] 39
    have e : (w.alloc (.cells #[.iface 97 (.pointer (some ⟨bm, 0, none⟩)), .int .i64 (t : Int)] 113)).heap.size = w.heap.size + 1 := by simp
    rw [e] at h; exact h)
  have HBa : Hid (ButS (fun b => b = bm ∨ b = bw ∨ b = g) w ((w.alloc (.cells #[.iface 97 (.pointer (some ⟨bm, 0, none⟩)), .int .i64 (t : Int)] 113)).alloc (.cells #[.int .i64 0, .int .u64 0, .slice none 0 0] 39))) := Lib.hid (((ButS.refl _ _).alloc _).alloc _)
  generalize ((w.alloc (.cells #[.iface 97 (.pointer (some ⟨bm, 0, none⟩)), .int .i64 (t : Int)] 113)).alloc (.cells #[.int .i64 0, .int .u64 0, .slice none 0 0] 39)) = wa at HMa HGa HRa HTa HAa HBa ⊢
  have g0 : wa.cell? ⟨g, 0, none⟩ = some (.pointer (some ⟨br, 0, none⟩)) := HGa.out.cell rfl
  have g2 : wa.cell? ⟨g, 2, none⟩ = some (.int .i64 (q : Int)) := HGa.out.cell rfl
  have t0 : wa.cell? ⟨w.heap.size, 0, none⟩ = some (.iface 97 (.pointer (some ⟨bm, 0, none⟩))) := HTa.out.cell rfl
  go_region_held3 (fun w' => w'.cell? ⟨g, 0, none⟩ = some (.pointer (some ⟨br, 0, none⟩)) ∧ w'.cell? ⟨g, 2, none⟩ = some (.int .i64 (q : Int)) ∧ w'.cell? ⟨w.heap.size, 0, none⟩ = some (.iface 97 (.pointer (some ⟨bm, 0, none⟩))))
    (first | with_reducible exact ⟨g0, g2, t0⟩ | go_keep)
    (first
      | (go_at_call 134
         refine (HLF.out _ ⟨HRa.out.1.drew, HRa.out.2.drew⟩).mono ?_
         rintro e w4 ⟨rfl, rfl⟩)
      | (go_at_call 195
         refine (HSW.out _ HMa.out.drew).mono ?_
         rintro e w4 ⟨rfl, hM4, hB4⟩
         have hG4 := HGa.out.drew.same (hB4.block g HGa.out.lt hgm hgw)
         have hT4 := HTa.out.drew.same (hB4.block w.heap.size HTa.out.lt (by omega) (by omega))
         have hA4 := HAa.out.drew.same (hB4.block (w.heap.size + 1) HAa.out.lt (by omega) (by omega))
         have g0 : w4.cell? ⟨g, 0, none⟩ = some (.pointer (some ⟨br, 0, none⟩)) := hG4.cell rfl
         have g2 : w4.cell? ⟨g, 2, none⟩ = some (.int .i64 (q : Int)) := hG4.cell rfl
         have t0 : w4.cell? ⟨w.heap.size, 0, none⟩ = some (.iface 97 (.pointer (some ⟨bm, 0, none⟩))) := hT4.cell rfl
         have HG4 := Lib.hid hG4
         have HA4 := Lib.hid hA4
         have HM4 := Lib.hid hM4
         have HB4 : Hid (ButS (fun b => b = bm ∨ b = bw ∨ b = g) w w4) := Lib.hid (HBa.out.drew.trans (ButS.of_but hB4 (.inl rfl) (.inr (.inl rfl))))
         clear hG4 hT4 hA4 hM4 hB4))
  clear g0 g2 t0
  have hs4 : w.heap.size + 2 ≤ w4.heap.size := by have := HA4.out.lt; omega
  obtain ⟨bk, hbk⟩ : ∃ bk, w4.heap.size = bk := ⟨_, rfl⟩
  have g1 : w4.cell? ⟨g, 1, none⟩ = some (.int .i64 (te : Int)) := HG4.out.cell rfl
  have g4 : w4.cell? ⟨g, 4, none⟩ = some (.slice none 0 0) := HG4.out.cell rfl
  have fz4 : ∀ j, w4.frozen? ⟨g, j, none⟩ = false := fun j => HG4.out.free
  have hwr := HT2.out
  have g3 : w4.cell? ⟨g, 3, none⟩ = some (.slice ao ln cp) := HG4.out.cell rfl
  have n1 : g ≠ w.heap.size + 1 := by omega
  have n2 : w.heap.size + 1 ≠ g := by omega
  have n3 : bk ≠ w.heap.size + 1 := by omega
  have n4 : w.heap.size + 1 ≠ bk := by omega
  have n5 : g ≠ bk := by omega
  have n6 : bk ≠ g := by omega
  have HGb := Lib.hid (HG4.out.alloc (.cells #[.int .i64 (2 * (te : Int))] 3))
  have b4 : (w4.alloc (.cells #[.int .i64 (2 * (te : Int))] 3)).cell? ⟨g, 4, none⟩ = some (.slice none 0 0) := HGb.out.cell rfl
  have b3 : (w4.alloc (.cells #[.int .i64 (2 * (te : Int))] 3)).cell? ⟨g, 3, none⟩ = some (.slice ao ln cp) := HGb.out.cell rfl
  have fzb : ∀ j, (w4.alloc (.cells #[.int .i64 (2 * (te : Int))] 3)).frozen? ⟨g, j, none⟩ = false := fun j => HGb.out.free
  have HAb := Lib.hid (HA4.out.alloc (.cells #[.int .i64 (2 * (te : Int))] 3))
  have a0 := HAb.out.cell (i := 0) rfl
  have a1 := HAb.out.cell (i := 1) rfl
  have a2 := HAb.out.cell (i := 2) rfl
  have z0 : ∀ j, (w4.alloc (.cells #[.int .i64 (2 * (te : Int))] 3)).frozen? ⟨w.heap.size + 1, j, none⟩ = false := fun j => HAb.out.free
  have HNb : Hid (RowBlk 3 (w4.alloc (.cells #[.int .i64 (2 * (te : Int))] 3)) bk [.int .i64 (2 * (te : Int))]) := Lib.hid (by rw [← hbk]; exact RowBlk.new _ _ _)
  have HX : Hid (RowBlk 39 (((((w4.alloc (.cells #[.int .i64 (2 * (te : Int))] 3)).setCell ⟨g, 4, none⟩ (.slice (some ⟨bk, 0, none⟩) 1 1)).setCell ⟨w.heap.size + 1, 0, none⟩ (.int .i64 0)).setCell ⟨w.heap.size + 1, 1, none⟩ (.int .u64 0)).setCell ⟨w.heap.size + 1, 2, none⟩ (.slice ao ln cp)) (w.heap.size + 1) [.int .i64 0, .int .u64 0, .slice ao ln cp] ∧ RowBlk 231 (((((w4.alloc (.cells #[.int .i64 (2 * (te : Int))] 3)).setCell ⟨g, 4, none⟩ (.slice (some ⟨bk, 0, none⟩) 1 1)).setCell ⟨w.heap.size + 1, 0, none⟩ (.int .i64 0)).setCell ⟨w.heap.size + 1, 1, none⟩ (.int .u64 0)).setCell ⟨w.heap.size + 1, 2, none⟩ (.slice ao ln cp)) g [.pointer (some ⟨br, 0, none⟩), .int .i64 (te : Int), .int .i64 (q : Int), .slice ao ln cp, .slice (some ⟨bk, 0, none⟩) 1 1, .func (.func 139) #[.pointer (some ⟨g, 0, none⟩)] #[]] ∧ MemIs 139 (((((w4.alloc (.cells #[.int .i64 (2 * (te : Int))] 3)).setCell ⟨g, 4, none⟩ (.slice (some ⟨bk, 0, none⟩) 1 1)).setCell ⟨w.heap.size + 1, 0, none⟩ (.int .i64 0)).setCell ⟨w.heap.size + 1, 1, none⟩ (.int .u64 0)).setCell ⟨w.heap.size + 1, 2, none⟩ (.slice ao ln cp)) bm bw L2 C2 ∧ ButS (fun b => b = bm ∨ b = bw ∨ b = g) w (((((w4.alloc (.cells #[.int .i64 (2 * (te : Int))] 3)).setCell ⟨g, 4, none⟩ (.slice (some ⟨bk, 0, none⟩) 1 1)).setCell ⟨w.heap.size + 1, 0, none⟩ (.int .i64 0)).setCell ⟨w.heap.size + 1, 1, none⟩ (.int .u64 0)).setCell ⟨w.heap.size + 1, 2, none⟩ (.slice ao ln cp)) ∧ RowBlk 3 (((((w4.alloc (.cells #[.int .i64 (2 * (te : Int))] 3)).setCell ⟨g, 4, none⟩ (.slice (some ⟨bk, 0, none⟩) 1 1)).setCell ⟨w.heap.size + 1, 0, none⟩ (.int .i64 0)).setCell ⟨w.heap.size + 1, 1, none⟩ (.int .u64 0)).setCell ⟨w.heap.size + 1, 2, none⟩ (.slice ao ln cp)) bk [.int .i64 (2 * (te : Int))]) := Lib.hid
    ⟨(((HAb.out.other (a := ⟨g, 4, none⟩) n2 _).put 0 _).put 1 _).put 2 _, (((HGb.out.put 4 _).other (a := ⟨w.heap.size + 1, 0, none⟩) n1 _).other (a := ⟨w.heap.size + 1, 1, none⟩) n1 _).other (a := ⟨w.heap.size + 1, 2, none⟩) n1 _,
     ((((HM4.out.alloc _).setNew _ _ hgm hgw).setNew _ _ (by omega) (by omega)).setNew _ _ (by omega) (by omega)).setNew _ _ (by omega) (by omega),
     ((((HB4.out.alloc _).setCell (.inl (.inr (.inr rfl))) _).setCell (.inr (by show w.heap.size ≤ w.heap.size + 1; omega)) _).setCell (.inr (by show w.heap.size ≤ w.heap.size + 1; omega)) _).setCell (.inr (by show w.heap.size ≤ w.heap.size + 1; omega)) _,
     (((HNb.out.other (a := ⟨g, 4, none⟩) n6 _).other (a := ⟨w.heap.size + 1, 0, none⟩) n3 _).other (a := ⟨w.heap.size + 1, 1, none⟩) n3 _).other (a := ⟨w.heap.size + 1, 2, none⟩) n3 _⟩
  go_wp2_with fail
  generalize (((((w4.alloc (.cells #[.int .i64 (2 * (te : Int))] 3)).setCell ⟨g, 4, none⟩ (.slice (some ⟨bk, 0, none⟩) 1 1)).setCell ⟨w.heap.size + 1, 0, none⟩ (.int .i64 0)).setCell ⟨w.heap.size + 1, 1, none⟩ (.int .u64 0)).setCell ⟨w.heap.size + 1, 2, none⟩ (.slice ao ln cp)) = W5 at HX ⊢
  have q0 := HX.out.1.cell (i := 0) rfl
  have q1 := HX.out.1.cell (i := 1) rfl
  have q2 := HX.out.1.cell (i := 2) rfl
  exact bodyPost_ret (v := RdAns (.slice ao ln cp)) (by simp [RdAns, results, Try.results139, go_sem, q0, q1, q2]) rfl ⟨rfl, HX.out.2.2.1, HX.out.2.2.2.1, bk, by omega, HX.out.2.2.2.2, HX.out.2.1⟩
end
end Go.Proofs.Ytpoebpnmbogmnaa
