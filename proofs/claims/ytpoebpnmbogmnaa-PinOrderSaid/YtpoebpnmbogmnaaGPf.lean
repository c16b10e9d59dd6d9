/- Walks of pin: a write publishes its buffer. | Walks of pin: a read takes a word of its buffer. -/
import Derived.Test.YtpoebpnmbogmnaaGPd
import Derived.Test.YtpoebpnmbogmnaaGK
import Derived.Deep.AppendLies
namespace Go.Proofs.Ytpoebpnmbogmnaa
section
open Go.ChangeShapes Go.WideShapes Go.ChangeAt Go.RowKit
set_option linter.unusedVariables false
set_option linter.unusedSimpArgs false
def PinPubd (n w0 br be : Nat) (s' : PinS) (l : List Nat) (c : Cn) (bm bw : Nat) (w : World) (en : Ending) (w' : World) : Prop := en = .returned (.tuple #[.agg #[.int .i64 0, .int .u64 0, .slice none 0 0], .bool true]) ∧ MemIs 139 w' bm bw l c ∧ ButS (fun b => b = bm ∨ b = bw ∨ (b = br ∨ b = be)) w w' ∧ RegIs n w0 br be s' w'
set_option maxRecDepth 100000 in
set_option maxHeartbeats 2000000 in
theorem pin_publish (n w0 br be g bm bw a q j x y z D DD : Nat) (s : PinS) (l : List Nat) (c : Cn) (t : Nat) (w : World) (hM : MemIs 139 w bm bw l c) (hR : RegIs n w0 br be s w) (hg : RowBlk 229 w g (WrVs br a q j g 138)) (hq : q ≤ n) (hn : n ≤ 16) (hlen : s.ent.length = n + 1) (hcur : s.cur ≤ n) (h0 : 0 < l.length) (hl : l.length ≤ 65536) (hc : c.a < 9223372036854775807) (hxe : l.getD 0 0 = x) (hx64 : x ≤ 18446744073709551615) (hy : x % 4294967296 = y) (ht : s.tot ≤ y) (hz : s.ent.getD s.cur 0 + (y - s.tot) = z) (hz2 : z ≤ 4294967296)
    (hD : (q + 18446744073709551616 - s.cur) % 18446744073709551616 = D) (hDD : (q + 18446744073709551616 - s.cur) * 4294967296 % 18446744073709551616 = DD) (hew : be ≠ bw) :
    Calls Try.prog 138 #[.pointer (some ⟨g, 0, none⟩), turnAgg bm (t : Int)] w (PinPubd n w0 br be ⟨s.ent.set s.cur z, y, q⟩ ((Acc.ad 0 DD).run l c).2.1 ((Acc.ad 0 DD).run l c).2.2 bm bw w) := by
  have hgm : g ≠ bm := by intro e; have h1 := hg; have h2 := hM.1; unfold RowBlk at h1; rw [e, h2] at h1; simp at h1
  have hgw : g ≠ bw := by intro e; have h1 := hg; have h2 := hM.2.1; unfold RowBlk at h1; rw [e, h2] at h1; simp at h1
  have hrm : br ≠ bm := by intro e; have h1 := hR.1; have h2 := hM.1; unfold RowBlk at h1; rw [e, h2] at h1; simp at h1
  have hrw : br ≠ bw := by intro e; have h1 := hR.1; have h2 := hM.2.1; unfold RowBlk at h1; rw [e, h2] at h1; simp at h1
  have hem : be ≠ bm := by intro e; have h1 := hR.2; have h2 := hM.1; unfold RowBlk at h1; rw [e, h2] at h1; simp at h1
  obtain ⟨L2, hL2⟩ : ∃ L2, ((Acc.ad 0 DD).run l c).2.1 = L2 := ⟨_, rfl⟩
  obtain ⟨C2, hC2⟩ : ∃ C2, ((Acc.ad 0 DD).run l c).2.2 = C2 := ⟨_, rfl⟩
  have HSW : Hid (∀ W : World, MemIs 139 W bm bw l c → Calls Try.prog 195 #[.pointer (some ⟨bm, 0, none⟩), .int .i64 0, .int .u64 (DD : Int)] W fun e w' => e = .returned (.int .u64 (x : Int)) ∧ MemIs 139 w' bm bw L2 C2 ∧ But bm bw W w') := Lib.hid (fun W hW => by
    have h := ad_acc (i := 0) DD hW h0 hl hc
    unfold AccPost at h
    rw [hL2, hC2, hxe] at h
    exact h)
  rw [hL2, hC2]
  have HCH : Hid (∀ W : World, RegIs n w0 br be s W → Calls Try.prog 128 #[.pointer (some ⟨br, 0, none⟩), .int .i64 (q : Int), .int .u64 (x : Int)] W fun e w' => e = .returned (.tuple #[]) ∧ RegIs n w0 br be ⟨s.ent.set s.cur z, y, q⟩ w' ∧ ButS (fun b => b = br ∨ b = be) W w') := Lib.hid (fun W hW => pin_change n w0 br be q x y z s W hW hlen hcur hn hy hx64 ht hz hz2)
  have HM := Lib.hid hM
  have HG : Hid (RowBlk 229 w g [.pointer (some ⟨br, 0, none⟩), .int .u64 (a : Int), .int .i64 (q : Int), .int .i64 (j : Int), .func (.func 138) #[.pointer (some ⟨g, 0, none⟩)] #[]]) := Lib.hid hg
  have HE := Lib.hid hR.2
  have hmm := m_Add ⟨bm, 0, none⟩
  have hbm := hM.lt1
  have hbw := hM.lt2
  have hgl := hg.lt
  have hrl := hR.1.lt
  have hel := hR.2.lt
  have hgr : g ≠ br := row_ne hg hR.1 (by decide)
  have hge : g ≠ be := row_ne hg hR.2 (by decide)
  obtain ⟨m1, hm1⟩ : ∃ m1, n + 1 = m1 := ⟨_, rfl⟩
  obtain ⟨m2, hm2⟩ : ∃ m2, n + 2 = m2 := ⟨_, rfl⟩
  obtain ⟨tt, htt⟩ : ∃ tt, s.tot = tt := ⟨_, rfl⟩
  obtain ⟨cu, hcu⟩ : ∃ cu, s.cur = cu := ⟨_, rfl⟩
  have HR : Hid (RowBlk 192 w br [.int .i64 (w0 : Int), .int .i64 0, .int .i64 1, .int .i64 (m2 : Int), .slice (some ⟨be, 0, none⟩) (m1 : Nat) m1, .int .u64 (tt : Int), .int .i64 (cu : Int)]) := Lib.hid (by rw [← hm1, ← hm2, ← htt, ← hcu]; exact hR.1)
  have HRV : Hid (RegVs n w0 be s = [.int .i64 (w0 : Int), .int .i64 0, .int .i64 1, .int .i64 (m2 : Int), .slice (some ⟨be, 0, none⟩) (m1 : Nat) m1, .int .u64 (tt : Int), .int .i64 (cu : Int)]) := Lib.hid (by unfold RegVs; rw [hm1, hm2, htt, hcu])
  rw [hcu] at hD hDD hcur
  have hq16 : q ≤ 16 := by omega
  have hcu16 : cu ≤ 16 := by omega
  have hqw : IntKind.u64.wrap (q : Int) = (q : Int) := by rw [IntKind.wrap_u64]; omega
  have hcw : IntKind.u64.wrap (cu : Int) = (cu : Int) := by rw [IntKind.wrap_u64]; omega
  have hd1 : ((q : Int) - (cu : Int)) % 18446744073709551616 = (D : Int) := by omega
  have hd2 : IntKind.u64.wrap ((q : Int) - (cu : Int)) = (D : Int) := by rw [IntKind.wrap_u64]; exact hd1
  have hd3 : (D : Int) * 4294967296 % 18446744073709551616 = (DD : Int) := by omega
  have hd4 : IntKind.u64.wrap ((D : Int) * 4294967296) = (DD : Int) := by rw [IntKind.wrap_u64]; exact hd3
  unfold turnAgg
  clear hM hg hR hxe hL2 hC2 h0 hl hc hlen hm1 hm2 htt hcu hD hDD ht hz hz2 hy hcur hq hn
  go_enter Try.func138, Try.ntmps138
  go_wp2_with fail
  have HMa : Hid (MemIs 139 ((w.alloc (.cells #[.iface 97 (.pointer (some ⟨bm, 0, none⟩)), .int .i64 (t : Int)] 113)).alloc (.cells #[.int .i64 0, .int .u64 0, .slice none 0 0] 39)) bm bw l c) := Lib.hid ((HM.out.alloc _).alloc _)
  have HTa : Hid (RowBlk 113 ((w.alloc (.cells #[.iface 97 (.pointer (some ⟨bm, 0, none⟩)), .int .i64 (t : Int)] 113)).alloc (.cells #[.int .i64 0, .int .u64 0, .slice none 0 0] 39)) w.heap.size [.iface 97 (.pointer (some ⟨bm, 0, none⟩)), .int .i64 (t : Int)]) := Lib.hid ((RowBlk.new w [.iface 97 (.pointer (some ⟨bm, 0, none⟩)), .int .i64 (t : Int)] 113).alloc _)
  have HAa : Hid (RowBlk 39 ((w.alloc (.cells #[.iface 97 (.pointer (some ⟨bm, 0, none⟩)), .int .i64 (t : Int)] 113)).alloc (.cells #[.int .i64 0, .int .u64 0, .slice none 0 0] 39)) (w.heap.size + 1) [.int .i64 0, .int .u64 0, .slice none 0 0]) := Lib.hid (by
    have h := RowBlk.new (w.alloc (.cells #[.iface 97 (.pointer (some ⟨bm, 0, none⟩)), .int .i64 (t : Int)] 113)) [.int .i64 0, .int .u64 0, .slice none 0 0] 39
    have e : (w.alloc (.cells #[.iface 97 (.pointer (some ⟨bm, 0, none⟩)), .int .i64 (t : Int)] 113)).heap.size = w.heap.size + 1 := by simp
    rw [e] at h; exact h)
  have HBa : Hid (ButS (fun b => b = bm ∨ b = bw ∨ (b = br ∨ b = be)) w ((w.alloc (.cells #[.iface 97 (.pointer (some ⟨bm, 0, none⟩)), .int .i64 (t : Int)] 113)).alloc (.cells #[.int .i64 0, .int .u64 0, .slice none 0 0] 39))) := Lib.hid (((ButS.refl _ _).alloc _).alloc _)
  have HZa : Hid (((w.alloc (.cells #[.iface 97 (.pointer (some ⟨bm, 0, none⟩)), .int .i64 (t : Int)] 113)).alloc (.cells #[.int .i64 0, .int .u64 0, .slice none 0 0] 39)).heap.size = w.heap.size + 2) := Lib.hid (by simp)
  have HGa : Hid (RowBlk 229 ((w.alloc (.cells #[.iface 97 (.pointer (some ⟨bm, 0, none⟩)), .int .i64 (t : Int)] 113)).alloc (.cells #[.int .i64 0, .int .u64 0, .slice none 0 0] 39)) g [.pointer (some ⟨br, 0, none⟩), .int .u64 (a : Int), .int .i64 (q : Int), .int .i64 (j : Int), .func (.func 138) #[.pointer (some ⟨g, 0, none⟩)] #[]]) := Lib.hid ((HG.out.alloc _).alloc _)
  have HRa : Hid (RowBlk 192 ((w.alloc (.cells #[.iface 97 (.pointer (some ⟨bm, 0, none⟩)), .int .i64 (t : Int)] 113)).alloc (.cells #[.int .i64 0, .int .u64 0, .slice none 0 0] 39)) br [.int .i64 (w0 : Int), .int .i64 0, .int .i64 1, .int .i64 (m2 : Int), .slice (some ⟨be, 0, none⟩) (m1 : Nat) m1, .int .u64 (tt : Int), .int .i64 (cu : Int)]) := Lib.hid ((HR.out.alloc _).alloc _)
  have HEa : Hid (RowBlk 37 ((w.alloc (.cells #[.iface 97 (.pointer (some ⟨bm, 0, none⟩)), .int .i64 (t : Int)] 113)).alloc (.cells #[.int .i64 0, .int .u64 0, .slice none 0 0] 39)) be (s.ent.map (fun (x : Nat) => Value.int .u64 (x : Int)))) := Lib.hid ((HE.out.alloc _).alloc _)
  generalize ((w.alloc (.cells #[.iface 97 (.pointer (some ⟨bm, 0, none⟩)), .int .i64 (t : Int)] 113)).alloc (.cells #[.int .i64 0, .int .u64 0, .slice none 0 0] 39)) = wa at HMa HTa HAa HBa HZa HGa HRa HEa ⊢
  have g0 : wa.cell? ⟨g, 0, none⟩ = some (.pointer (some ⟨br, 0, none⟩)) := HGa.out.cell rfl
  have g2 : wa.cell? ⟨g, 2, none⟩ = some (.int .i64 (q : Int)) := HGa.out.cell rfl
  have r6 : wa.cell? ⟨br, 6, none⟩ = some (.int .i64 (cu : Int)) := HRa.out.cell rfl
  go_quiet (fail)
  have HGb := Lib.hid (HGa.out.drewN nq)
  have HRb := Lib.hid (HRa.out.drewN nq)
  have HEb := Lib.hid (HEa.out.drewN nq)
  have HTb := Lib.hid (HTa.out.drewN nq)
  have HAb := Lib.hid (HAa.out.drewN nq)
  have HMb := Lib.hid (HMa.out.drewN nq)
  have HBb := Lib.hid (HBa.out.drewN nq)
  generalize wa.drewN nq = wb at HGb HRb HEb HTb HAb HMb HBb ⊢
  clear g0 g2 r6
  have t0 : wb.cell? ⟨w.heap.size, 0, none⟩ = some (.iface 97 (.pointer (some ⟨bm, 0, none⟩))) := HTb.out.cell rfl
  have g0 : wb.cell? ⟨g, 0, none⟩ = some (.pointer (some ⟨br, 0, none⟩)) := HGb.out.cell rfl
  have r1 : wb.cell? ⟨br, 1, none⟩ = some (.int .i64 0) := HRb.out.cell rfl
  go_wp2_with fail
  go_region_held3 (fun w' => w'.cell? ⟨w.heap.size, 0, none⟩ = some (.iface 97 (.pointer (some ⟨bm, 0, none⟩))) ∧ w'.cell? ⟨g, 0, none⟩ = some (.pointer (some ⟨br, 0, none⟩)) ∧ w'.cell? ⟨br, 1, none⟩ = some (.int .i64 0))
    (first | with_reducible exact ⟨t0, g0, r1⟩ | go_keep)
    (first
      | (go_at_call 195
         refine (HSW.out _ HMb.out.drew).mono ?_
         rintro e w4 ⟨rfl, hM4, hB4⟩
         have HG4 := Lib.hid (HGb.out.drew.same (hB4.block (g) HGb.out.lt hgm hgw))
         have HR4 := Lib.hid (HRb.out.drew.same (hB4.block (br) HRb.out.lt hrm hrw))
         have HE4 := Lib.hid (HEb.out.drew.same (hB4.block (be) HEb.out.lt hem hew))
         have HT4 := Lib.hid (HTb.out.drew.same (hB4.block (w.heap.size) HTb.out.lt (by omega) (by omega)))
         have HA4 := Lib.hid (HAb.out.drew.same (hB4.block (w.heap.size + 1) HAb.out.lt (by omega) (by omega)))
         have HM4 := Lib.hid hM4
         have HB4 : Hid (ButS (fun b => b = bm ∨ b = bw ∨ (b = br ∨ b = be)) w w4) := Lib.hid (HBb.out.drew.trans (ButS.of_but hB4 (.inl rfl) (.inr (.inl rfl))))
         have t0 : w4.cell? ⟨w.heap.size, 0, none⟩ = some (.iface 97 (.pointer (some ⟨bm, 0, none⟩))) := HT4.out.cell rfl
         have g0 : w4.cell? ⟨g, 0, none⟩ = some (.pointer (some ⟨br, 0, none⟩)) := HG4.out.cell rfl
         have r1 : w4.cell? ⟨br, 1, none⟩ = some (.int .i64 0) := HR4.out.cell rfl
         clear hM4 hB4))
  rename_i hHeld
  clear hHeld t0 g0 r1
  have n1 : g ≠ w.heap.size + 1 := by omega
  have n2 : w.heap.size + 1 ≠ g := by omega
  have HREG : Hid (RegIs n w0 br be s w4.drew) := Lib.hid ⟨by rw [HRV.out]; exact HR4.out.drew, HE4.out.drew⟩
  have g0 : w4.cell? ⟨g, 0, none⟩ = some (.pointer (some ⟨br, 0, none⟩)) := HG4.out.cell rfl
  have g2 : w4.cell? ⟨g, 2, none⟩ = some (.int .i64 (q : Int)) := HG4.out.cell rfl
  go_wp2_with fail
  go_region_held3 (fun w' => w'.cell? ⟨g, 0, none⟩ = some (.pointer (some ⟨br, 0, none⟩)) ∧ w'.cell? ⟨g, 2, none⟩ = some (.int .i64 (q : Int)))
    (first | with_reducible exact ⟨g0, g2⟩ | go_keep)
    (first
      | (go_at_call 128
         refine (HCH.out _ HREG.out).mono ?_
         rintro e w5 ⟨rfl, hR5, hB5⟩
         have hG5 := HG4.out.drew.same (hB5.block g HG4.out.lt (fun h => h.elim hgr hge))
         have HA5 : Hid (RowBlk 39 w5 (w.heap.size + 1) [.int .i64 0, .int .u64 0, .slice none 0 0]) := Lib.hid (HA4.out.drew.same (hB5.block (w.heap.size + 1) HA4.out.lt (fun h => h.elim (by omega) (by omega))))
         have HM5 : Hid (MemIs 139 w5 bm bw L2 C2) := Lib.hid (HM4.out.drew.of_blocks (hB5.block bm HM4.out.lt1 (fun h => h.elim (fun h => hrm h.symm) (fun h => hem h.symm))) (hB5.block bw HM4.out.lt2 (fun h => h.elim (fun h => hrw h.symm) (fun h => hew h.symm))))
         have HB5 : Hid (ButS (fun b => b = bm ∨ b = bw ∨ (b = br ∨ b = be)) w w5) := Lib.hid (HB4.out.drew.trans (hB5.mono (fun k _ h => .inr (.inr h))))
         have HR5 := Lib.hid hR5
         have g0 : w5.cell? ⟨g, 0, none⟩ = some (.pointer (some ⟨br, 0, none⟩)) := hG5.cell rfl
         have g2 : w5.cell? ⟨g, 2, none⟩ = some (.int .i64 (q : Int)) := hG5.cell rfl
         clear hR5 hB5 hG5))
  rename_i hHeld
  clear hHeld g0 g2
  have a0 : w5.cell? ⟨w.heap.size + 1, 0, none⟩ = some (.int .i64 0) := HA5.out.cell rfl
  have a1 : w5.cell? ⟨w.heap.size + 1, 1, none⟩ = some (.int .u64 0) := HA5.out.cell rfl
  have a2 : w5.cell? ⟨w.heap.size + 1, 2, none⟩ = some (.slice none 0 0) := HA5.out.cell rfl
  have z0 : ∀ j, w5.frozen? ⟨w.heap.size + 1, j, none⟩ = false := fun j => HA5.out.free
  have hbr : br ≠ w.heap.size + 1 := by omega
  have hbe : be ≠ w.heap.size + 1 := by omega
  have HX : Hid (RowBlk 39 (((w5.setCell ⟨w.heap.size + 1, 0, none⟩ (.int .i64 0)).setCell ⟨w.heap.size + 1, 1, none⟩ (.int .u64 0)).setCell ⟨w.heap.size + 1, 2, none⟩ (.slice none 0 0)) (w.heap.size + 1) [.int .i64 0, .int .u64 0, .slice none 0 0] ∧ RegIs n w0 br be ⟨s.ent.set s.cur z, y, q⟩ (((w5.setCell ⟨w.heap.size + 1, 0, none⟩ (.int .i64 0)).setCell ⟨w.heap.size + 1, 1, none⟩ (.int .u64 0)).setCell ⟨w.heap.size + 1, 2, none⟩ (.slice none 0 0)) ∧ MemIs 139 (((w5.setCell ⟨w.heap.size + 1, 0, none⟩ (.int .i64 0)).setCell ⟨w.heap.size + 1, 1, none⟩ (.int .u64 0)).setCell ⟨w.heap.size + 1, 2, none⟩ (.slice none 0 0)) bm bw L2 C2 ∧ ButS (fun b => b = bm ∨ b = bw ∨ (b = br ∨ b = be)) w (((w5.setCell ⟨w.heap.size + 1, 0, none⟩ (.int .i64 0)).setCell ⟨w.heap.size + 1, 1, none⟩ (.int .u64 0)).setCell ⟨w.heap.size + 1, 2, none⟩ (.slice none 0 0))) := Lib.hid
    ⟨(((HA5.out.put 0 _).put 1 _).put 2 _), ⟨(((HR5.out.1.other (a := ⟨w.heap.size + 1, 0, none⟩) hbr _).other (a := ⟨w.heap.size + 1, 1, none⟩) hbr _).other (a := ⟨w.heap.size + 1, 2, none⟩) hbr _), (((HR5.out.2.other (a := ⟨w.heap.size + 1, 0, none⟩) hbe _).other (a := ⟨w.heap.size + 1, 1, none⟩) hbe _).other (a := ⟨w.heap.size + 1, 2, none⟩) hbe _)⟩, (((HM5.out.setNew _ _ (by omega) (by omega)).setNew _ _ (by omega) (by omega)).setNew _ _ (by omega) (by omega)), (((HB5.out.setCell (x := ⟨w.heap.size + 1, 0, none⟩) (.inr (by show w.heap.size ≤ w.heap.size + 1; omega)) _).setCell (x := ⟨w.heap.size + 1, 1, none⟩) (.inr (by show w.heap.size ≤ w.heap.size + 1; omega)) _).setCell (x := ⟨w.heap.size + 1, 2, none⟩) (.inr (by show w.heap.size ≤ w.heap.size + 1; omega)) _)⟩
  go_wp2_with fail
  generalize (((w5.setCell ⟨w.heap.size + 1, 0, none⟩ (.int .i64 0)).setCell ⟨w.heap.size + 1, 1, none⟩ (.int .u64 0)).setCell ⟨w.heap.size + 1, 2, none⟩ (.slice none 0 0)) = W5 at HX ⊢
  have q0 := HX.out.1.cell (i := 0) rfl
  have q1 := HX.out.1.cell (i := 1) rfl
  have q2 := HX.out.1.cell (i := 2) rfl
  exact bodyPost_ret (v := .tuple #[.agg #[.int .i64 0, .int .u64 0, .slice none 0 0], .bool true]) (by simp [results, Try.results138, go_sem, q0, q1, q2]) rfl ⟨rfl, HX.out.2.2.1, HX.out.2.2.2, HX.out.2.1⟩
end
section
open Go.ChangeShapes Go.WideShapes Go.ChangeAt Go.RowKit
set_option linter.unusedVariables false
set_option linter.unusedSimpArgs false
theorem owns_blkT {w : World} {B sz n k : Nat} {e : TypeId} {v : Value} {xs : List Value} (h : w.ownsRow B e sz v n xs) (hk : v.ownBlock = some k) : BlkT w k e := by
  obtain ⟨_, ⟨rfl, _⟩ | ⟨g, cap, cur, rfl, _, hh, _⟩⟩ := h
  · cases hk
  · cases hk; exact ⟨cur, hh⟩
def PinTook (br te q g f x : Nat) (lv : Value) (ws : List Nat) (l : List Nat) (c : Cn) (bm bw : Nat) (w : World) (en : Ending) (w' : World) : Prop := en = .returned (.tuple #[.agg #[.int .i64 0, .int .u64 0, .slice none 0 0], .bool false]) ∧ MemIs 139 w' bm bw l c ∧ ButS (fun b => b = bm ∨ b = bw ∨ (b = g ∨ lv.ownBlock = some b)) w w' ∧
  ∃ gl cap, RowBlk 231 w' g (RdVs br te q (.slice (some ⟨gl, 0, none⟩) (ws.length + 1) cap) (.slice none 0 0) g f) ∧ w'.ownsRow 0 37 1 (.slice (some ⟨gl, 0, none⟩) (ws.length + 1) cap) (ws.length + 1) ((ws ++ [x]).map mkU) ∧ (lv.ownBlock = some gl ∨ w.heap.size ≤ gl) ∧ gl < w'.heap.size
set_option maxRecDepth 100000 in
set_option maxHeartbeats 2000000 in
theorem pin_takeM (n w0 br be g bm bw te q x : Nat) (s : PinS) (ao : Option Addr) (cp : Nat) (ws : List Nat) (l : List Nat) (c : Cn) (t : Nat) (w : World) (hM : MemIs 139 w bm bw l c) (hR : RegIs n w0 br be s w) (hg : RowBlk 231 w g (RdVs br te q (.slice ao ws.length cp) (.slice none 0 0) g 136)) (ho : w.ownsRow 0 37 1 (.slice ao ws.length cp) ws.length (ws.map mkU)) (hob : ∀ k, (.slice ao ws.length cp : Value).ownBlock = some k → k ≠ be ∧ k ≠ bw) (hq : q ≤ n) (hn : n ≤ 16) (hw0 : w0 ≤ 8) (hj : ws.length < w0) (hjl : ¬ ws.length + 1 = w0) (h0 : wdA n w0 q ws.length < l.length) (hl : l.length ≤ 65536) (hc : c.r < 9223372036854775807) (hxe : l.getD (wdA n w0 q ws.length) 0 = x) (hew : be ≠ bw) :
    Calls Try.prog 136 #[.pointer (some ⟨g, 0, none⟩), turnAgg bm (t : Int)] w (PinTook br te q g 136 x (.slice ao ws.length cp) ws ((Acc.rd (wdA n w0 q ws.length)).run l c).2.1 ((Acc.rd (wdA n w0 q ws.length)).run l c).2.2 bm bw w) := by
  have hmf : ∀ (fn : Fn) (first cap : Array Value) (w : World), (Instr.makeFunc fn first cap).run Try.prog w = .ok (.func fn first cap) w := fun _ _ _ _ => rfl
  have hgm : g ≠ bm := by intro e; have h1 := hg; have h2 := hM.1; unfold RowBlk at h1; rw [e, h2] at h1; simp at h1
  have hgw : g ≠ bw := by intro e; have h1 := hg; have h2 := hM.2.1; unfold RowBlk at h1; rw [e, h2] at h1; simp at h1
  have hrm : br ≠ bm := by intro e; have h1 := hR.1; have h2 := hM.1; unfold RowBlk at h1; rw [e, h2] at h1; simp at h1
  have hrw : br ≠ bw := by intro e; have h1 := hR.1; have h2 := hM.2.1; unfold RowBlk at h1; rw [e, h2] at h1; simp at h1
  obtain ⟨iU, ua, ub, uc, ud⟩ := info_parts info22
  have hem : be ≠ bm := by intro e; have h1 := hR.2; have h2 := hM.1; unfold RowBlk at h1; rw [e, h2] at h1; simp at h1
  have HOG : Hid ((.slice ao ws.length cp : Value).ownBlock ≠ some g) := Lib.hid (row_owns_ne hg ho (by decide))
  have HOR : Hid ((.slice ao ws.length cp : Value).ownBlock ≠ some br) := Lib.hid (row_owns_ne hR.1 ho (by decide))
  have HOM : Hid ((.slice ao ws.length cp : Value).ownBlock ≠ some bm) := Lib.hid (fun e => by obtain ⟨cur, h1⟩ := owns_blkT ho e; rw [hM.1] at h1; simp at h1)
  have HOE : Hid ((.slice ao ws.length cp : Value).ownBlock ≠ some be) := Lib.hid (fun e => (hob _ e).1 rfl)
  have HOW : Hid ((.slice ao ws.length cp : Value).ownBlock ≠ some bw) := Lib.hid (fun e => (hob _ e).2 rfl)
  have HOL : Hid (∀ k, (.slice ao ws.length cp : Value).ownBlock = some k → k < w.heap.size) := Lib.hid (fun k e => (owns_blkT ho e).lt)
  have hlen8 : ws.length < 8 := by omega
  obtain ⟨wa0, hwa0⟩ : ∃ wa0, wdA n w0 q ws.length = wa0 := ⟨_, rfl⟩
  have HWD : Hid (∀ W : World, RegIs n w0 br be s W → Calls Try.prog 137 #[.pointer (some ⟨br, 0, none⟩), .int .i64 (q : Int), .int .i64 (ws.length : Int)] W fun e w' => e = .returned (.int .i64 (wa0 : Int)) ∧ ∃ m, w' = W.drewN m) := Lib.hid (fun W hW => by rw [← hwa0]; exact pin_word n w0 br be q ws.length s W hW hn hw0 (by omega) (by omega))
  rw [hwa0] at h0 hxe ⊢
  obtain ⟨L2, hL2⟩ : ∃ L2, ((Acc.rd wa0).run l c).2.1 = L2 := ⟨_, rfl⟩
  obtain ⟨C2, hC2⟩ : ∃ C2, ((Acc.rd wa0).run l c).2.2 = C2 := ⟨_, rfl⟩
  have HSW : Hid (∀ W : World, MemIs 139 W bm bw l c → Calls Try.prog 196 #[.pointer (some ⟨bm, 0, none⟩), .int .i64 (wa0 : Int)] W fun e w' => e = .returned (.int .u64 (x : Int)) ∧ MemIs 139 w' bm bw L2 C2 ∧ But bm bw W w') := Lib.hid (fun W hW => by
    have h := rd_acc (i := wa0) hW h0 hl hc
    unfold AccPost at h
    rw [hL2, hC2, hxe] at h
    exact h)
  rw [hL2, hC2]
  have HM := Lib.hid hM
  have HG : Hid (RowBlk 231 w g [.pointer (some ⟨br, 0, none⟩), .int .i64 (te : Int), .int .i64 (q : Int), .slice ao ws.length cp, .slice none 0 0, .func (.func 136) #[.pointer (some ⟨g, 0, none⟩)] #[]]) := Lib.hid hg
  have HR := Lib.hid hR.1
  have HE := Lib.hid hR.2
  have HO := Lib.hid ho
  have hmm := m_Read ⟨bm, 0, none⟩
  have hbm := hM.lt1
  have hbw := hM.lt2
  have hgl := hg.lt
  have hrl := hR.1.lt
  have hel := hR.2.lt
  have hgr : g ≠ br := row_ne hg hR.1 (by decide)
  have hge : g ≠ be := row_ne hg hR.2 (by decide)
  unfold turnAgg
  clear hM hg hR hL2 hC2 h0 hl hc hwa0 hxe ho hob 
  go_enter Try.func136, Try.ntmps136
  go_wp2_with fail
  have HMa : Hid (MemIs 139 ((w.alloc (.cells #[.iface 97 (.pointer (some ⟨bm, 0, none⟩)), .int .i64 (t : Int)] 113)).alloc (.cells #[.int .i64 0, .int .u64 0, .slice none 0 0] 39)) bm bw l c) := Lib.hid ((HM.out.alloc _).alloc _)
  have HTa : Hid (RowBlk 113 ((w.alloc (.cells #[.iface 97 (.pointer (some ⟨bm, 0, none⟩)), .int .i64 (t : Int)] 113)).alloc (.cells #[.int .i64 0, .int .u64 0, .slice none 0 0] 39)) w.heap.size [.iface 97 (.pointer (some ⟨bm, 0, none⟩)), .int .i64 (t : Int)]) := Lib.hid ((RowBlk.new w [.iface 97 (.pointer (some ⟨bm, 0, none⟩)), .int .i64 (t : Int)] 113).alloc _)
  have HAa : Hid (RowBlk 39 ((w.alloc (.cells #[.iface 97 (.pointer (some ⟨bm, 0, none⟩)), .int .i64 (t : Int)] 113)).alloc (.cells #[.int .i64 0, .int .u64 0, .slice none 0 0] 39)) (w.heap.size + 1) [.int .i64 0, .int .u64 0, .slice none 0 0]) := Lib.hid (by
    have h := RowBlk.new (w.alloc (.cells #[.iface 97 (.pointer (some ⟨bm, 0, none⟩)), .int .i64 (t : Int)] 113)) [.int .i64 0, .int .u64 0, .slice none 0 0] 39
    have e : (w.alloc (.cells #[.iface 97 (.pointer (some ⟨bm, 0, none⟩)), .int .i64 (t : Int)] 113)).heap.size = w.heap.size + 1 := by simp
    rw [e] at h; exact h)
  have HBa : Hid (ButS (fun b => b = bm ∨ b = bw ∨ (b = g ∨ (.slice ao ws.length cp : Value).ownBlock = some b)) w ((w.alloc (.cells #[.iface 97 (.pointer (some ⟨bm, 0, none⟩)), .int .i64 (t : Int)] 113)).alloc (.cells #[.int .i64 0, .int .u64 0, .slice none 0 0] 39))) := Lib.hid (((ButS.refl _ _).alloc _).alloc _)
  have HZa : Hid (((w.alloc (.cells #[.iface 97 (.pointer (some ⟨bm, 0, none⟩)), .int .i64 (t : Int)] 113)).alloc (.cells #[.int .i64 0, .int .u64 0, .slice none 0 0] 39)).heap.size = w.heap.size + 2) := Lib.hid (by simp)
  have HGa : Hid (RowBlk 231 ((w.alloc (.cells #[.iface 97 (.pointer (some ⟨bm, 0, none⟩)), .int .i64 (t : Int)] 113)).alloc (.cells #[.int .i64 0, .int .u64 0, .slice none 0 0] 39)) g [.pointer (some ⟨br, 0, none⟩), .int .i64 (te : Int), .int .i64 (q : Int), .slice ao ws.length cp, .slice none 0 0, .func (.func 136) #[.pointer (some ⟨g, 0, none⟩)] #[]]) := Lib.hid ((HG.out.alloc _).alloc _)
  have HRa : Hid (RowBlk 192 ((w.alloc (.cells #[.iface 97 (.pointer (some ⟨bm, 0, none⟩)), .int .i64 (t : Int)] 113)).alloc (.cells #[.int .i64 0, .int .u64 0, .slice none 0 0] 39)) br (RegVs n w0 be s)) := Lib.hid ((HR.out.alloc _).alloc _)
  have HEa : Hid (RowBlk 37 ((w.alloc (.cells #[.iface 97 (.pointer (some ⟨bm, 0, none⟩)), .int .i64 (t : Int)] 113)).alloc (.cells #[.int .i64 0, .int .u64 0, .slice none 0 0] 39)) be (s.ent.map (fun (x : Nat) => Value.int .u64 (x : Int)))) := Lib.hid ((HE.out.alloc _).alloc _)
  have HOa : Hid (((w.alloc (.cells #[.iface 97 (.pointer (some ⟨bm, 0, none⟩)), .int .i64 (t : Int)] 113)).alloc (.cells #[.int .i64 0, .int .u64 0, .slice none 0 0] 39)).ownsRow 0 37 1 (.slice ao ws.length cp) ws.length (ws.map mkU)) := Lib.hid ((HO.out.alloc _).alloc _)
  generalize ((w.alloc (.cells #[.iface 97 (.pointer (some ⟨bm, 0, none⟩)), .int .i64 (t : Int)] 113)).alloc (.cells #[.int .i64 0, .int .u64 0, .slice none 0 0] 39)) = wa at HMa HTa HAa HBa HZa HOa HGa HRa HEa ⊢
  have t0 : wa.cell? ⟨w.heap.size, 0, none⟩ = some (.iface 97 (.pointer (some ⟨bm, 0, none⟩))) := HTa.out.cell rfl
  have g0 : wa.cell? ⟨g, 0, none⟩ = some (.pointer (some ⟨br, 0, none⟩)) := HGa.out.cell rfl
  have g2 : wa.cell? ⟨g, 2, none⟩ = some (.int .i64 (q : Int)) := HGa.out.cell rfl
  have g3 : wa.cell? ⟨g, 3, none⟩ = some (.slice ao ws.length cp) := HGa.out.cell rfl
  refine wp_region_tail (S := (fun w' => w'.cell? ⟨w.heap.size, 0, none⟩ = some (.iface 97 (.pointer (some ⟨bm, 0, none⟩))) ∧ w'.cell? ⟨g, 0, none⟩ = some (.pointer (some ⟨br, 0, none⟩)) ∧ w'.cell? ⟨g, 2, none⟩ = some (.int .i64 (q : Int)) ∧ w'.cell? ⟨g, 3, none⟩ = some (.slice ao ws.length cp))) 26 (by kernel_rfl) (by kernel_rfl) ?_ (fun hHeld => ?_)
  · first | with_reducible exact ⟨t0, g0, g2, g3⟩ | go_keep
  simp only [List.take_succ_cons, List.take_zero]
  refine wpAnyH_take (i := 0) (oi := _) (v := ?v0) rfl (by kernel_rfl) (by kernel_rfl) (by kernel_rfl) (fun _ _ _ h => h) (Or.inl ⟨by kernel_rfl, ?vy0⟩) (by assumption) ?vr0
  case vy0 => (intro w hSw; (try dsimp only at hSw); go_simp <;> with_reducible rfl)
  try simp only [Act.put, List.getElem_toArray, List.getElem_cons_zero, List.getElem_cons_succ, List.setIfInBounds_toArray, List.set_cons_zero, List.set_cons_succ]
  refine wpAnyH_take (i := 1) (oi := _) (v := ?v1) rfl (by kernel_rfl) (by kernel_rfl) (by kernel_rfl) (fun _ _ _ h => h) (Or.inl ⟨by kernel_rfl, ?vy1⟩) (by assumption) ?vr1
  case vy1 => (intro w hSw; (try dsimp only at hSw); go_simp <;> with_reducible rfl)
  try simp only [Act.put, List.getElem_toArray, List.getElem_cons_zero, List.getElem_cons_succ, List.setIfInBounds_toArray, List.set_cons_zero, List.set_cons_succ]
  refine wpAnyH_take (i := 2) (oi := _) (v := ?v2) rfl (by kernel_rfl) (by kernel_rfl) (by kernel_rfl) (fun _ _ _ h => h) (Or.inl ⟨by kernel_rfl, ?vy2⟩) (by assumption) ?vr2
  case vy2 => (intro w hSw; (try dsimp only at hSw); go_simp <;> with_reducible rfl)
  try simp only [Act.put, List.getElem_toArray, List.getElem_cons_zero, List.getElem_cons_succ, List.setIfInBounds_toArray, List.set_cons_zero, List.set_cons_succ]
  refine wpAnyH_take (i := 3) (oi := _) (v := ?v3) rfl (by kernel_rfl) (by kernel_rfl) (by kernel_rfl) (fun _ _ _ h => h) (Or.inl ⟨by kernel_rfl, ?vy3⟩) (by assumption) ?vr3
  case vy3 => (intro w hSw; (try dsimp only at hSw); go_simp <;> with_reducible rfl)
  try simp only [Act.put, List.getElem_toArray, List.getElem_cons_zero, List.getElem_cons_succ, List.setIfInBounds_toArray, List.set_cons_zero, List.set_cons_succ]
  refine wpAnyH_take (i := 4) (oi := _) (v := ?v4) rfl (by kernel_rfl) (by kernel_rfl) (by kernel_rfl) (fun _ _ _ h => h) (Or.inl ⟨by kernel_rfl, ?vy4⟩) (by assumption) ?vr4
  case vy4 => (intro w hSw; (try dsimp only at hSw); go_simp <;> with_reducible rfl)
  try simp only [Act.put, List.getElem_toArray, List.getElem_cons_zero, List.getElem_cons_succ, List.setIfInBounds_toArray, List.set_cons_zero, List.set_cons_succ]
  refine wpAnyH_take (i := 5) (oi := _) (v := ?v5) rfl (by kernel_rfl) (by kernel_rfl) (by kernel_rfl) (fun _ _ _ h => h) (Or.inl ⟨by kernel_rfl, ?vy5⟩) (by assumption) ?vr5
  case vy5 => (intro w hSw; (try dsimp only at hSw); go_simp <;> with_reducible rfl)
  try simp only [Act.put, List.getElem_toArray, List.getElem_cons_zero, List.getElem_cons_succ, List.setIfInBounds_toArray, List.set_cons_zero, List.set_cons_succ]
  refine wpAnyH_take (i := 6) (oi := _) (v := ?v6) rfl (by kernel_rfl) (by kernel_rfl) (by kernel_rfl) (fun _ _ _ h => h) (Or.inl ⟨by kernel_rfl, ?vy6⟩) (by assumption) ?vr6
  case vy6 => (intro w hSw; (try dsimp only at hSw); go_simp <;> with_reducible rfl)
  try simp only [Act.put, List.getElem_toArray, List.getElem_cons_zero, List.getElem_cons_succ, List.setIfInBounds_toArray, List.set_cons_zero, List.set_cons_succ]
  refine wpAnyH_take (i := 7) (oi := _) (v := ?v7) rfl (by kernel_rfl) (by kernel_rfl) (by kernel_rfl) (fun _ _ _ h => h) (Or.inl ⟨by kernel_rfl, ?vy7⟩) (by assumption) ?vr7
  case vy7 => (intro w hSw; (try dsimp only at hSw); go_simp <;> with_reducible rfl)
  try simp only [Act.put, List.getElem_toArray, List.getElem_cons_zero, List.getElem_cons_succ, List.setIfInBounds_toArray, List.set_cons_zero, List.set_cons_succ]
  refine wpAnyH_take (i := 8) (oi := _) (v := ?v8) rfl (by kernel_rfl) (by kernel_rfl) (by kernel_rfl) (fun _ _ _ h => h) (Or.inl ⟨by kernel_rfl, ?vy8⟩) (by assumption) ?vr8
  case vy8 => (intro w hSw; (try dsimp only at hSw); go_simp <;> with_reducible rfl)
  try simp only [Act.put, List.getElem_toArray, List.getElem_cons_zero, List.getElem_cons_succ, List.setIfInBounds_toArray, List.set_cons_zero, List.set_cons_succ]
  refine wpAnyH_take (i := 9) (oi := _) (v := ?v9) rfl (by kernel_rfl) (by kernel_rfl) (by kernel_rfl) (fun _ _ _ h => h) (Or.inl ⟨by kernel_rfl, ?vy9⟩) (by assumption) ?vr9
  case vy9 => (intro w hSw; (try dsimp only at hSw); go_simp <;> with_reducible rfl)
  try simp only [Act.put, List.getElem_toArray, List.getElem_cons_zero, List.getElem_cons_succ, List.setIfInBounds_toArray, List.set_cons_zero, List.set_cons_succ]
  refine wpAnyH_take (i := 10) (oi := _) (v := ?v10) rfl (by kernel_rfl) (by kernel_rfl) (by kernel_rfl) (fun _ _ _ h => h) (Or.inl ⟨by kernel_rfl, ?vy10⟩) (by assumption) ?vr10
  case vy10 => (intro w hSw; (try dsimp only at hSw); go_simp <;> with_reducible rfl)
  try simp only [Act.put, List.getElem_toArray, List.getElem_cons_zero, List.getElem_cons_succ, List.setIfInBounds_toArray, List.set_cons_zero, List.set_cons_succ]
  refine wpAnyH_take (i := 11) (oi := _) (v := ?v11) rfl (by kernel_rfl) (by kernel_rfl) (by kernel_rfl) (fun _ _ _ h => h) (Or.inl ⟨by kernel_rfl, ?vy11⟩) (by assumption) ?vr11
  case vy11 => (intro w hSw; (try dsimp only at hSw); go_simp <;> with_reducible rfl)
  try simp only [Act.put, List.getElem_toArray, List.getElem_cons_zero, List.getElem_cons_succ, List.setIfInBounds_toArray, List.set_cons_zero, List.set_cons_succ]
  refine wpAnyH_take (i := 12) (oi := _) (v := ?v12) rfl (by kernel_rfl) (by kernel_rfl) (by kernel_rfl) (fun _ _ _ h => h) (Or.inl ⟨by kernel_rfl, ?vy12⟩) (by assumption) ?vr12
  case vy12 => (intro w hSw; (try dsimp only at hSw); go_simp <;> with_reducible rfl)
  try simp only [Act.put, List.getElem_toArray, List.getElem_cons_zero, List.getElem_cons_succ, List.setIfInBounds_toArray, List.set_cons_zero, List.set_cons_succ]
  refine wpAnyH_take (i := 13) (oi := _) (v := ?v13) rfl (by kernel_rfl) (by kernel_rfl) (by kernel_rfl) (fun _ _ _ h => h) (Or.inl ⟨by kernel_rfl, ?vy13⟩) (by assumption) ?vr13
  case vy13 => (intro w hSw; (try dsimp only at hSw); go_simp <;> with_reducible rfl)
  try simp only [Act.put, List.getElem_toArray, List.getElem_cons_zero, List.getElem_cons_succ, List.setIfInBounds_toArray, List.set_cons_zero, List.set_cons_succ]
  refine wpAnyH_take (i := 14) (oi := _) (v := ?v14) rfl (by kernel_rfl) (by kernel_rfl) (by kernel_rfl) (fun _ _ _ h => h) (Or.inl ⟨by kernel_rfl, ?vy14⟩) (by assumption) ?vr14
  case vy14 => (intro w hSw; (try dsimp only at hSw); go_simp <;> with_reducible rfl)
  try simp only [Act.put, List.getElem_toArray, List.getElem_cons_zero, List.getElem_cons_succ, List.setIfInBounds_toArray, List.set_cons_zero, List.set_cons_succ]
  refine wpAnyH_take (i := 15) (oi := _) (v := ?v15) rfl (by kernel_rfl) (by kernel_rfl) (by kernel_rfl) (fun _ _ _ h => h) (Or.inl ⟨by kernel_rfl, ?vy15⟩) (by assumption) ?vr15
  case vy15 => (intro w hSw; (try dsimp only at hSw); go_simp <;> with_reducible rfl)
  try simp only [Act.put, List.getElem_toArray, List.getElem_cons_zero, List.getElem_cons_succ, List.setIfInBounds_toArray, List.set_cons_zero, List.set_cons_succ]
  refine wpAnyH_take (i := 16) (oi := _) (v := ?v16) rfl (by kernel_rfl) (by kernel_rfl) (by kernel_rfl) (fun _ _ _ h => h) (Or.inl ⟨by kernel_rfl, ?vy16⟩) (by assumption) ?vr16
  case vy16 => (intro w hSw; (try dsimp only at hSw); go_simp <;> with_reducible rfl)
  try simp only [Act.put, List.getElem_toArray, List.getElem_cons_zero, List.getElem_cons_succ, List.setIfInBounds_toArray, List.set_cons_zero, List.set_cons_succ]
  refine wpAnyH_take (i := 17) (oi := _) (v := ?v17) rfl (by kernel_rfl) (by kernel_rfl) (by kernel_rfl) (fun _ _ _ h => h) (Or.inl ⟨by kernel_rfl, ?vy17⟩) (by assumption) ?vr17
  case vy17 => (intro w hSw; (try dsimp only at hSw); go_simp <;> with_reducible rfl)
  try simp only [Act.put, List.getElem_toArray, List.getElem_cons_zero, List.getElem_cons_succ, List.setIfInBounds_toArray, List.set_cons_zero, List.set_cons_succ]
  refine wpAnyH_take (i := 18) (oi := _) (v := ?v18) rfl (by kernel_rfl) (by kernel_rfl) (by kernel_rfl) (fun _ _ _ h => h) (Or.inl ⟨by kernel_rfl, ?vy18⟩) (by assumption) ?vr18
  case vy18 => (intro w hSw; (try dsimp only at hSw); go_simp <;> with_reducible rfl)
  try simp only [Act.put, List.getElem_toArray, List.getElem_cons_zero, List.getElem_cons_succ, List.setIfInBounds_toArray, List.set_cons_zero, List.set_cons_succ]
  refine wpAnyH_take (i := 19) (oi := _) (v := ?v19) rfl (by kernel_rfl) (by kernel_rfl) (by kernel_rfl) (fun _ _ _ h => h) (Or.inl ⟨by kernel_rfl, ?vy19⟩) (by assumption) ?vr19
  case vy19 => (intro w hSw; (try dsimp only at hSw); go_simp <;> with_reducible rfl)
  try simp only [Act.put, List.getElem_toArray, List.getElem_cons_zero, List.getElem_cons_succ, List.setIfInBounds_toArray, List.set_cons_zero, List.set_cons_succ]
  refine wpAnyH_take (i := 21) (oi := _) (v := ?v21) rfl (by kernel_rfl) (by kernel_rfl) (by kernel_rfl) (fun _ _ _ h => h) (Or.inl ⟨by kernel_rfl, ?vy21⟩) (by assumption) ?vr21
  case vy21 => (intro w hSw; (try dsimp only at hSw); go_simp <;> with_reducible rfl)
  try simp only [Act.put, List.getElem_toArray, List.getElem_cons_zero, List.getElem_cons_succ, List.setIfInBounds_toArray, List.set_cons_zero, List.set_cons_succ]
  refine wpAnyH_take (i := 22) (oi := _) (v := ?v22) rfl (by kernel_rfl) (by kernel_rfl) (by kernel_rfl) (fun _ _ _ h => h) (Or.inl ⟨by kernel_rfl, ?vy22⟩) (by assumption) ?vr22
  case vy22 => (intro w hSw; (try dsimp only at hSw); go_simp <;> with_reducible rfl)
  try simp only [Act.put, List.getElem_toArray, List.getElem_cons_zero, List.getElem_cons_succ, List.setIfInBounds_toArray, List.set_cons_zero, List.set_cons_succ]
  refine wpAnyH_ready (rs := [20]) (by kernel_rfl) (by simp) ?_
  refine AllReadyH.cons (o := _) rfl (fun K hK => ?_) AllReadyH.nil
  go_simp
  go_at_call 137
  refine (HWD.out _ ⟨HRa.out.drew, HEa.out.drew⟩).mono ?_
  rintro e w4 ⟨rfl, md, rfl⟩
  refine hK.out _ _ ?_ (fun hHeld20 => ?_)
  · first | with_reducible exact ⟨t0, g0, g2, g3⟩ | go_keep
  clear hK K hHeld
  try simp only [Act.put, List.getElem_toArray, List.getElem_cons_zero, List.getElem_cons_succ, List.setIfInBounds_toArray, List.set_cons_zero, List.set_cons_succ]
  refine wpAnyH_ready (rs := [23]) (by kernel_rfl) (by simp) ?_
  refine AllReadyH.cons (o := _) rfl (fun K hK => ?_) AllReadyH.nil
  go_simp
  go_at_call 196
  refine (HSW.out _ (HMa.out.drewN _)).mono ?_
  rintro e w4 ⟨rfl, hM4, hB4⟩
  have HG4 := Lib.hid ((HGa.out.drewN _).same (hB4.block (g) HGa.out.lt hgm hgw))
  have HR4 := Lib.hid ((HRa.out.drewN _).same (hB4.block (br) HRa.out.lt hrm hrw))
  have HE4 := Lib.hid ((HEa.out.drewN _).same (hB4.block (be) HEa.out.lt hem hew))
  have HT4 := Lib.hid ((HTa.out.drewN _).same (hB4.block (w.heap.size) HTa.out.lt (by omega) (by omega)))
  have HA4 := Lib.hid ((HAa.out.drewN _).same (hB4.block (w.heap.size + 1) HAa.out.lt (by omega) (by omega)))
  have HM4 := Lib.hid hM4
  have HB4 : Hid (ButS (fun b => b = bm ∨ b = bw ∨ (b = g ∨ (.slice ao ws.length cp : Value).ownBlock = some b)) w w4) := Lib.hid ((HBa.out.drewN _).trans (ButS.of_but hB4 (.inl rfl) (.inr (.inl rfl))))
  have HO4 : Hid (w4.ownsRow 0 37 1 (.slice ao ws.length cp) ws.length (ws.map mkU)) := Lib.hid (owns_sameB HOa.out (fun k hk => hB4.block k (Nat.lt_of_lt_of_le (HOL.out k hk) (by have := HZa.out; show w.heap.size ≤ wa.heap.size; omega)) (fun h => HOM.out (h ▸ hk)) (fun h => HOW.out (h ▸ hk))))
  have HS4 : Hid (w.heap.size + 2 ≤ w4.heap.size) := Lib.hid (by have h1 := HZa.out; have h2 : wa.heap.size ≤ w4.heap.size := hB4.size; omega)
  have g3b : (w4.alloc (.cells #[.int .u64 (x : Int)] 37)).cell? ⟨g, 3, none⟩ = some (.slice ao ws.length cp) := (HG4.out.alloc _).cell rfl
  have t0 : w4.cell? ⟨w.heap.size, 0, none⟩ = some (.iface 97 (.pointer (some ⟨bm, 0, none⟩))) := HT4.out.cell rfl
  have g0 : w4.cell? ⟨g, 0, none⟩ = some (.pointer (some ⟨br, 0, none⟩)) := HG4.out.cell rfl
  have g2 : w4.cell? ⟨g, 2, none⟩ = some (.int .i64 (q : Int)) := HG4.out.cell rfl
  have g3 : w4.cell? ⟨g, 3, none⟩ = some (.slice ao ws.length cp) := HG4.out.cell rfl
  clear hM4 hB4
  refine hK.out _ _ ?_ (fun hHeld23 => ?_)
  · first | with_reducible exact ⟨t0, g0, g2, g3⟩ | go_keep
  clear hK K hHeld20
  try simp only [Act.put, List.getElem_toArray, List.getElem_cons_zero, List.getElem_cons_succ, List.setIfInBounds_toArray, List.set_cons_zero, List.set_cons_succ]
  refine wpAnyH_ready (rs := [24]) (by kernel_rfl) (by simp) ?_
  refine AllReadyH.cons (o := _) rfl (fun K hK => ?_) AllReadyH.nil
  go_simp
  refine hK.out _ _ ?_ (fun hHeld24 => ?_)
  · first | with_reducible exact ⟨t0, g0, g2, g3⟩ | exact ⟨(HT4.out.alloc _).cell rfl, (HG4.out.alloc _).cell rfl, (HG4.out.alloc _).cell rfl, (HG4.out.alloc _).cell rfl⟩ | go_keep
  clear hK K hHeld23
  try simp only [Act.put, List.getElem_toArray, List.getElem_cons_zero, List.getElem_cons_succ, List.setIfInBounds_toArray, List.set_cons_zero, List.set_cons_succ]
  refine wpAnyH_ready (rs := [25]) (by kernel_rfl) (by simp) ?_
  refine AllReadyH.cons (o := _) rfl (fun K hK => ?_) AllReadyH.nil
  refine step_append_lies (w4.alloc (.cells #[.int .u64 (x : Int)] 37)) rfl _ _ 28 rfl 0 37 iU (.int .u64 0) 1 8 Try.underlying28 ua ub uc ud rfl (by decide) (.slice ao ws.length cp) ws.length (ws.map mkU) rfl (HO4.out.alloc _) ⟨w4.heap.size, 0, none⟩ 1 1 [.int .u64 (x : Int)] rfl rfl (cell_one_new w4 _ _) (by intro u hu; rw [List.mem_singleton] at hu; subst hu; rfl) (by decide) (by unfold maxLen; omega) (by omega) (Nat.zero_le _) (w4.heap.size + 1) (by simp) ?_
  intro gl cap w5 ho5 hg5 hat5 hl5
  have hS4 := HS4.out
  have hblk : ∀ k, k < w4.heap.size → (.slice ao ws.length cp : Value).ownBlock ≠ some k → w5.heap[k]? = (w4.alloc (.cells #[.int .u64 (x : Int)] 37)).heap[k]? := fun k hk hne => hg5.block k (by simp; omega) (fun e => hne e.symm)
  have HG5 := Lib.hid ((HG4.out.alloc (.cells #[.int .u64 (x : Int)] 37)).same (hblk g HG4.out.lt HOG.out))
  have HR5 := Lib.hid ((HR4.out.alloc (.cells #[.int .u64 (x : Int)] 37)).same (hblk br HR4.out.lt HOR.out))
  have HE5 := Lib.hid ((HE4.out.alloc (.cells #[.int .u64 (x : Int)] 37)).same (hblk be HE4.out.lt HOE.out))
  have HT5 := Lib.hid ((HT4.out.alloc (.cells #[.int .u64 (x : Int)] 37)).same (hblk w.heap.size HT4.out.lt (fun e => by have := HOL.out _ e; omega)))
  have HA5 := Lib.hid ((HA4.out.alloc (.cells #[.int .u64 (x : Int)] 37)).same (hblk (w.heap.size + 1) HA4.out.lt (fun e => by have := HOL.out _ e; omega)))
  have HM5 := Lib.hid ((HM4.out.alloc (.cells #[.int .u64 (x : Int)] 37)).of_blocks (hblk bm HM4.out.lt1 HOM.out) (hblk bw HM4.out.lt2 HOW.out))
  have HB5 : Hid (ButS (fun b => b = bm ∨ b = bw ∨ (b = g ∨ (.slice ao ws.length cp : Value).ownBlock = some b)) w w5) := Lib.hid ((HB4.out.alloc _).trans (ButS.of_grown hg5 (fun k hk => .inr (.inr (.inr hk)))))
  have HO5 : Hid (w5.ownsRow 0 37 1 (.slice (some ⟨gl, 0, none⟩) (ws.length + 1) cap) (ws.length + 1) ((ws ++ [x]).map mkU)) := Lib.hid (by rw [List.map_append]; exact ho5)
  have HAT5 : Hid ((.slice ao ws.length cp : Value).ownBlock = some gl ∨ w.heap.size + 2 ≤ gl) := Lib.hid (hat5.imp id (fun h => by omega))
  have HL5 := Lib.hid hl5
  have HP5 : Hid (∀ v : Value, (w5.setCell ⟨g, 3, none⟩ v).cell? ⟨w.heap.size, 0, none⟩ = some (.iface 97 (.pointer (some ⟨bm, 0, none⟩))) ∧ (w5.setCell ⟨g, 3, none⟩ v).cell? ⟨g, 0, none⟩ = some (.pointer (some ⟨br, 0, none⟩)) ∧ (w5.setCell ⟨g, 3, none⟩ v).cell? ⟨g, 2, none⟩ = some (.int .i64 (q : Int))) := Lib.hid (fun v => ⟨(HT5.out.other (a := ⟨g, 3, none⟩) (show w.heap.size ≠ g by omega) v).cell rfl, (HG5.out.put 3 v).cell rfl, (HG5.out.put 3 v).cell rfl⟩)
  have fz5 : ∀ j, w5.frozen? ⟨g, j, none⟩ = false := fun j => HG5.out.free
  have t0 : w5.cell? ⟨w.heap.size, 0, none⟩ = some (.iface 97 (.pointer (some ⟨bm, 0, none⟩))) := HT5.out.cell rfl
  have g0 : w5.cell? ⟨g, 0, none⟩ = some (.pointer (some ⟨br, 0, none⟩)) := HG5.out.cell rfl
  have g2 : w5.cell? ⟨g, 2, none⟩ = some (.int .i64 (q : Int)) := HG5.out.cell rfl
  have g3 : w5.cell? ⟨g, 3, none⟩ = some (.slice ao ws.length cp) := HG5.out.cell rfl
  clear ho5 hg5 hat5 hl5 hS4 hblk
  refine hK.out _ _ ?_ (fun hHeld25 => ?_)
  · first | with_reducible exact ⟨t0, g0, g2, g3⟩ | go_keep
  clear hK K hHeld24
  try simp only [Act.put, List.getElem_toArray, List.getElem_cons_zero, List.getElem_cons_succ, List.setIfInBounds_toArray, List.set_cons_zero, List.set_cons_succ]
  refine wpAnyH_done (by kernel_rfl) ?_ _
  dsimp only [tailQ]
  simp only [List.drop_succ_cons, List.drop_zero, List.take_succ_cons, List.take_zero, List.getElem_cons_succ, List.getElem_cons_zero, List.set_cons_zero, List.set_cons_succ]
  go_wp2_with fail
  skip
  clear hHeld25 t0 g0 g2 g3 g3b
  have n1 : g ≠ w.heap.size + 1 := by omega
  have n2 : w.heap.size + 1 ≠ g := by omega
  have HGL1 : Hid (gl ≠ g) := Lib.hid (fun e => HAT5.out.elim (fun h => HOG.out (e ▸ h)) (fun h => by omega))
  have HGL2 : Hid (gl ≠ w.heap.size + 1) := Lib.hid (fun e => HAT5.out.elim (fun h => by have := HOL.out _ h; omega) (fun h => by omega))
  have HG5b : Hid (RowBlk 231 (w5.setCell ⟨g, 3, none⟩ (.slice (some ⟨gl, 0, none⟩) (ws.length + 1) cap)) g [.pointer (some ⟨br, 0, none⟩), .int .i64 (te : Int), .int .i64 (q : Int), .slice (some ⟨gl, 0, none⟩) (ws.length + 1) cap, .slice none 0 0, .func (.func 136) #[.pointer (some ⟨g, 0, none⟩)] #[]]) := Lib.hid (HG5.out.put 3 _)
  have HR5b := Lib.hid (HR5.out.other (a := ⟨g, 3, none⟩) (show br ≠ g from fun e => hgr e.symm) (.slice (some ⟨gl, 0, none⟩) (ws.length + 1) cap))
  have g0 : (w5.setCell ⟨g, 3, none⟩ (.slice (some ⟨gl, 0, none⟩) (ws.length + 1) cap)).cell? ⟨g, 0, none⟩ = some (.pointer (some ⟨br, 0, none⟩)) := HG5b.out.cell rfl
  have g3 : (w5.setCell ⟨g, 3, none⟩ (.slice (some ⟨gl, 0, none⟩) (ws.length + 1) cap)).cell? ⟨g, 3, none⟩ = some (.slice (some ⟨gl, 0, none⟩) (ws.length + 1) cap) := HG5b.out.cell rfl
  have r0 : (w5.setCell ⟨g, 3, none⟩ (.slice (some ⟨gl, 0, none⟩) (ws.length + 1) cap)).cell? ⟨br, 0, none⟩ = some (.int .i64 ((w0 : Int))) := HR5b.out.cell rfl
  clear fz5
  have hjl2 : ¬ (ws.length : Int) + 1 = (w0 : Int) := by omega
  have hjl3 : ((ws.length : Int) + 1 == (w0 : Int)) = false := by rw [beq_eq_false_iff_ne]; exact hjl2
  go_quiet (fail)
  have HG6 : Hid (RowBlk 231 ((w5.setCell ⟨g, 3, none⟩ (.slice (some ⟨gl, 0, none⟩) (ws.length + 1) cap)).drewN nq) g [.pointer (some ⟨br, 0, none⟩), .int .i64 (te : Int), .int .i64 (q : Int), .slice (some ⟨gl, 0, none⟩) (ws.length + 1) cap, .slice none 0 0, .func (.func 136) #[.pointer (some ⟨g, 0, none⟩)] #[]]) := Lib.hid (HG5b.out.drewN nq)
  have HA6 : Hid (RowBlk 39 ((w5.setCell ⟨g, 3, none⟩ (.slice (some ⟨gl, 0, none⟩) (ws.length + 1) cap)).drewN nq) (w.heap.size + 1) [.int .i64 0, .int .u64 0, .slice none 0 0]) := Lib.hid ((HA5.out.other (a := ⟨g, 3, none⟩) n2 _).drewN nq)
  have HM6 : Hid (MemIs 139 ((w5.setCell ⟨g, 3, none⟩ (.slice (some ⟨gl, 0, none⟩) (ws.length + 1) cap)).drewN nq) bm bw L2 C2) := Lib.hid ((HM5.out.setNew _ _ hgm hgw).drewN nq)
  have HB6 : Hid (ButS (fun b => b = bm ∨ b = bw ∨ (b = g ∨ (.slice ao ws.length cp : Value).ownBlock = some b)) w ((w5.setCell ⟨g, 3, none⟩ (.slice (some ⟨gl, 0, none⟩) (ws.length + 1) cap)).drewN nq)) := Lib.hid ((HB5.out.setCell (.inl (.inr (.inr (.inl rfl)))) _).drewN nq)
  have HO6 : Hid (((w5.setCell ⟨g, 3, none⟩ (.slice (some ⟨gl, 0, none⟩) (ws.length + 1) cap)).drewN nq).ownsRow 0 37 1 (.slice (some ⟨gl, 0, none⟩) (ws.length + 1) cap) (ws.length + 1) ((ws ++ [x]).map mkU)) := Lib.hid (owns_sameB HO5.out (fun k hk => by cases hk; exact heap_far HGL1.out))
  have HL6 : Hid (gl < ((w5.setCell ⟨g, 3, none⟩ (.slice (some ⟨gl, 0, none⟩) (ws.length + 1) cap)).drewN nq).heap.size) := Lib.hid (by have h1 := HL5.out; simpa [World.setCell] using h1)
  generalize ((w5.setCell ⟨g, 3, none⟩ (.slice (some ⟨gl, 0, none⟩) (ws.length + 1) cap)).drewN nq) = w6 at HG6 HA6 HM6 HB6 HO6 HL6 ⊢
  clear g0 g3 r0
  have a0 : w6.cell? ⟨w.heap.size + 1, 0, none⟩ = some (.int .i64 0) := HA6.out.cell rfl
  have a1 : w6.cell? ⟨w.heap.size + 1, 1, none⟩ = some (.int .u64 0) := HA6.out.cell rfl
  have a2 : w6.cell? ⟨w.heap.size + 1, 2, none⟩ = some (.slice none 0 0) := HA6.out.cell rfl
  have z0 : ∀ j, w6.frozen? ⟨w.heap.size + 1, j, none⟩ = false := fun j => HA6.out.free
  have HX : Hid (RowBlk 39 (((w6.setCell ⟨w.heap.size + 1, 0, none⟩ (.int .i64 0)).setCell ⟨w.heap.size + 1, 1, none⟩ (.int .u64 0)).setCell ⟨w.heap.size + 1, 2, none⟩ (.slice none 0 0)) (w.heap.size + 1) [.int .i64 0, .int .u64 0, .slice none 0 0] ∧ RowBlk 231 (((w6.setCell ⟨w.heap.size + 1, 0, none⟩ (.int .i64 0)).setCell ⟨w.heap.size + 1, 1, none⟩ (.int .u64 0)).setCell ⟨w.heap.size + 1, 2, none⟩ (.slice none 0 0)) g [.pointer (some ⟨br, 0, none⟩), .int .i64 (te : Int), .int .i64 (q : Int), .slice (some ⟨gl, 0, none⟩) (ws.length + 1) cap, .slice none 0 0, .func (.func 136) #[.pointer (some ⟨g, 0, none⟩)] #[]] ∧ MemIs 139 (((w6.setCell ⟨w.heap.size + 1, 0, none⟩ (.int .i64 0)).setCell ⟨w.heap.size + 1, 1, none⟩ (.int .u64 0)).setCell ⟨w.heap.size + 1, 2, none⟩ (.slice none 0 0)) bm bw L2 C2 ∧ ButS (fun b => b = bm ∨ b = bw ∨ (b = g ∨ (.slice ao ws.length cp : Value).ownBlock = some b)) w (((w6.setCell ⟨w.heap.size + 1, 0, none⟩ (.int .i64 0)).setCell ⟨w.heap.size + 1, 1, none⟩ (.int .u64 0)).setCell ⟨w.heap.size + 1, 2, none⟩ (.slice none 0 0)) ∧ (((w6.setCell ⟨w.heap.size + 1, 0, none⟩ (.int .i64 0)).setCell ⟨w.heap.size + 1, 1, none⟩ (.int .u64 0)).setCell ⟨w.heap.size + 1, 2, none⟩ (.slice none 0 0)).ownsRow 0 37 1 (.slice (some ⟨gl, 0, none⟩) (ws.length + 1) cap) (ws.length + 1) ((ws ++ [x]).map mkU) ∧ gl < (((w6.setCell ⟨w.heap.size + 1, 0, none⟩ (.int .i64 0)).setCell ⟨w.heap.size + 1, 1, none⟩ (.int .u64 0)).setCell ⟨w.heap.size + 1, 2, none⟩ (.slice none 0 0)).heap.size) := Lib.hid
    ⟨(((HA6.out.put 0 _).put 1 _).put 2 _), (((HG6.out.other (a := ⟨w.heap.size + 1, 0, none⟩) n1 _).other (a := ⟨w.heap.size + 1, 1, none⟩) n1 _).other (a := ⟨w.heap.size + 1, 2, none⟩) n1 _), (((HM6.out.setNew _ _ (by omega) (by omega)).setNew _ _ (by omega) (by omega)).setNew _ _ (by omega) (by omega)), (((HB6.out.setCell (x := ⟨w.heap.size + 1, 0, none⟩) (.inr (by show w.heap.size ≤ w.heap.size + 1; omega)) _).setCell (x := ⟨w.heap.size + 1, 1, none⟩) (.inr (by show w.heap.size ≤ w.heap.size + 1; omega)) _).setCell (x := ⟨w.heap.size + 1, 2, none⟩) (.inr (by show w.heap.size ≤ w.heap.size + 1; omega)) _), (owns_sameB HO6.out (fun k hk => by obtain rfl : gl = k := Option.some.inj hk; rw [heap_far (show gl ≠ w.heap.size + 1 from HGL2.out), heap_far (show gl ≠ w.heap.size + 1 from HGL2.out), heap_far (show gl ≠ w.heap.size + 1 from HGL2.out)])), by have h1 := HL6.out; simpa [World.setCell] using h1⟩
  go_wp2_with fail
  generalize (((w6.setCell ⟨w.heap.size + 1, 0, none⟩ (.int .i64 0)).setCell ⟨w.heap.size + 1, 1, none⟩ (.int .u64 0)).setCell ⟨w.heap.size + 1, 2, none⟩ (.slice none 0 0)) = W5 at HX ⊢
  have q0 := HX.out.1.cell (i := 0) rfl
  have q1 := HX.out.1.cell (i := 1) rfl
  have q2 := HX.out.1.cell (i := 2) rfl
  exact bodyPost_ret (v := .tuple #[.agg #[.int .i64 0, .int .u64 0, .slice none 0 0], .bool false]) (by simp [results, Try.results136, go_sem, q0, q1, q2]) rfl ⟨rfl, HX.out.2.2.1, HX.out.2.2.2.1, gl, cap, HX.out.2.1, HX.out.2.2.2.2.1, HAT5.out.imp id (fun h => by omega), HX.out.2.2.2.2.2⟩
set_option maxRecDepth 100000 in
set_option maxHeartbeats 2000000 in
theorem pin_takeL (n w0 br be g bm bw te q x : Nat) (s : PinS) (ao : Option Addr) (cp : Nat) (ws : List Nat) (l : List Nat) (c : Cn) (t : Nat) (w : World) (hM : MemIs 139 w bm bw l c) (hR : RegIs n w0 br be s w) (hg : RowBlk 231 w g (RdVs br te q (.slice ao ws.length cp) (.slice none 0 0) g 136)) (ho : w.ownsRow 0 37 1 (.slice ao ws.length cp) ws.length (ws.map mkU)) (hob : ∀ k, (.slice ao ws.length cp : Value).ownBlock = some k → k ≠ be ∧ k ≠ bw) (hq : q ≤ n) (hn : n ≤ 16) (hw0 : w0 ≤ 8) (hj : ws.length < w0) (hjl : ws.length + 1 = w0) (h0 : wdA n w0 q ws.length < l.length) (hl : l.length ≤ 65536) (hc : c.r < 9223372036854775807) (hxe : l.getD (wdA n w0 q ws.length) 0 = x) (hew : be ≠ bw) :
    Calls Try.prog 136 #[.pointer (some ⟨g, 0, none⟩), turnAgg bm (t : Int)] w (PinTook br te q g 139 x (.slice ao ws.length cp) ws ((Acc.rd (wdA n w0 q ws.length)).run l c).2.1 ((Acc.rd (wdA n w0 q ws.length)).run l c).2.2 bm bw w) := by
  obtain rfl : w0 = ws.length + 1 := hjl.symm
  have hmf : ∀ (fn : Fn) (first cap : Array Value) (w : World), (Instr.makeFunc fn first cap).run Try.prog w = .ok (.func fn first cap) w := fun _ _ _ _ => rfl
  have hgm : g ≠ bm := by intro e; have h1 := hg; have h2 := hM.1; unfold RowBlk at h1; rw [e, h2] at h1; simp at h1
  have hgw : g ≠ bw := by intro e; have h1 := hg; have h2 := hM.2.1; unfold RowBlk at h1; rw [e, h2] at h1; simp at h1
  have hrm : br ≠ bm := by intro e; have h1 := hR.1; have h2 := hM.1; unfold RowBlk at h1; rw [e, h2] at h1; simp at h1
  have hrw : br ≠ bw := by intro e; have h1 := hR.1; have h2 := hM.2.1; unfold RowBlk at h1; rw [e, h2] at h1; simp at h1
  obtain ⟨iU, ua, ub, uc, ud⟩ := info_parts info22
  have hem : be ≠ bm := by intro e; have h1 := hR.2; have h2 := hM.1; unfold RowBlk at h1; rw [e, h2] at h1; simp at h1
  have HOG : Hid ((.slice ao ws.length cp : Value).ownBlock ≠ some g) := Lib.hid (row_owns_ne hg ho (by decide))
  have HOR : Hid ((.slice ao ws.length cp : Value).ownBlock ≠ some br) := Lib.hid (row_owns_ne hR.1 ho (by decide))
  have HOM : Hid ((.slice ao ws.length cp : Value).ownBlock ≠ some bm) := Lib.hid (fun e => by obtain ⟨cur, h1⟩ := owns_blkT ho e; rw [hM.1] at h1; simp at h1)
  have HOE : Hid ((.slice ao ws.length cp : Value).ownBlock ≠ some be) := Lib.hid (fun e => (hob _ e).1 rfl)
  have HOW : Hid ((.slice ao ws.length cp : Value).ownBlock ≠ some bw) := Lib.hid (fun e => (hob _ e).2 rfl)
  have HOL : Hid (∀ k, (.slice ao ws.length cp : Value).ownBlock = some k → k < w.heap.size) := Lib.hid (fun k e => (owns_blkT ho e).lt)
  have hlen8 : ws.length < 8 := by omega
  obtain ⟨wa0, hwa0⟩ : ∃ wa0, wdA n (ws.length + 1) q ws.length = wa0 := ⟨_, rfl⟩
  have HWD : Hid (∀ W : World, RegIs n (ws.length + 1) br be s W → Calls Try.prog 137 #[.pointer (some ⟨br, 0, none⟩), .int .i64 (q : Int), .int .i64 (ws.length : Int)] W fun e w' => e = .returned (.int .i64 (wa0 : Int)) ∧ ∃ m, w' = W.drewN m) := Lib.hid (fun W hW => by rw [← hwa0]; exact pin_word n (ws.length + 1) br be q ws.length s W hW hn hw0 (by omega) (by omega))
  rw [hwa0] at h0 hxe ⊢
  obtain ⟨L2, hL2⟩ : ∃ L2, ((Acc.rd wa0).run l c).2.1 = L2 := ⟨_, rfl⟩
  obtain ⟨C2, hC2⟩ : ∃ C2, ((Acc.rd wa0).run l c).2.2 = C2 := ⟨_, rfl⟩
  have HSW : Hid (∀ W : World, MemIs 139 W bm bw l c → Calls Try.prog 196 #[.pointer (some ⟨bm, 0, none⟩), .int .i64 (wa0 : Int)] W fun e w' => e = .returned (.int .u64 (x : Int)) ∧ MemIs 139 w' bm bw L2 C2 ∧ But bm bw W w') := Lib.hid (fun W hW => by
    have h := rd_acc (i := wa0) hW h0 hl hc
    unfold AccPost at h
    rw [hL2, hC2, hxe] at h
    exact h)
  rw [hL2, hC2]
  have HM := Lib.hid hM
  have HG : Hid (RowBlk 231 w g [.pointer (some ⟨br, 0, none⟩), .int .i64 (te : Int), .int .i64 (q : Int), .slice ao ws.length cp, .slice none 0 0, .func (.func 136) #[.pointer (some ⟨g, 0, none⟩)] #[]]) := Lib.hid hg
  have HR := Lib.hid hR.1
  have HE := Lib.hid hR.2
  have HO := Lib.hid ho
  have hmm := m_Read ⟨bm, 0, none⟩
  have hbm := hM.lt1
  have hbw := hM.lt2
  have hgl := hg.lt
  have hrl := hR.1.lt
  have hel := hR.2.lt
  have hgr : g ≠ br := row_ne hg hR.1 (by decide)
  have hge : g ≠ be := row_ne hg hR.2 (by decide)
  unfold turnAgg
  clear hM hg hR hL2 hC2 h0 hl hc hwa0 hxe ho hob hjl
  go_enter Try.func136, Try.ntmps136
  go_wp2_with fail
  have HMa : Hid (MemIs 139 ((w.alloc (.cells #[.iface 97 (.pointer (some ⟨bm, 0, none⟩)), .int .i64 (t : Int)] 113)).alloc (.cells #[.int .i64 0, .int .u64 0, .slice none 0 0] 39)) bm bw l c) := Lib.hid ((HM.out.alloc _).alloc _)
  have HTa : Hid (RowBlk 113 ((w.alloc (.cells #[.iface 97 (.pointer (some ⟨bm, 0, none⟩)), .int .i64 (t : Int)] 113)).alloc (.cells #[.int .i64 0, .int .u64 0, .slice none 0 0] 39)) w.heap.size [.iface 97 (.pointer (some ⟨bm, 0, none⟩)), .int .i64 (t : Int)]) := Lib.hid ((RowBlk.new w [.iface 97 (.pointer (some ⟨bm, 0, none⟩)), .int .i64 (t : Int)] 113).alloc _)
  have HAa : Hid (RowBlk 39 ((w.alloc (.cells #[.iface 97 (.pointer (some ⟨bm, 0, none⟩)), .int .i64 (t : Int)] 113)).alloc (.cells #[.int .i64 0, .int .u64 0, .slice none 0 0] 39)) (w.heap.size + 1) [.int .i64 0, .int .u64 0, .slice none 0 0]) := Lib.hid (by
    have h := RowBlk.new (w.alloc (.cells #[.iface 97 (.pointer (some ⟨bm, 0, none⟩)), .int .i64 (t : Int)] 113)) [.int .i64 0, .int .u64 0, .slice none 0 0] 39
    have e : (w.alloc (.cells #[.iface 97 (.pointer (some ⟨bm, 0, none⟩)), .int .i64 (t : Int)] 113)).heap.size = w.heap.size + 1 := by simp
    rw [e] at h; exact h)
  have HBa : Hid (ButS (fun b => b = bm ∨ b = bw ∨ (b = g ∨ (.slice ao ws.length cp : Value).ownBlock = some b)) w ((w.alloc (.cells #[.iface 97 (.pointer (some ⟨bm, 0, none⟩)), .int .i64 (t : Int)] 113)).alloc (.cells #[.int .i64 0, .int .u64 0, .slice none 0 0] 39))) := Lib.hid (((ButS.refl _ _).alloc _).alloc _)
  have HZa : Hid (((w.alloc (.cells #[.iface 97 (.pointer (some ⟨bm, 0, none⟩)), .int .i64 (t : Int)] 113)).alloc (.cells #[.int .i64 0, .int .u64 0, .slice none 0 0] 39)).heap.size = w.heap.size + 2) := Lib.hid (by simp)
  have HGa : Hid (RowBlk 231 ((w.alloc (.cells #[.iface 97 (.pointer (some ⟨bm, 0, none⟩)), .int .i64 (t : Int)] 113)).alloc (.cells #[.int .i64 0, .int .u64 0, .slice none 0 0] 39)) g [.pointer (some ⟨br, 0, none⟩), .int .i64 (te : Int), .int .i64 (q : Int), .slice ao ws.length cp, .slice none 0 0, .func (.func 136) #[.pointer (some ⟨g, 0, none⟩)] #[]]) := Lib.hid ((HG.out.alloc _).alloc _)
  have HRa : Hid (RowBlk 192 ((w.alloc (.cells #[.iface 97 (.pointer (some ⟨bm, 0, none⟩)), .int .i64 (t : Int)] 113)).alloc (.cells #[.int .i64 0, .int .u64 0, .slice none 0 0] 39)) br (RegVs n (ws.length + 1) be s)) := Lib.hid ((HR.out.alloc _).alloc _)
  have HEa : Hid (RowBlk 37 ((w.alloc (.cells #[.iface 97 (.pointer (some ⟨bm, 0, none⟩)), .int .i64 (t : Int)] 113)).alloc (.cells #[.int .i64 0, .int .u64 0, .slice none 0 0] 39)) be (s.ent.map (fun (x : Nat) => Value.int .u64 (x : Int)))) := Lib.hid ((HE.out.alloc _).alloc _)
  have HOa : Hid (((w.alloc (.cells #[.iface 97 (.pointer (some ⟨bm, 0, none⟩)), .int .i64 (t : Int)] 113)).alloc (.cells #[.int .i64 0, .int .u64 0, .slice none 0 0] 39)).ownsRow 0 37 1 (.slice ao ws.length cp) ws.length (ws.map mkU)) := Lib.hid ((HO.out.alloc _).alloc _)
  generalize ((w.alloc (.cells #[.iface 97 (.pointer (some ⟨bm, 0, none⟩)), .int .i64 (t : Int)] 113)).alloc (.cells #[.int .i64 0, .int .u64 0, .slice none 0 0] 39)) = wa at HMa HTa HAa HBa HZa HOa HGa HRa HEa ⊢
  have t0 : wa.cell? ⟨w.heap.size, 0, none⟩ = some (.iface 97 (.pointer (some ⟨bm, 0, none⟩))) := HTa.out.cell rfl
  have g0 : wa.cell? ⟨g, 0, none⟩ = some (.pointer (some ⟨br, 0, none⟩)) := HGa.out.cell rfl
  have g2 : wa.cell? ⟨g, 2, none⟩ = some (.int .i64 (q : Int)) := HGa.out.cell rfl
  have g3 : wa.cell? ⟨g, 3, none⟩ = some (.slice ao ws.length cp) := HGa.out.cell rfl
  refine wp_region_tail (S := (fun w' => w'.cell? ⟨w.heap.size, 0, none⟩ = some (.iface 97 (.pointer (some ⟨bm, 0, none⟩))) ∧ w'.cell? ⟨g, 0, none⟩ = some (.pointer (some ⟨br, 0, none⟩)) ∧ w'.cell? ⟨g, 2, none⟩ = some (.int .i64 (q : Int)) ∧ w'.cell? ⟨g, 3, none⟩ = some (.slice ao ws.length cp))) 26 (by kernel_rfl) (by kernel_rfl) ?_ (fun hHeld => ?_)
  · first | with_reducible exact ⟨t0, g0, g2, g3⟩ | go_keep
  simp only [List.take_succ_cons, List.take_zero]
  refine wpAnyH_take (i := 0) (oi := _) (v := ?v0) rfl (by kernel_rfl) (by kernel_rfl) (by kernel_rfl) (fun _ _ _ h => h) (Or.inl ⟨by kernel_rfl, ?vy0⟩) (by assumption) ?vr0
  case vy0 => (intro w hSw; (try dsimp only at hSw); go_simp <;> with_reducible rfl)
  try simp only [Act.put, List.getElem_toArray, List.getElem_cons_zero, List.getElem_cons_succ, List.setIfInBounds_toArray, List.set_cons_zero, List.set_cons_succ]
  refine wpAnyH_take (i := 1) (oi := _) (v := ?v1) rfl (by kernel_rfl) (by kernel_rfl) (by kernel_rfl) (fun _ _ _ h => h) (Or.inl ⟨by kernel_rfl, ?vy1⟩) (by assumption) ?vr1
  case vy1 => (intro w hSw; (try dsimp only at hSw); go_simp <;> with_reducible rfl)
  try simp only [Act.put, List.getElem_toArray, List.getElem_cons_zero, List.getElem_cons_succ, List.setIfInBounds_toArray, List.set_cons_zero, List.set_cons_succ]
  refine wpAnyH_take (i := 2) (oi := _) (v := ?v2) rfl (by kernel_rfl) (by kernel_rfl) (by kernel_rfl) (fun _ _ _ h => h) (Or.inl ⟨by kernel_rfl, ?vy2⟩) (by assumption) ?vr2
  case vy2 => (intro w hSw; (try dsimp only at hSw); go_simp <;> with_reducible rfl)
  try simp only [Act.put, List.getElem_toArray, List.getElem_cons_zero, List.getElem_cons_succ, List.setIfInBounds_toArray, List.set_cons_zero, List.set_cons_succ]
  refine wpAnyH_take (i := 3) (oi := _) (v := ?v3) rfl (by kernel_rfl) (by kernel_rfl) (by kernel_rfl) (fun _ _ _ h => h) (Or.inl ⟨by kernel_rfl, ?vy3⟩) (by assumption) ?vr3
  case vy3 => (intro w hSw; (try dsimp only at hSw); go_simp <;> with_reducible rfl)
  try simp only [Act.put, List.getElem_toArray, List.getElem_cons_zero, List.getElem_cons_succ, List.setIfInBounds_toArray, List.set_cons_zero, List.set_cons_succ]
  refine wpAnyH_take (i := 4) (oi := _) (v := ?v4) rfl (by kernel_rfl) (by kernel_rfl) (by kernel_rfl) (fun _ _ _ h => h) (Or.inl ⟨by kernel_rfl, ?vy4⟩) (by assumption) ?vr4
  case vy4 => (intro w hSw; (try dsimp only at hSw); go_simp <;> with_reducible rfl)
  try simp only [Act.put, List.getElem_toArray, List.getElem_cons_zero, List.getElem_cons_succ, List.setIfInBounds_toArray, List.set_cons_zero, List.set_cons_succ]
  refine wpAnyH_take (i := 5) (oi := _) (v := ?v5) rfl (by kernel_rfl) (by kernel_rfl) (by kernel_rfl) (fun _ _ _ h => h) (Or.inl ⟨by kernel_rfl, ?vy5⟩) (by assumption) ?vr5
  case vy5 => (intro w hSw; (try dsimp only at hSw); go_simp <;> with_reducible rfl)
  try simp only [Act.put, List.getElem_toArray, List.getElem_cons_zero, List.getElem_cons_succ, List.setIfInBounds_toArray, List.set_cons_zero, List.set_cons_succ]
  refine wpAnyH_take (i := 6) (oi := _) (v := ?v6) rfl (by kernel_rfl) (by kernel_rfl) (by kernel_rfl) (fun _ _ _ h => h) (Or.inl ⟨by kernel_rfl, ?vy6⟩) (by assumption) ?vr6
  case vy6 => (intro w hSw; (try dsimp only at hSw); go_simp <;> with_reducible rfl)
  try simp only [Act.put, List.getElem_toArray, List.getElem_cons_zero, List.getElem_cons_succ, List.setIfInBounds_toArray, List.set_cons_zero, List.set_cons_succ]
  refine wpAnyH_take (i := 7) (oi := _) (v := ?v7) rfl (by kernel_rfl) (by kernel_rfl) (by kernel_rfl) (fun _ _ _ h => h) (Or.inl ⟨by kernel_rfl, ?vy7⟩) (by assumption) ?vr7
  case vy7 => (intro w hSw; (try dsimp only at hSw); go_simp <;> with_reducible rfl)
  try simp only [Act.put, List.getElem_toArray, List.getElem_cons_zero, List.getElem_cons_succ, List.setIfInBounds_toArray, List.set_cons_zero, List.set_cons_succ]
  refine wpAnyH_take (i := 8) (oi := _) (v := ?v8) rfl (by kernel_rfl) (by kernel_rfl) (by kernel_rfl) (fun _ _ _ h => h) (Or.inl ⟨by kernel_rfl, ?vy8⟩) (by assumption) ?vr8
  case vy8 => (intro w hSw; (try dsimp only at hSw); go_simp <;> with_reducible rfl)
  try simp only [Act.put, List.getElem_toArray, List.getElem_cons_zero, List.getElem_cons_succ, List.setIfInBounds_toArray, List.set_cons_zero, List.set_cons_succ]
  refine wpAnyH_take (i := 9) (oi := _) (v := ?v9) rfl (by kernel_rfl) (by kernel_rfl) (by kernel_rfl) (fun _ _ _ h => h) (Or.inl ⟨by kernel_rfl, ?vy9⟩) (by assumption) ?vr9
  case vy9 => (intro w hSw; (try dsimp only at hSw); go_simp <;> with_reducible rfl)
  try simp only [Act.put, List.getElem_toArray, List.getElem_cons_zero, List.getElem_cons_succ, List.setIfInBounds_toArray, List.set_cons_zero, List.set_cons_succ]
  refine wpAnyH_take (i := 10) (oi := _) (v := ?v10) rfl (by kernel_rfl) (by kernel_rfl) (by kernel_rfl) (fun _ _ _ h => h) (Or.inl ⟨by kernel_rfl, ?vy10⟩) (by assumption) ?vr10
  case vy10 => (intro w hSw; (try dsimp only at hSw); go_simp <;> with_reducible rfl)
  try simp only [Act.put, List.getElem_toArray, List.getElem_cons_zero, List.getElem_cons_succ, List.setIfInBounds_toArray, List.set_cons_zero, List.set_cons_succ]
  refine wpAnyH_take (i := 11) (oi := _) (v := ?v11) rfl (by kernel_rfl) (by kernel_rfl) (by kernel_rfl) (fun _ _ _ h => h) (Or.inl ⟨by kernel_rfl, ?vy11⟩) (by assumption) ?vr11
  case vy11 => (intro w hSw; (try dsimp only at hSw); go_simp <;> with_reducible rfl)
  try simp only [Act.put, List.getElem_toArray, List.getElem_cons_zero, List.getElem_cons_succ, List.setIfInBounds_toArray, List.set_cons_zero, List.set_cons_succ]
  refine wpAnyH_take (i := 12) (oi := _) (v := ?v12) rfl (by kernel_rfl) (by kernel_rfl) (by kernel_rfl) (fun _ _ _ h => h) (Or.inl ⟨by kernel_rfl, ?vy12⟩) (by assumption) ?vr12
  case vy12 => (intro w hSw; (try dsimp only at hSw); go_simp <;> with_reducible rfl)
  try simp only [Act.put, List.getElem_toArray, List.getElem_cons_zero, List.getElem_cons_succ, List.setIfInBounds_toArray, List.set_cons_zero, List.set_cons_succ]
  refine wpAnyH_take (i := 13) (oi := _) (v := ?v13) rfl (by kernel_rfl) (by kernel_rfl) (by kernel_rfl) (fun _ _ _ h => h) (Or.inl ⟨by kernel_rfl, ?vy13⟩) (by assumption) ?vr13
  case vy13 => (intro w hSw; (try dsimp only at hSw); go_simp <;> with_reducible rfl)
  try simp only [Act.put, List.getElem_toArray, List.getElem_cons_zero, List.getElem_cons_succ, List.setIfInBounds_toArray, List.set_cons_zero, List.set_cons_succ]
  refine wpAnyH_take (i := 14) (oi := _) (v := ?v14) rfl (by kernel_rfl) (by kernel_rfl) (by kernel_rfl) (fun _ _ _ h => h) (Or.inl ⟨by kernel_rfl, ?vy14⟩) (by assumption) ?vr14
  case vy14 => (intro w hSw; (try dsimp only at hSw); go_simp <;> with_reducible rfl)
  try simp only [Act.put, List.getElem_toArray, List.getElem_cons_zero, List.getElem_cons_succ, List.setIfInBounds_toArray, List.set_cons_zero, List.set_cons_succ]
  refine wpAnyH_take (i := 15) (oi := _) (v := ?v15) rfl (by kernel_rfl) (by kernel_rfl) (by kernel_rfl) (fun _ _ _ h => h) (Or.inl ⟨by kernel_rfl, ?vy15⟩) (by assumption) ?vr15
  case vy15 => (intro w hSw; (try dsimp only at hSw); go_simp <;> with_reducible rfl)
  try simp only [Act.put, List.getElem_toArray, List.getElem_cons_zero, List.getElem_cons_succ, List.setIfInBounds_toArray, List.set_cons_zero, List.set_cons_succ]
  refine wpAnyH_take (i := 16) (oi := _) (v := ?v16) rfl (by kernel_rfl) (by kernel_rfl) (by kernel_rfl) (fun _ _ _ h => h) (Or.inl ⟨by kernel_rfl, ?vy16⟩) (by assumption) ?vr16
  case vy16 => (intro w hSw; (try dsimp only at hSw); go_simp <;> with_reducible rfl)
  try simp only [Act.put, List.getElem_toArray, List.getElem_cons_zero, List.getElem_cons_succ, List.setIfInBounds_toArray, List.set_cons_zero, List.set_cons_succ]
  refine wpAnyH_take (i := 17) (oi := _) (v := ?v17) rfl (by kernel_rfl) (by kernel_rfl) (by kernel_rfl) (fun _ _ _ h => h) (Or.inl ⟨by kernel_rfl, ?vy17⟩) (by assumption) ?vr17
  case vy17 => (intro w hSw; (try dsimp only at hSw); go_simp <;> with_reducible rfl)
  try simp only [Act.put, List.getElem_toArray, List.getElem_cons_zero, List.getElem_cons_succ, List.setIfInBounds_toArray, List.set_cons_zero, List.set_cons_succ]
  refine wpAnyH_take (i := 18) (oi := _) (v := ?v18) rfl (by kernel_rfl) (by kernel_rfl) (by kernel_rfl) (fun _ _ _ h => h) (Or.inl ⟨by kernel_rfl, ?vy18⟩) (by assumption) ?vr18
  case vy18 => (intro w hSw; (try dsimp only at hSw); go_simp <;> with_reducible rfl)
  try simp only [Act.put, List.getElem_toArray, List.getElem_cons_zero, List.getElem_cons_succ, List.setIfInBounds_toArray, List.set_cons_zero, List.set_cons_succ]
  refine wpAnyH_take (i := 19) (oi := _) (v := ?v19) rfl (by kernel_rfl) (by kernel_rfl) (by kernel_rfl) (fun _ _ _ h => h) (Or.inl ⟨by kernel_rfl, ?vy19⟩) (by assumption) ?vr19
  case vy19 => (intro w hSw; (try dsimp only at hSw); go_simp <;> with_reducible rfl)
  try simp only [Act.put, List.getElem_toArray, List.getElem_cons_zero, List.getElem_cons_succ, List.setIfInBounds_toArray, List.set_cons_zero, List.set_cons_succ]
  refine wpAnyH_take (i := 21) (oi := _) (v := ?v21) rfl (by kernel_rfl) (by kernel_rfl) (by kernel_rfl) (fun _ _ _ h => h) (Or.inl ⟨by kernel_rfl, ?vy21⟩) (by assumption) ?vr21
  case vy21 => (intro w hSw; (try dsimp only at hSw); go_simp <;> with_reducible rfl)
  try simp only [Act.put, List.getElem_toArray, List.getElem_cons_zero, List.getElem_cons_succ, List.setIfInBounds_toArray, List.set_cons_zero, List.set_cons_succ]
  refine wpAnyH_take (i := 22) (oi := _) (v := ?v22) rfl (by kernel_rfl) (by kernel_rfl) (by kernel_rfl) (fun _ _ _ h => h) (Or.inl ⟨by kernel_rfl, ?vy22⟩) (by assumption) ?vr22
  case vy22 => (intro w hSw; (try dsimp only at hSw); go_simp <;> with_reducible rfl)
  try simp only [Act.put, List.getElem_toArray, List.getElem_cons_zero, List.getElem_cons_succ, List.setIfInBounds_toArray, List.set_cons_zero, List.set_cons_succ]
  refine wpAnyH_ready (rs := [20]) (by kernel_rfl) (by simp) ?_
  refine AllReadyH.cons (o := _) rfl (fun K hK => ?_) AllReadyH.nil
  go_simp
  go_at_call 137
  refine (HWD.out _ ⟨HRa.out.drew, HEa.out.drew⟩).mono ?_
  rintro e w4 ⟨rfl, md, rfl⟩
  refine hK.out _ _ ?_ (fun hHeld20 => ?_)
  · first | with_reducible exact ⟨t0, g0, g2, g3⟩ | go_keep
  clear hK K hHeld
  try simp only [Act.put, List.getElem_toArray, List.getElem_cons_zero, List.getElem_cons_succ, List.setIfInBounds_toArray, List.set_cons_zero, List.set_cons_succ]
  refine wpAnyH_ready (rs := [23]) (by kernel_rfl) (by simp) ?_
  refine AllReadyH.cons (o := _) rfl (fun K hK => ?_) AllReadyH.nil
  go_simp
  go_at_call 196
  refine (HSW.out _ (HMa.out.drewN _)).mono ?_
  rintro e w4 ⟨rfl, hM4, hB4⟩
  have HG4 := Lib.hid ((HGa.out.drewN _).same (hB4.block (g) HGa.out.lt hgm hgw))
  have HR4 := Lib.hid ((HRa.out.drewN _).same (hB4.block (br) HRa.out.lt hrm hrw))
  have HE4 := Lib.hid ((HEa.out.drewN _).same (hB4.block (be) HEa.out.lt hem hew))
  have HT4 := Lib.hid ((HTa.out.drewN _).same (hB4.block (w.heap.size) HTa.out.lt (by omega) (by omega)))
  have HA4 := Lib.hid ((HAa.out.drewN _).same (hB4.block (w.heap.size + 1) HAa.out.lt (by omega) (by omega)))
  have HM4 := Lib.hid hM4
  have HB4 : Hid (ButS (fun b => b = bm ∨ b = bw ∨ (b = g ∨ (.slice ao ws.length cp : Value).ownBlock = some b)) w w4) := Lib.hid ((HBa.out.drewN _).trans (ButS.of_but hB4 (.inl rfl) (.inr (.inl rfl))))
  have HO4 : Hid (w4.ownsRow 0 37 1 (.slice ao ws.length cp) ws.length (ws.map mkU)) := Lib.hid (owns_sameB HOa.out (fun k hk => hB4.block k (Nat.lt_of_lt_of_le (HOL.out k hk) (by have := HZa.out; show w.heap.size ≤ wa.heap.size; omega)) (fun h => HOM.out (h ▸ hk)) (fun h => HOW.out (h ▸ hk))))
  have HS4 : Hid (w.heap.size + 2 ≤ w4.heap.size) := Lib.hid (by have h1 := HZa.out; have h2 : wa.heap.size ≤ w4.heap.size := hB4.size; omega)
  have g3b : (w4.alloc (.cells #[.int .u64 (x : Int)] 37)).cell? ⟨g, 3, none⟩ = some (.slice ao ws.length cp) := (HG4.out.alloc _).cell rfl
  have t0 : w4.cell? ⟨w.heap.size, 0, none⟩ = some (.iface 97 (.pointer (some ⟨bm, 0, none⟩))) := HT4.out.cell rfl
  have g0 : w4.cell? ⟨g, 0, none⟩ = some (.pointer (some ⟨br, 0, none⟩)) := HG4.out.cell rfl
  have g2 : w4.cell? ⟨g, 2, none⟩ = some (.int .i64 (q : Int)) := HG4.out.cell rfl
  have g3 : w4.cell? ⟨g, 3, none⟩ = some (.slice ao ws.length cp) := HG4.out.cell rfl
  clear hM4 hB4
  refine hK.out _ _ ?_ (fun hHeld23 => ?_)
  · first | with_reducible exact ⟨t0, g0, g2, g3⟩ | go_keep
  clear hK K hHeld20
  try simp only [Act.put, List.getElem_toArray, List.getElem_cons_zero, List.getElem_cons_succ, List.setIfInBounds_toArray, List.set_cons_zero, List.set_cons_succ]
  refine wpAnyH_ready (rs := [24]) (by kernel_rfl) (by simp) ?_
  refine AllReadyH.cons (o := _) rfl (fun K hK => ?_) AllReadyH.nil
  go_simp
  refine hK.out _ _ ?_ (fun hHeld24 => ?_)
  · first | with_reducible exact ⟨t0, g0, g2, g3⟩ | exact ⟨(HT4.out.alloc _).cell rfl, (HG4.out.alloc _).cell rfl, (HG4.out.alloc _).cell rfl, (HG4.out.alloc _).cell rfl⟩ | go_keep
  clear hK K hHeld23
  try simp only [Act.put, List.getElem_toArray, List.getElem_cons_zero, List.getElem_cons_succ, List.setIfInBounds_toArray, List.set_cons_zero, List.set_cons_succ]
  refine wpAnyH_ready (rs := [25]) (by kernel_rfl) (by simp) ?_
  refine AllReadyH.cons (o := _) rfl (fun K hK => ?_) AllReadyH.nil
  refine step_append_lies (w4.alloc (.cells #[.int .u64 (x : Int)] 37)) rfl _ _ 28 rfl 0 37 iU (.int .u64 0) 1 8 Try.underlying28 ua ub uc ud rfl (by decide) (.slice ao ws.length cp) ws.length (ws.map mkU) rfl (HO4.out.alloc _) ⟨w4.heap.size, 0, none⟩ 1 1 [.int .u64 (x : Int)] rfl rfl (cell_one_new w4 _ _) (by intro u hu; rw [List.mem_singleton] at hu; subst hu; rfl) (by decide) (by unfold maxLen; omega) (by omega) (Nat.zero_le _) (w4.heap.size + 1) (by simp) ?_
  intro gl cap w5 ho5 hg5 hat5 hl5
  have hS4 := HS4.out
  have hblk : ∀ k, k < w4.heap.size → (.slice ao ws.length cp : Value).ownBlock ≠ some k → w5.heap[k]? = (w4.alloc (.cells #[.int .u64 (x : Int)] 37)).heap[k]? := fun k hk hne => hg5.block k (by simp; omega) (fun e => hne e.symm)
  have HG5 := Lib.hid ((HG4.out.alloc (.cells #[.int .u64 (x : Int)] 37)).same (hblk g HG4.out.lt HOG.out))
  have HR5 := Lib.hid ((HR4.out.alloc (.cells #[.int .u64 (x : Int)] 37)).same (hblk br HR4.out.lt HOR.out))
  have HE5 := Lib.hid ((HE4.out.alloc (.cells #[.int .u64 (x : Int)] 37)).same (hblk be HE4.out.lt HOE.out))
  have HT5 := Lib.hid ((HT4.out.alloc (.cells #[.int .u64 (x : Int)] 37)).same (hblk w.heap.size HT4.out.lt (fun e => by have := HOL.out _ e; omega)))
  have HA5 := Lib.hid ((HA4.out.alloc (.cells #[.int .u64 (x : Int)] 37)).same (hblk (w.heap.size + 1) HA4.out.lt (fun e => by have := HOL.out _ e; omega)))
  have HM5 := Lib.hid ((HM4.out.alloc (.cells #[.int .u64 (x : Int)] 37)).of_blocks (hblk bm HM4.out.lt1 HOM.out) (hblk bw HM4.out.lt2 HOW.out))
  have HB5 : Hid (ButS (fun b => b = bm ∨ b = bw ∨ (b = g ∨ (.slice ao ws.length cp : Value).ownBlock = some b)) w w5) := Lib.hid ((HB4.out.alloc _).trans (ButS.of_grown hg5 (fun k hk => .inr (.inr (.inr hk)))))
  have HO5 : Hid (w5.ownsRow 0 37 1 (.slice (some ⟨gl, 0, none⟩) (ws.length + 1) cap) (ws.length + 1) ((ws ++ [x]).map mkU)) := Lib.hid (by rw [List.map_append]; exact ho5)
  have HAT5 : Hid ((.slice ao ws.length cp : Value).ownBlock = some gl ∨ w.heap.size + 2 ≤ gl) := Lib.hid (hat5.imp id (fun h => by omega))
  have HL5 := Lib.hid hl5
  have HP5 : Hid (∀ v : Value, (w5.setCell ⟨g, 3, none⟩ v).cell? ⟨w.heap.size, 0, none⟩ = some (.iface 97 (.pointer (some ⟨bm, 0, none⟩))) ∧ (w5.setCell ⟨g, 3, none⟩ v).cell? ⟨g, 0, none⟩ = some (.pointer (some ⟨br, 0, none⟩)) ∧ (w5.setCell ⟨g, 3, none⟩ v).cell? ⟨g, 2, none⟩ = some (.int .i64 (q : Int))) := Lib.hid (fun v => ⟨(HT5.out.other (a := ⟨g, 3, none⟩) (show w.heap.size ≠ g by omega) v).cell rfl, (HG5.out.put 3 v).cell rfl, (HG5.out.put 3 v).cell rfl⟩)
  have fz5 : ∀ j, w5.frozen? ⟨g, j, none⟩ = false := fun j => HG5.out.free
  have t0 : w5.cell? ⟨w.heap.size, 0, none⟩ = some (.iface 97 (.pointer (some ⟨bm, 0, none⟩))) := HT5.out.cell rfl
  have g0 : w5.cell? ⟨g, 0, none⟩ = some (.pointer (some ⟨br, 0, none⟩)) := HG5.out.cell rfl
  have g2 : w5.cell? ⟨g, 2, none⟩ = some (.int .i64 (q : Int)) := HG5.out.cell rfl
  have g3 : w5.cell? ⟨g, 3, none⟩ = some (.slice ao ws.length cp) := HG5.out.cell rfl
  clear ho5 hg5 hat5 hl5 hS4 hblk
  refine hK.out _ _ ?_ (fun hHeld25 => ?_)
  · first | with_reducible exact ⟨t0, g0, g2, g3⟩ | go_keep
  clear hK K hHeld24
  try simp only [Act.put, List.getElem_toArray, List.getElem_cons_zero, List.getElem_cons_succ, List.setIfInBounds_toArray, List.set_cons_zero, List.set_cons_succ]
  refine wpAnyH_done (by kernel_rfl) ?_ _
  dsimp only [tailQ]
  simp only [List.drop_succ_cons, List.drop_zero, List.take_succ_cons, List.take_zero, List.getElem_cons_succ, List.getElem_cons_zero, List.set_cons_zero, List.set_cons_succ]
  go_wp2_with fail
  skip
  clear hHeld25 t0 g0 g2 g3 g3b
  have n1 : g ≠ w.heap.size + 1 := by omega
  have n2 : w.heap.size + 1 ≠ g := by omega
  have HGL1 : Hid (gl ≠ g) := Lib.hid (fun e => HAT5.out.elim (fun h => HOG.out (e ▸ h)) (fun h => by omega))
  have HGL2 : Hid (gl ≠ w.heap.size + 1) := Lib.hid (fun e => HAT5.out.elim (fun h => by have := HOL.out _ h; omega) (fun h => by omega))
  have HG5b : Hid (RowBlk 231 (w5.setCell ⟨g, 3, none⟩ (.slice (some ⟨gl, 0, none⟩) (ws.length + 1) cap)) g [.pointer (some ⟨br, 0, none⟩), .int .i64 (te : Int), .int .i64 (q : Int), .slice (some ⟨gl, 0, none⟩) (ws.length + 1) cap, .slice none 0 0, .func (.func 136) #[.pointer (some ⟨g, 0, none⟩)] #[]]) := Lib.hid (HG5.out.put 3 _)
  have HR5b := Lib.hid (HR5.out.other (a := ⟨g, 3, none⟩) (show br ≠ g from fun e => hgr e.symm) (.slice (some ⟨gl, 0, none⟩) (ws.length + 1) cap))
  have g0 : (w5.setCell ⟨g, 3, none⟩ (.slice (some ⟨gl, 0, none⟩) (ws.length + 1) cap)).cell? ⟨g, 0, none⟩ = some (.pointer (some ⟨br, 0, none⟩)) := HG5b.out.cell rfl
  have g3 : (w5.setCell ⟨g, 3, none⟩ (.slice (some ⟨gl, 0, none⟩) (ws.length + 1) cap)).cell? ⟨g, 3, none⟩ = some (.slice (some ⟨gl, 0, none⟩) (ws.length + 1) cap) := HG5b.out.cell rfl
  have r0 : (w5.setCell ⟨g, 3, none⟩ (.slice (some ⟨gl, 0, none⟩) (ws.length + 1) cap)).cell? ⟨br, 0, none⟩ = some (.int .i64 (((ws.length + 1 : Nat) : Int))) := HR5b.out.cell rfl
  clear fz5
  go_quiet (fail)
  have HG6 : Hid (RowBlk 231 ((w5.setCell ⟨g, 3, none⟩ (.slice (some ⟨gl, 0, none⟩) (ws.length + 1) cap)).drewN nq) g [.pointer (some ⟨br, 0, none⟩), .int .i64 (te : Int), .int .i64 (q : Int), .slice (some ⟨gl, 0, none⟩) (ws.length + 1) cap, .slice none 0 0, .func (.func 136) #[.pointer (some ⟨g, 0, none⟩)] #[]]) := Lib.hid (HG5b.out.drewN nq)
  have HA6 : Hid (RowBlk 39 ((w5.setCell ⟨g, 3, none⟩ (.slice (some ⟨gl, 0, none⟩) (ws.length + 1) cap)).drewN nq) (w.heap.size + 1) [.int .i64 0, .int .u64 0, .slice none 0 0]) := Lib.hid ((HA5.out.other (a := ⟨g, 3, none⟩) n2 _).drewN nq)
  have HM6 : Hid (MemIs 139 ((w5.setCell ⟨g, 3, none⟩ (.slice (some ⟨gl, 0, none⟩) (ws.length + 1) cap)).drewN nq) bm bw L2 C2) := Lib.hid ((HM5.out.setNew _ _ hgm hgw).drewN nq)
  have HB6 : Hid (ButS (fun b => b = bm ∨ b = bw ∨ (b = g ∨ (.slice ao ws.length cp : Value).ownBlock = some b)) w ((w5.setCell ⟨g, 3, none⟩ (.slice (some ⟨gl, 0, none⟩) (ws.length + 1) cap)).drewN nq)) := Lib.hid ((HB5.out.setCell (.inl (.inr (.inr (.inl rfl)))) _).drewN nq)
  have HO6 : Hid (((w5.setCell ⟨g, 3, none⟩ (.slice (some ⟨gl, 0, none⟩) (ws.length + 1) cap)).drewN nq).ownsRow 0 37 1 (.slice (some ⟨gl, 0, none⟩) (ws.length + 1) cap) (ws.length + 1) ((ws ++ [x]).map mkU)) := Lib.hid (owns_sameB HO5.out (fun k hk => by cases hk; exact heap_far HGL1.out))
  have HL6 : Hid (gl < ((w5.setCell ⟨g, 3, none⟩ (.slice (some ⟨gl, 0, none⟩) (ws.length + 1) cap)).drewN nq).heap.size) := Lib.hid (by have h1 := HL5.out; simpa [World.setCell] using h1)
  generalize ((w5.setCell ⟨g, 3, none⟩ (.slice (some ⟨gl, 0, none⟩) (ws.length + 1) cap)).drewN nq) = w6 at HG6 HA6 HM6 HB6 HO6 HL6 ⊢
  clear g0 g3 r0
  have a0 : w6.cell? ⟨w.heap.size + 1, 0, none⟩ = some (.int .i64 0) := HA6.out.cell rfl
  have a1 : w6.cell? ⟨w.heap.size + 1, 1, none⟩ = some (.int .u64 0) := HA6.out.cell rfl
  have a2 : w6.cell? ⟨w.heap.size + 1, 2, none⟩ = some (.slice none 0 0) := HA6.out.cell rfl
  have z0 : ∀ j, w6.frozen? ⟨w.heap.size + 1, j, none⟩ = false := fun j => HA6.out.free
  have g5 : w6.cell? ⟨g, 5, none⟩ = some (.func (.func 136) #[.pointer (some ⟨g, 0, none⟩)] #[]) := HG6.out.cell rfl
  have fz6 : ∀ j, w6.frozen? ⟨g, j, none⟩ = false := fun j => HG6.out.free
  have HX : Hid (RowBlk 39 ((((w6.setCell ⟨g, 5, none⟩ (.func (.func 139) #[.pointer (some ⟨g, 0, none⟩)] #[])).setCell ⟨w.heap.size + 1, 0, none⟩ (.int .i64 0)).setCell ⟨w.heap.size + 1, 1, none⟩ (.int .u64 0)).setCell ⟨w.heap.size + 1, 2, none⟩ (.slice none 0 0)) (w.heap.size + 1) [.int .i64 0, .int .u64 0, .slice none 0 0] ∧ RowBlk 231 ((((w6.setCell ⟨g, 5, none⟩ (.func (.func 139) #[.pointer (some ⟨g, 0, none⟩)] #[])).setCell ⟨w.heap.size + 1, 0, none⟩ (.int .i64 0)).setCell ⟨w.heap.size + 1, 1, none⟩ (.int .u64 0)).setCell ⟨w.heap.size + 1, 2, none⟩ (.slice none 0 0)) g [.pointer (some ⟨br, 0, none⟩), .int .i64 (te : Int), .int .i64 (q : Int), .slice (some ⟨gl, 0, none⟩) (ws.length + 1) cap, .slice none 0 0, .func (.func 139) #[.pointer (some ⟨g, 0, none⟩)] #[]] ∧ MemIs 139 ((((w6.setCell ⟨g, 5, none⟩ (.func (.func 139) #[.pointer (some ⟨g, 0, none⟩)] #[])).setCell ⟨w.heap.size + 1, 0, none⟩ (.int .i64 0)).setCell ⟨w.heap.size + 1, 1, none⟩ (.int .u64 0)).setCell ⟨w.heap.size + 1, 2, none⟩ (.slice none 0 0)) bm bw L2 C2 ∧ ButS (fun b => b = bm ∨ b = bw ∨ (b = g ∨ (.slice ao ws.length cp : Value).ownBlock = some b)) w ((((w6.setCell ⟨g, 5, none⟩ (.func (.func 139) #[.pointer (some ⟨g, 0, none⟩)] #[])).setCell ⟨w.heap.size + 1, 0, none⟩ (.int .i64 0)).setCell ⟨w.heap.size + 1, 1, none⟩ (.int .u64 0)).setCell ⟨w.heap.size + 1, 2, none⟩ (.slice none 0 0)) ∧ ((((w6.setCell ⟨g, 5, none⟩ (.func (.func 139) #[.pointer (some ⟨g, 0, none⟩)] #[])).setCell ⟨w.heap.size + 1, 0, none⟩ (.int .i64 0)).setCell ⟨w.heap.size + 1, 1, none⟩ (.int .u64 0)).setCell ⟨w.heap.size + 1, 2, none⟩ (.slice none 0 0)).ownsRow 0 37 1 (.slice (some ⟨gl, 0, none⟩) (ws.length + 1) cap) (ws.length + 1) ((ws ++ [x]).map mkU) ∧ gl < ((((w6.setCell ⟨g, 5, none⟩ (.func (.func 139) #[.pointer (some ⟨g, 0, none⟩)] #[])).setCell ⟨w.heap.size + 1, 0, none⟩ (.int .i64 0)).setCell ⟨w.heap.size + 1, 1, none⟩ (.int .u64 0)).setCell ⟨w.heap.size + 1, 2, none⟩ (.slice none 0 0)).heap.size) := Lib.hid
    ⟨((((HA6.out.other (a := ⟨g, 5, none⟩) n2 _).put 0 _).put 1 _).put 2 _), ((((HG6.out.put 5 _).other (a := ⟨w.heap.size + 1, 0, none⟩) n1 _).other (a := ⟨w.heap.size + 1, 1, none⟩) n1 _).other (a := ⟨w.heap.size + 1, 2, none⟩) n1 _), ((((HM6.out.setNew _ _ hgm hgw).setNew _ _ (by omega) (by omega)).setNew _ _ (by omega) (by omega)).setNew _ _ (by omega) (by omega)), ((((HB6.out.setCell (x := ⟨g, 5, none⟩) (.inl (.inr (.inr (.inl rfl)))) _).setCell (x := ⟨w.heap.size + 1, 0, none⟩) (.inr (by show w.heap.size ≤ w.heap.size + 1; omega)) _).setCell (x := ⟨w.heap.size + 1, 1, none⟩) (.inr (by show w.heap.size ≤ w.heap.size + 1; omega)) _).setCell (x := ⟨w.heap.size + 1, 2, none⟩) (.inr (by show w.heap.size ≤ w.heap.size + 1; omega)) _), (owns_sameB HO6.out (fun k hk => by obtain rfl : gl = k := Option.some.inj hk; rw [heap_far (show gl ≠ w.heap.size + 1 from HGL2.out), heap_far (show gl ≠ w.heap.size + 1 from HGL2.out), heap_far (show gl ≠ w.heap.size + 1 from HGL2.out), heap_far (show gl ≠ g from HGL1.out)])), by have h1 := HL6.out; simpa [World.setCell] using h1⟩
  go_wp2_with fail
  generalize ((((w6.setCell ⟨g, 5, none⟩ (.func (.func 139) #[.pointer (some ⟨g, 0, none⟩)] #[])).setCell ⟨w.heap.size + 1, 0, none⟩ (.int .i64 0)).setCell ⟨w.heap.size + 1, 1, none⟩ (.int .u64 0)).setCell ⟨w.heap.size + 1, 2, none⟩ (.slice none 0 0)) = W5 at HX ⊢
  have q0 := HX.out.1.cell (i := 0) rfl
  have q1 := HX.out.1.cell (i := 1) rfl
  have q2 := HX.out.1.cell (i := 2) rfl
  exact bodyPost_ret (v := .tuple #[.agg #[.int .i64 0, .int .u64 0, .slice none 0 0], .bool false]) (by simp [results, Try.results136, go_sem, q0, q1, q2]) rfl ⟨rfl, HX.out.2.2.1, HX.out.2.2.2.1, gl, cap, HX.out.2.1, HX.out.2.2.2.2.1, HAT5.out.imp id (fun h => by omega), HX.out.2.2.2.2.2⟩
end
end Go.Proofs.Ytpoebpnmbogmnaa
