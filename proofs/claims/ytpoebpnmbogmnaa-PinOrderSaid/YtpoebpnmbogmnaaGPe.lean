/- Walks of pin: a write looks at a buffer that still has readers. | Walks of pin: a write fills a word of its buffer. -/
import Derived.Test.YtpoebpnmbogmnaaGPd
namespace Go.Proofs.Ytpoebpnmbogmnaa
section
open Go.ChangeShapes Go.WideShapes Go.ChangeAt Go.RowKit
set_option linter.unusedVariables false
set_option linter.unusedSimpArgs false
set_option maxRecDepth 100000 in
set_option maxHeartbeats 2000000 in
theorem pin_held (n w0 br be g bm bw a q x y z : Nat) (s : PinS) (l : List Nat) (c : Cn) (t : Nat) (w : World) (hM : MemIs 139 w bm bw l c) (hR : RegIs n w0 br be s w) (hg : RowBlk 229 w g (WrVs br a q 0 g 132)) (hq : q ≤ n) (hn : n ≤ 16) (hlen : s.ent.length = n + 1) (h0 : 1 + q < l.length) (hl : l.length ≤ 65536) (hc : c.r < 9223372036854775807) (hxe : l.getD (1 + q) 0 = x) (hu0 : s.ent.getD q 0 = y) (hxy : x ≠ y) (hz0 : frm s.cur (q + 1) = z) (hew : be ≠ bw) :
    Calls Try.prog 132 #[.pointer (some ⟨g, 0, none⟩), turnAgg bm (t : Int)] w (PinLook br a z g 132 ((Acc.rd (1 + q)).run l c).2.1 ((Acc.rd (1 + q)).run l c).2.2 bm bw w) := by
  have hgm : g ≠ bm := by intro e; have h1 := hg; have h2 := hM.1; unfold RowBlk at h1; rw [e, h2] at h1; simp at h1
  have hgw : g ≠ bw := by intro e; have h1 := hg; have h2 := hM.2.1; unfold RowBlk at h1; rw [e, h2] at h1; simp at h1
  have hrm : br ≠ bm := by intro e; have h1 := hR.1; have h2 := hM.1; unfold RowBlk at h1; rw [e, h2] at h1; simp at h1
  have hrw : br ≠ bw := by intro e; have h1 := hR.1; have h2 := hM.2.1; unfold RowBlk at h1; rw [e, h2] at h1; simp at h1
  have hem : be ≠ bm := by intro e; have h1 := hR.2; have h2 := hM.1; unfold RowBlk at h1; rw [e, h2] at h1; simp at h1
  obtain ⟨L2, hL2⟩ : ∃ L2, ((Acc.rd (1 + q)).run l c).2.1 = L2 := ⟨_, rfl⟩
  obtain ⟨C2, hC2⟩ : ∃ C2, ((Acc.rd (1 + q)).run l c).2.2 = C2 := ⟨_, rfl⟩
  have HSW : Hid (∀ W : World, MemIs 139 W bm bw l c → Calls Try.prog 196 #[.pointer (some ⟨bm, 0, none⟩), .int .i64 ((1 + q : Nat) : Int)] W fun e w' => e = .returned (.int .u64 (x : Int)) ∧ MemIs 139 w' bm bw L2 C2 ∧ But bm bw W w') := Lib.hid (fun W hW => by
    have h := rd_acc (i := 1 + q) hW h0 hl hc
    unfold AccPost at h
    rw [hL2, hC2, hxe] at h
    exact h)
  rw [hL2, hC2]
  have HLF : Hid (∀ W : World, RegIs n w0 br be s W → Calls Try.prog 134 #[.pointer (some ⟨br, 0, none⟩), .int .i64 (q : Int)] W fun e w' => e = .returned (.int .i64 ((1 + q : Nat) : Int)) ∧ W = w') := Lib.hid (fun W hW => pin_left n w0 br be q s W hW (by omega))
  have HFR : Hid (∀ W : World, RegIs n w0 br be s W → Calls Try.prog 131 #[.pointer (some ⟨br, 0, none⟩), .int .i64 (IntKind.i64.wrap ((q : Int) + 1))] W fun e w' => e = .returned (.int .i64 (z : Int)) ∧ W = w') := Lib.hid (fun W hW => by rw [show IntKind.i64.wrap ((q : Int) + 1) = ((q + 1 : Nat) : Int) by unfold IntKind.wrap; simp [IntKind.bits, IntKind.signed]; omega]; have h := pin_from n w0 br be (q + 1) s W hW (by omega); rw [hz0] at h; exact h)
  obtain ⟨u, hu⟩ : ∃ u, 1 + q = u := ⟨_, rfl⟩
  rw [hu] at HSW HLF
  have he : s.ent[q]? = some y := by
    have h1 : s.ent[q]? = some (s.ent[q]'(by omega)) := List.getElem?_eq_getElem _
    rw [List.getD_eq_getElem?_getD, h1] at hu0
    rw [h1]; exact congrArg some hu0
  have HE2 : Hid ((s.ent.map (fun (x : Nat) => Value.int .u64 (x : Int)))[q]? = some (.int .u64 (y : Int))) := Lib.hid (by rw [List.getElem?_map, he]; rfl)
  have HM := Lib.hid hM
  have HG : Hid (RowBlk 229 w g [.pointer (some ⟨br, 0, none⟩), .int .u64 (a : Int), .int .i64 (q : Int), .int .i64 ((0 : Nat) : Int), .func (.func 132) #[.pointer (some ⟨g, 0, none⟩)] #[]]) := Lib.hid hg
  have HR : Hid (RowBlk 192 w br [.int .i64 (w0 : Int), .int .i64 0, .int .i64 1, .int .i64 ((n + 2 : Nat) : Int), .slice (some ⟨be, 0, none⟩) (n + 1 : Nat) (n + 1), .int .u64 (s.tot : Int), .int .i64 (s.cur : Int)]) := Lib.hid hR.1
  have HE := Lib.hid hR.2
  have hmm := m_Read ⟨bm, 0, none⟩
  have hbm := hM.lt1
  have hbw := hM.lt2
  have hgl := hg.lt
  have hrl := hR.1.lt
  have hel := hR.2.lt
  have hgr : g ≠ br := row_ne hg hR.1 (by decide)
  have hge : g ≠ be := row_ne hg hR.2 (by decide)
  have hi0 : (0 : Int) ≤ (q : Int) := Int.natCast_nonneg _
  have hi1 : (q : Int) < ((n + 1 : Nat) : Int) := by omega
  have hx1 : ¬ (x : Int) = (y : Int) := by omega
  have hx2 : ((x : Int) == (y : Int)) = false := by rw [beq_eq_false_iff_ne]; exact hx1
  obtain ⟨m1, hm1⟩ : ∃ m1, n + 1 = m1 := ⟨_, rfl⟩
  obtain ⟨m2, hm2⟩ : ∃ m2, n + 2 = m2 := ⟨_, rfl⟩
  rw [hm1] at hi1
  have HRV : Hid (RegVs n w0 be s = [.int .i64 (w0 : Int), .int .i64 0, .int .i64 1, .int .i64 (m2 : Int), .slice (some ⟨be, 0, none⟩) (m1 : Nat) m1, .int .u64 (s.tot : Int), .int .i64 (s.cur : Int)]) := Lib.hid (by unfold RegVs; rw [hm1, hm2])
  rw [hm1, hm2] at HR
  have hq16 : q ≤ 16 := by omega
  unfold turnAgg
  clear hM hg hR hxe hL2 hC2 h0 hl hc hu hu0 he hlen hm1 hm2 hxy hz0
  go_enter Try.func132, Try.ntmps132
  go_wp2_with fail
  have HMa : Hid (MemIs 139 ((w.alloc (.cells #[.iface 97 (.pointer (some ⟨bm, 0, none⟩)), .int .i64 (t : Int)] 113)).alloc (.cells #[.int .i64 0, .int .u64 0, .slice none 0 0] 39)) bm bw l c) := Lib.hid ((HM.out.alloc _).alloc _)
  have HTa : Hid (RowBlk 113 ((w.alloc (.cells #[.iface 97 (.pointer (some ⟨bm, 0, none⟩)), .int .i64 (t : Int)] 113)).alloc (.cells #[.int .i64 0, .int .u64 0, .slice none 0 0] 39)) w.heap.size [.iface 97 (.pointer (some ⟨bm, 0, none⟩)), .int .i64 (t : Int)]) := Lib.hid ((RowBlk.new w [.iface 97 (.pointer (some ⟨bm, 0, none⟩)), .int .i64 (t : Int)] 113).alloc _)
  have HAa : Hid (RowBlk 39 ((w.alloc (.cells #[.iface 97 (.pointer (some ⟨bm, 0, none⟩)), .int .i64 (t : Int)] 113)).alloc (.cells #[.int .i64 0, .int .u64 0, .slice none 0 0] 39)) (w.heap.size + 1) [.int .i64 0, .int .u64 0, .slice none 0 0]) := Lib.hid (by
    have h := RowBlk.new (w.alloc (.cells #[.iface 97 (.pointer (some ⟨bm, 0, none⟩)), .int .i64 (t : Int)] 113)) [.int .i64 0, .int .u64 0, .slice none 0 0] 39
    have e : (w.alloc (.cells #[.iface 97 (.pointer (some ⟨bm, 0, none⟩)), .int .i64 (t : Int)] 113)).heap.size = w.heap.size + 1 := by simp
    rw [e] at h; exact h)
  have HBa : Hid (ButS (fun b => b = bm ∨ b = bw ∨ b = g) w ((w.alloc (.cells #[.iface 97 (.pointer (some ⟨bm, 0, none⟩)), .int .i64 (t : Int)] 113)).alloc (.cells #[.int .i64 0, .int .u64 0, .slice none 0 0] 39))) := Lib.hid (((ButS.refl _ _).alloc _).alloc _)
  have HZa : Hid (((w.alloc (.cells #[.iface 97 (.pointer (some ⟨bm, 0, none⟩)), .int .i64 (t : Int)] 113)).alloc (.cells #[.int .i64 0, .int .u64 0, .slice none 0 0] 39)).heap.size = w.heap.size + 2) := Lib.hid (by simp)
  have HGa : Hid (RowBlk 229 ((w.alloc (.cells #[.iface 97 (.pointer (some ⟨bm, 0, none⟩)), .int .i64 (t : Int)] 113)).alloc (.cells #[.int .i64 0, .int .u64 0, .slice none 0 0] 39)) g [.pointer (some ⟨br, 0, none⟩), .int .u64 (a : Int), .int .i64 (q : Int), .int .i64 ((0 : Nat) : Int), .func (.func 132) #[.pointer (some ⟨g, 0, none⟩)] #[]]) := Lib.hid ((HG.out.alloc _).alloc _)
  have HRa : Hid (RowBlk 192 ((w.alloc (.cells #[.iface 97 (.pointer (some ⟨bm, 0, none⟩)), .int .i64 (t : Int)] 113)).alloc (.cells #[.int .i64 0, .int .u64 0, .slice none 0 0] 39)) br [.int .i64 (w0 : Int), .int .i64 0, .int .i64 1, .int .i64 (m2 : Int), .slice (some ⟨be, 0, none⟩) (m1 : Nat) m1, .int .u64 (s.tot : Int), .int .i64 (s.cur : Int)]) := Lib.hid ((HR.out.alloc _).alloc _)
  have HEa : Hid (RowBlk 37 ((w.alloc (.cells #[.iface 97 (.pointer (some ⟨bm, 0, none⟩)), .int .i64 (t : Int)] 113)).alloc (.cells #[.int .i64 0, .int .u64 0, .slice none 0 0] 39)) be (s.ent.map (fun (x : Nat) => Value.int .u64 (x : Int)))) := Lib.hid ((HE.out.alloc _).alloc _)
  generalize ((w.alloc (.cells #[.iface 97 (.pointer (some ⟨bm, 0, none⟩)), .int .i64 (t : Int)] 113)).alloc (.cells #[.int .i64 0, .int .u64 0, .slice none 0 0] 39)) = wa at HMa HTa HAa HBa HZa HGa HRa HEa ⊢
  have t0 : wa.cell? ⟨w.heap.size, 0, none⟩ = some (.iface 97 (.pointer (some ⟨bm, 0, none⟩))) := HTa.out.cell rfl
  have g0 : wa.cell? ⟨g, 0, none⟩ = some (.pointer (some ⟨br, 0, none⟩)) := HGa.out.cell rfl
  have g2 : wa.cell? ⟨g, 2, none⟩ = some (.int .i64 (q : Int)) := HGa.out.cell rfl
  have r4 : wa.cell? ⟨br, 4, none⟩ = some (.slice (some ⟨be, 0, none⟩) (m1 : Nat) m1) := HRa.out.cell rfl
  have eq : wa.cell? ⟨be, q, none⟩ = some (.int .u64 (y : Int)) := HEa.out.cell HE2.out
  go_region_held3 (fun w' => w'.cell? ⟨w.heap.size, 0, none⟩ = some (.iface 97 (.pointer (some ⟨bm, 0, none⟩))) ∧ w'.cell? ⟨g, 0, none⟩ = some (.pointer (some ⟨br, 0, none⟩)) ∧ w'.cell? ⟨g, 2, none⟩ = some (.int .i64 (q : Int)) ∧ w'.cell? ⟨br, 4, none⟩ = some (.slice (some ⟨be, 0, none⟩) (m1 : Nat) m1) ∧ w'.cell? ⟨be, q, none⟩ = some (.int .u64 (y : Int)))
    (first | with_reducible exact ⟨t0, g0, g2, r4, eq⟩ | go_keep)
    (first
      | (go_at_call 134
         refine (HLF.out _ (⟨by rw [HRV.out]; exact HRa.out.drew, HEa.out.drew⟩ : RegIs n w0 br be s wa.drew)).mono ?_
         rintro e w4 ⟨rfl, rfl⟩)
      | (go_at_call 196
         refine (HSW.out _ HMa.out.drew).mono ?_
         rintro e w4 ⟨rfl, hM4, hB4⟩
         have HG4 := Lib.hid (HGa.out.drew.same (hB4.block (g) HGa.out.lt hgm hgw))
         have HR4 := Lib.hid (HRa.out.drew.same (hB4.block (br) HRa.out.lt hrm hrw))
         have HE4 := Lib.hid (HEa.out.drew.same (hB4.block (be) HEa.out.lt hem hew))
         have HT4 := Lib.hid (HTa.out.drew.same (hB4.block (w.heap.size) HTa.out.lt (by omega) (by omega)))
         have HA4 := Lib.hid (HAa.out.drew.same (hB4.block (w.heap.size + 1) HAa.out.lt (by omega) (by omega)))
         have HM4 := Lib.hid hM4
         have HB4 : Hid (ButS (fun b => b = bm ∨ b = bw ∨ b = g) w w4) := Lib.hid (HBa.out.drew.trans (ButS.of_but hB4 (.inl rfl) (.inr (.inl rfl))))
         have t0 : w4.cell? ⟨w.heap.size, 0, none⟩ = some (.iface 97 (.pointer (some ⟨bm, 0, none⟩))) := HT4.out.cell rfl
         have g0 : w4.cell? ⟨g, 0, none⟩ = some (.pointer (some ⟨br, 0, none⟩)) := HG4.out.cell rfl
         have g2 : w4.cell? ⟨g, 2, none⟩ = some (.int .i64 (q : Int)) := HG4.out.cell rfl
         have r4 : w4.cell? ⟨br, 4, none⟩ = some (.slice (some ⟨be, 0, none⟩) (m1 : Nat) m1) := HR4.out.cell rfl
         have eq : w4.cell? ⟨be, q, none⟩ = some (.int .u64 (y : Int)) := HE4.out.cell HE2.out
         clear hM4 hB4)
      | fail)
  rename_i hHeld
  clear hHeld t0 g0 g2 r4 eq
  have n1 : g ≠ w.heap.size + 1 := by omega
  have n2 : w.heap.size + 1 ≠ g := by omega
  have g0 : w4.cell? ⟨g, 0, none⟩ = some (.pointer (some ⟨br, 0, none⟩)) := HG4.out.cell rfl
  have g2 : w4.cell? ⟨g, 2, none⟩ = some (.int .i64 (q : Int)) := HG4.out.cell rfl
  have HP : Hid (∀ v : Value, (w4.setCell ⟨g, 2, none⟩ v).drew.cell? ⟨g, 0, none⟩ = some (.pointer (some ⟨br, 0, none⟩))) := Lib.hid (fun v => (HG4.out.put 2 v).drew.cell rfl)
  have HREG : Hid (RegIs n w0 br be s w4.drew) := Lib.hid ⟨by rw [HRV.out]; exact HR4.out.drew, HE4.out.drew⟩
  have fz4 : ∀ j, w4.frozen? ⟨g, j, none⟩ = false := fun j => HG4.out.free
  go_wp2_with fail
  go_region_with
    (first
      | (go_at_call 131
         refine (HFR.out _ HREG.out).mono ?_
         rintro e w5 ⟨rfl, rfl⟩)
      | fail)
  all_goals
    have HG5 : Hid (RowBlk 229 (w4.setCell ⟨g, 2, none⟩ (.int .i64 (z : Int))).drew g [.pointer (some ⟨br, 0, none⟩), .int .u64 (a : Int), .int .i64 (z : Int), .int .i64 ((0 : Nat) : Int), .func (.func 132) #[.pointer (some ⟨g, 0, none⟩)] #[]]) := Lib.hid (HG4.out.put 2 _).drew
    have HA5 : Hid (RowBlk 39 (w4.setCell ⟨g, 2, none⟩ (.int .i64 (z : Int))).drew (w.heap.size + 1) [.int .i64 0, .int .u64 0, .slice none 0 0]) := Lib.hid (HA4.out.other (a := ⟨g, 2, none⟩) n2 _).drew
    have HM5 : Hid (MemIs 139 (w4.setCell ⟨g, 2, none⟩ (.int .i64 (z : Int))).drew bm bw L2 C2) := Lib.hid (HM4.out.setNew _ _ hgm hgw).drew
    have HB5 : Hid (ButS (fun b => b = bm ∨ b = bw ∨ b = g) w (w4.setCell ⟨g, 2, none⟩ (.int .i64 (z : Int))).drew) := Lib.hid (HB4.out.setCell (.inl (.inr (.inr rfl))) _).drew
    clear g0 g2 fz4
    generalize (w4.setCell ⟨g, 2, none⟩ (.int .i64 (z : Int))).drew = w5 at HG5 HA5 HM5 HB5 ⊢
    have a0 : w5.cell? ⟨w.heap.size + 1, 0, none⟩ = some (.int .i64 0) := HA5.out.cell rfl
    have a1 : w5.cell? ⟨w.heap.size + 1, 1, none⟩ = some (.int .u64 0) := HA5.out.cell rfl
    have a2 : w5.cell? ⟨w.heap.size + 1, 2, none⟩ = some (.slice none 0 0) := HA5.out.cell rfl
    have z0 : ∀ j, w5.frozen? ⟨w.heap.size + 1, j, none⟩ = false := fun j => HA5.out.free
    have HX : Hid (RowBlk 39 (((w5.setCell ⟨w.heap.size + 1, 0, none⟩ (.int .i64 0)).setCell ⟨w.heap.size + 1, 1, none⟩ (.int .u64 0)).setCell ⟨w.heap.size + 1, 2, none⟩ (.slice none 0 0)) (w.heap.size + 1) [.int .i64 0, .int .u64 0, .slice none 0 0] ∧ RowBlk 229 (((w5.setCell ⟨w.heap.size + 1, 0, none⟩ (.int .i64 0)).setCell ⟨w.heap.size + 1, 1, none⟩ (.int .u64 0)).setCell ⟨w.heap.size + 1, 2, none⟩ (.slice none 0 0)) g [.pointer (some ⟨br, 0, none⟩), .int .u64 (a : Int), .int .i64 (z : Int), .int .i64 ((0 : Nat) : Int), .func (.func 132) #[.pointer (some ⟨g, 0, none⟩)] #[]] ∧ MemIs 139 (((w5.setCell ⟨w.heap.size + 1, 0, none⟩ (.int .i64 0)).setCell ⟨w.heap.size + 1, 1, none⟩ (.int .u64 0)).setCell ⟨w.heap.size + 1, 2, none⟩ (.slice none 0 0)) bm bw L2 C2 ∧ ButS (fun b => b = bm ∨ b = bw ∨ b = g) w (((w5.setCell ⟨w.heap.size + 1, 0, none⟩ (.int .i64 0)).setCell ⟨w.heap.size + 1, 1, none⟩ (.int .u64 0)).setCell ⟨w.heap.size + 1, 2, none⟩ (.slice none 0 0))) := Lib.hid
      ⟨(((HA5.out.put 0 _).put 1 _).put 2 _), (((HG5.out.other (a := ⟨w.heap.size + 1, 0, none⟩) n1 _).other (a := ⟨w.heap.size + 1, 1, none⟩) n1 _).other (a := ⟨w.heap.size + 1, 2, none⟩) n1 _), (((HM5.out.setNew _ _ (by omega) (by omega)).setNew _ _ (by omega) (by omega)).setNew _ _ (by omega) (by omega)), (((HB5.out.setCell (x := ⟨w.heap.size + 1, 0, none⟩) (.inr (by show w.heap.size ≤ w.heap.size + 1; omega)) _).setCell (x := ⟨w.heap.size + 1, 1, none⟩) (.inr (by show w.heap.size ≤ w.heap.size + 1; omega)) _).setCell (x := ⟨w.heap.size + 1, 2, none⟩) (.inr (by show w.heap.size ≤ w.heap.size + 1; omega)) _)⟩
    go_wp2_with fail
    generalize (((w5.setCell ⟨w.heap.size + 1, 0, none⟩ (.int .i64 0)).setCell ⟨w.heap.size + 1, 1, none⟩ (.int .u64 0)).setCell ⟨w.heap.size + 1, 2, none⟩ (.slice none 0 0)) = W5 at HX ⊢
    have q0 := HX.out.1.cell (i := 0) rfl
    have q1 := HX.out.1.cell (i := 1) rfl
    have q2 := HX.out.1.cell (i := 2) rfl
    exact bodyPost_ret (v := .tuple #[.agg #[.int .i64 0, .int .u64 0, .slice none 0 0], .bool false]) (by simp [results, Try.results132, go_sem, q0, q1, q2]) rfl ⟨rfl, HX.out.2.2.1, HX.out.2.2.2, HX.out.2.1⟩
end
section
open Go.ChangeShapes Go.WideShapes Go.ChangeAt Go.RowKit
set_option linter.unusedVariables false
set_option linter.unusedSimpArgs false
def PinFill (br a q j g f : Nat) (l : List Nat) (c : Cn) (bm bw : Nat) (w : World) (en : Ending) (w' : World) : Prop := en = .returned (.tuple #[.agg #[.int .i64 0, .int .u64 0, .slice none 0 0], .bool false]) ∧ MemIs 139 w' bm bw l c ∧ ButS (fun b => b = bm ∨ b = bw ∨ b = g) w w' ∧ RowBlk 229 w' g (WrVs br a q j g f)
set_option maxRecDepth 100000 in
set_option maxHeartbeats 2000000 in
theorem pin_fillM (n w0 br be g bm bw a q j z : Nat) (s : PinS) (l : List Nat) (c : Cn) (t : Nat) (w : World) (hM : MemIs 139 w bm bw l c) (hR : RegIs n w0 br be s w) (hg : RowBlk 229 w g (WrVs br a q j g 135)) (hq : q ≤ n) (hn : n ≤ 16) (hw0 : w0 ≤ 8) (hj : j < w0) (hjl : ¬ j + 1 = w0) (h0 : wdA n w0 q j < l.length) (hl : l.length ≤ 65536) (hc : c.w < 9223372036854775807) (ha : a < 18446744073709551616) (hz : (a + j) % 18446744073709551616 = z) (hew : be ≠ bw) :
    Calls Try.prog 135 #[.pointer (some ⟨g, 0, none⟩), turnAgg bm (t : Int)] w (PinFill br a q (j + 1) g 135 ((Acc.wr (wdA n w0 q j) z).run l c).2.1 ((Acc.wr (wdA n w0 q j) z).run l c).2.2 bm bw w) := by
  have hmf : ∀ (fn : Fn) (first cap : Array Value) (w : World), (Instr.makeFunc fn first cap).run Try.prog w = .ok (.func fn first cap) w := fun _ _ _ _ => rfl
  have hgm : g ≠ bm := by intro e; have h1 := hg; have h2 := hM.1; unfold RowBlk at h1; rw [e, h2] at h1; simp at h1
  have hgw : g ≠ bw := by intro e; have h1 := hg; have h2 := hM.2.1; unfold RowBlk at h1; rw [e, h2] at h1; simp at h1
  have hrm : br ≠ bm := by intro e; have h1 := hR.1; have h2 := hM.1; unfold RowBlk at h1; rw [e, h2] at h1; simp at h1
  have hrw : br ≠ bw := by intro e; have h1 := hR.1; have h2 := hM.2.1; unfold RowBlk at h1; rw [e, h2] at h1; simp at h1
  have hem : be ≠ bm := by intro e; have h1 := hR.2; have h2 := hM.1; unfold RowBlk at h1; rw [e, h2] at h1; simp at h1
  obtain ⟨wa0, hwa0⟩ : ∃ wa0, wdA n w0 q j = wa0 := ⟨_, rfl⟩
  have HWD : Hid (∀ W : World, RegIs n w0 br be s W → Calls Try.prog 137 #[.pointer (some ⟨br, 0, none⟩), .int .i64 (q : Int), .int .i64 (j : Int)] W fun e w' => e = .returned (.int .i64 (wa0 : Int)) ∧ ∃ m, w' = W.drewN m) := Lib.hid (fun W hW => by rw [← hwa0]; exact pin_word n w0 br be q j s W hW hn hw0 (by omega) (by omega))
  rw [hwa0] at h0 ⊢
  obtain ⟨L2, hL2⟩ : ∃ L2, ((Acc.wr wa0 z).run l c).2.1 = L2 := ⟨_, rfl⟩
  obtain ⟨C2, hC2⟩ : ∃ C2, ((Acc.wr wa0 z).run l c).2.2 = C2 := ⟨_, rfl⟩
  have HSW : Hid (∀ W : World, MemIs 139 W bm bw l c → Calls Try.prog 198 #[.pointer (some ⟨bm, 0, none⟩), .int .i64 (wa0 : Int), .int .u64 (z : Int)] W fun e w' => e = .returned (.tuple #[]) ∧ MemIs 139 w' bm bw L2 C2 ∧ But bm bw W w') := Lib.hid (fun W hW => by
    have h := wr_acc (i := wa0) z hW h0 hl hc
    unfold AccPost at h
    rw [hL2, hC2] at h
    exact h)
  rw [hL2, hC2]
  have HM := Lib.hid hM
  have HG : Hid (RowBlk 229 w g [.pointer (some ⟨br, 0, none⟩), .int .u64 (a : Int), .int .i64 (q : Int), .int .i64 (j : Int), .func (.func 135) #[.pointer (some ⟨g, 0, none⟩)] #[]]) := Lib.hid hg
  have HR := Lib.hid hR.1
  have HE := Lib.hid hR.2
  have hmm := m_Write ⟨bm, 0, none⟩
  have hbm := hM.lt1
  have hbw := hM.lt2
  have hgl := hg.lt
  have hrl := hR.1.lt
  have hel := hR.2.lt
  have hgr : g ≠ br := row_ne hg hR.1 (by decide)
  have hrg : br ≠ g := fun e => hgr e.symm
  have hge : g ≠ be := row_ne hg hR.2 (by decide)
  have hzi : ((a : Int) + (j : Int)) % 18446744073709551616 = (z : Int) := by omega
  have hzw : IntKind.u64.wrap ((a : Int) + (j : Int)) = (z : Int) := by rw [IntKind.wrap_u64]; exact hzi
  have hjw : IntKind.u64.wrap (j : Int) = (j : Int) := by rw [IntKind.wrap_u64]; omega
  have hj8 : j < 8 := by omega
  unfold turnAgg
  clear hM hg hR hL2 hC2 h0 hl hc hwa0 hz
  go_enter Try.func135, Try.ntmps135
  go_wp2_with fail
  have HMa : Hid (MemIs 139 ((w.alloc (.cells #[.iface 97 (.pointer (some ⟨bm, 0, none⟩)), .int .i64 (t : Int)] 113)).alloc (.cells #[.int .i64 0, .int .u64 0, .slice none 0 0] 39)) bm bw l c) := Lib.hid ((HM.out.alloc _).alloc _)
  have HTa : Hid (RowBlk 113 ((w.alloc (.cells #[.iface 97 (.pointer (some ⟨bm, 0, none⟩)), .int .i64 (t : Int)] 113)).alloc (.cells #[.int .i64 0, .int .u64 0, .slice none 0 0] 39)) w.heap.size [.iface 97 (.pointer (some ⟨bm, 0, none⟩)), .int .i64 (t : Int)]) := Lib.hid ((RowBlk.new w [.iface 97 (.pointer (some ⟨bm, 0, none⟩)), .int .i64 (t : Int)] 113).alloc _)
  have HAa : Hid (RowBlk 39 ((w.alloc (.cells #[.iface 97 (.pointer (some ⟨bm, 0, none⟩)), .int .i64 (t : Int)] 113)).alloc (.cells #[.int .i64 0, .int .u64 0, .slice none 0 0] 39)) (w.heap.size + 1) [.int .i64 0, .int .u64 0, .slice none 0 0]) := Lib.hid (by
    have h := RowBlk.new (w.alloc (.cells #[.iface 97 (.pointer (some ⟨bm, 0, none⟩)), .int .i64 (t : Int)] 113)) [.int .i64 0, .int .u64 0, .slice none 0 0] 39
    have e : (w.alloc (.cells #[.iface 97 (.pointer (some ⟨bm, 0, none⟩)), .int .i64 (t : Int)] 113)).heap.size = w.heap.size + 1 := by simp
    rw [e] at h; exact h)
  have HBa : Hid (ButS (fun b => b = bm ∨ b = bw ∨ b = g) w ((w.alloc (.cells #[.iface 97 (.pointer (some ⟨bm, 0, none⟩)), .int .i64 (t : Int)] 113)).alloc (.cells #[.int .i64 0, .int .u64 0, .slice none 0 0] 39))) := Lib.hid (((ButS.refl _ _).alloc _).alloc _)
  have HZa : Hid (((w.alloc (.cells #[.iface 97 (.pointer (some ⟨bm, 0, none⟩)), .int .i64 (t : Int)] 113)).alloc (.cells #[.int .i64 0, .int .u64 0, .slice none 0 0] 39)).heap.size = w.heap.size + 2) := Lib.hid (by simp)
  have HGa : Hid (RowBlk 229 ((w.alloc (.cells #[.iface 97 (.pointer (some ⟨bm, 0, none⟩)), .int .i64 (t : Int)] 113)).alloc (.cells #[.int .i64 0, .int .u64 0, .slice none 0 0] 39)) g [.pointer (some ⟨br, 0, none⟩), .int .u64 (a : Int), .int .i64 (q : Int), .int .i64 (j : Int), .func (.func 135) #[.pointer (some ⟨g, 0, none⟩)] #[]]) := Lib.hid ((HG.out.alloc _).alloc _)
  have HRa : Hid (RowBlk 192 ((w.alloc (.cells #[.iface 97 (.pointer (some ⟨bm, 0, none⟩)), .int .i64 (t : Int)] 113)).alloc (.cells #[.int .i64 0, .int .u64 0, .slice none 0 0] 39)) br (RegVs n w0 be s)) := Lib.hid ((HR.out.alloc _).alloc _)
  have HEa : Hid (RowBlk 37 ((w.alloc (.cells #[.iface 97 (.pointer (some ⟨bm, 0, none⟩)), .int .i64 (t : Int)] 113)).alloc (.cells #[.int .i64 0, .int .u64 0, .slice none 0 0] 39)) be (s.ent.map (fun (x : Nat) => Value.int .u64 (x : Int)))) := Lib.hid ((HE.out.alloc _).alloc _)
  generalize ((w.alloc (.cells #[.iface 97 (.pointer (some ⟨bm, 0, none⟩)), .int .i64 (t : Int)] 113)).alloc (.cells #[.int .i64 0, .int .u64 0, .slice none 0 0] 39)) = wa at HMa HTa HAa HBa HZa HGa HRa HEa ⊢
  have t0 : wa.cell? ⟨w.heap.size, 0, none⟩ = some (.iface 97 (.pointer (some ⟨bm, 0, none⟩))) := HTa.out.cell rfl
  have g0 : wa.cell? ⟨g, 0, none⟩ = some (.pointer (some ⟨br, 0, none⟩)) := HGa.out.cell rfl
  have g1 : wa.cell? ⟨g, 1, none⟩ = some (.int .u64 (a : Int)) := HGa.out.cell rfl
  have g2 : wa.cell? ⟨g, 2, none⟩ = some (.int .i64 (q : Int)) := HGa.out.cell rfl
  have g3 : wa.cell? ⟨g, 3, none⟩ = some (.int .i64 (j : Int)) := HGa.out.cell rfl
  go_region_held3 (fun w' => w'.cell? ⟨w.heap.size, 0, none⟩ = some (.iface 97 (.pointer (some ⟨bm, 0, none⟩))) ∧ w'.cell? ⟨g, 0, none⟩ = some (.pointer (some ⟨br, 0, none⟩)) ∧ w'.cell? ⟨g, 1, none⟩ = some (.int .u64 (a : Int)) ∧ w'.cell? ⟨g, 2, none⟩ = some (.int .i64 (q : Int)) ∧ w'.cell? ⟨g, 3, none⟩ = some (.int .i64 (j : Int)))
    (first | with_reducible exact ⟨t0, g0, g1, g2, g3⟩ | go_keep)
    (first
      | (go_at_call 137
         refine (HWD.out _ ⟨HRa.out.drew, HEa.out.drew⟩).mono ?_
         rintro e w4 ⟨rfl, md, rfl⟩)
      | (go_at_call 198
         refine (HSW.out _ (HMa.out.drewN _)).mono ?_
         rintro e w4 ⟨rfl, hM4, hB4⟩
         have HG4 := Lib.hid ((HGa.out.drewN _).same (hB4.block (g) HGa.out.lt hgm hgw))
         have HR4 := Lib.hid ((HRa.out.drewN _).same (hB4.block (br) HRa.out.lt hrm hrw))
         have HE4 := Lib.hid ((HEa.out.drewN _).same (hB4.block (be) HEa.out.lt hem hew))
         have HT4 := Lib.hid ((HTa.out.drewN _).same (hB4.block (w.heap.size) HTa.out.lt (by omega) (by omega)))
         have HA4 := Lib.hid ((HAa.out.drewN _).same (hB4.block (w.heap.size + 1) HAa.out.lt (by omega) (by omega)))
         have HM4 := Lib.hid hM4
         have HB4 : Hid (ButS (fun b => b = bm ∨ b = bw ∨ b = g) w w4) := Lib.hid ((HBa.out.drewN _).trans (ButS.of_but hB4 (.inl rfl) (.inr (.inl rfl))))
         have t0 : w4.cell? ⟨w.heap.size, 0, none⟩ = some (.iface 97 (.pointer (some ⟨bm, 0, none⟩))) := HT4.out.cell rfl
         have g0 : w4.cell? ⟨g, 0, none⟩ = some (.pointer (some ⟨br, 0, none⟩)) := HG4.out.cell rfl
         have g1 : w4.cell? ⟨g, 1, none⟩ = some (.int .u64 (a : Int)) := HG4.out.cell rfl
         have g2 : w4.cell? ⟨g, 2, none⟩ = some (.int .i64 (q : Int)) := HG4.out.cell rfl
         have g3 : w4.cell? ⟨g, 3, none⟩ = some (.int .i64 (j : Int)) := HG4.out.cell rfl
         clear hM4 hB4))
  rename_i hHeld
  clear hHeld t0 g0 g1 g2 g3
  have g0 : w4.cell? ⟨g, 0, none⟩ = some (.pointer (some ⟨br, 0, none⟩)) := HG4.out.cell rfl
  have g3 : w4.cell? ⟨g, 3, none⟩ = some (.int .i64 (j : Int)) := HG4.out.cell rfl
  have r0 : w4.cell? ⟨br, 0, none⟩ = some (.int .i64 (w0 : Int)) := HR4.out.cell rfl
  have fz4 : ∀ j, w4.frozen? ⟨g, j, none⟩ = false := fun j => HG4.out.free
  have hjl2 : ¬ (j : Int) + 1 = (w0 : Int) := by omega
  have hjl3 : ((j : Int) + 1 == (w0 : Int)) = false := by rw [beq_eq_false_iff_ne]; exact hjl2
  go_wp2_with fail
  go_quiet (fail)
  have hd0 : ((j + 1 : Nat) : Int) = (j : Int) + 1 := by omega
  have n1 : g ≠ w.heap.size + 1 := by omega
  have n2 : w.heap.size + 1 ≠ g := by omega
  have HG5 : Hid (RowBlk 229 ((w4.setCell ⟨g, 3, none⟩ (.int .i64 ((j : Int) + 1))).drewN nq) g [.pointer (some ⟨br, 0, none⟩), .int .u64 (a : Int), .int .i64 (q : Int), .int .i64 ((j : Int) + 1), .func (.func 135) #[.pointer (some ⟨g, 0, none⟩)] #[]]) := Lib.hid ((HG4.out.put 3 _).drewN nq)
  have HA5 : Hid (RowBlk 39 ((w4.setCell ⟨g, 3, none⟩ (.int .i64 ((j : Int) + 1))).drewN nq) (w.heap.size + 1) [.int .i64 0, .int .u64 0, .slice none 0 0]) := Lib.hid ((HA4.out.other (a := ⟨g, 3, none⟩) n2 _).drewN nq)
  have HM5 : Hid (MemIs 139 ((w4.setCell ⟨g, 3, none⟩ (.int .i64 ((j : Int) + 1))).drewN nq) bm bw L2 C2) := Lib.hid ((HM4.out.setNew _ _ hgm hgw).drewN nq)
  have HB5 : Hid (ButS (fun b => b = bm ∨ b = bw ∨ b = g) w ((w4.setCell ⟨g, 3, none⟩ (.int .i64 ((j : Int) + 1))).drewN nq)) := Lib.hid ((HB4.out.setCell (.inl (.inr (.inr rfl))) _).drewN nq)
  generalize ((w4.setCell ⟨g, 3, none⟩ (.int .i64 ((j : Int) + 1))).drewN nq) = w5 at HG5 HA5 HM5 HB5 ⊢
  clear g0 g3 r0 fz4
  have a0 : w5.cell? ⟨w.heap.size + 1, 0, none⟩ = some (.int .i64 0) := HA5.out.cell rfl
  have a1 : w5.cell? ⟨w.heap.size + 1, 1, none⟩ = some (.int .u64 0) := HA5.out.cell rfl
  have a2 : w5.cell? ⟨w.heap.size + 1, 2, none⟩ = some (.slice none 0 0) := HA5.out.cell rfl
  have z0 : ∀ j, w5.frozen? ⟨w.heap.size + 1, j, none⟩ = false := fun j => HA5.out.free
  have HX : Hid (RowBlk 39 (((w5.setCell ⟨w.heap.size + 1, 0, none⟩ (.int .i64 0)).setCell ⟨w.heap.size + 1, 1, none⟩ (.int .u64 0)).setCell ⟨w.heap.size + 1, 2, none⟩ (.slice none 0 0)) (w.heap.size + 1) [.int .i64 0, .int .u64 0, .slice none 0 0] ∧ RowBlk 229 (((w5.setCell ⟨w.heap.size + 1, 0, none⟩ (.int .i64 0)).setCell ⟨w.heap.size + 1, 1, none⟩ (.int .u64 0)).setCell ⟨w.heap.size + 1, 2, none⟩ (.slice none 0 0)) g [.pointer (some ⟨br, 0, none⟩), .int .u64 (a : Int), .int .i64 (q : Int), .int .i64 ((j : Int) + 1), .func (.func 135) #[.pointer (some ⟨g, 0, none⟩)] #[]] ∧ MemIs 139 (((w5.setCell ⟨w.heap.size + 1, 0, none⟩ (.int .i64 0)).setCell ⟨w.heap.size + 1, 1, none⟩ (.int .u64 0)).setCell ⟨w.heap.size + 1, 2, none⟩ (.slice none 0 0)) bm bw L2 C2 ∧ ButS (fun b => b = bm ∨ b = bw ∨ b = g) w (((w5.setCell ⟨w.heap.size + 1, 0, none⟩ (.int .i64 0)).setCell ⟨w.heap.size + 1, 1, none⟩ (.int .u64 0)).setCell ⟨w.heap.size + 1, 2, none⟩ (.slice none 0 0))) := Lib.hid
    ⟨(((HA5.out.put 0 _).put 1 _).put 2 _), (((HG5.out.other (a := ⟨w.heap.size + 1, 0, none⟩) n1 _).other (a := ⟨w.heap.size + 1, 1, none⟩) n1 _).other (a := ⟨w.heap.size + 1, 2, none⟩) n1 _), (((HM5.out.setNew _ _ (by omega) (by omega)).setNew _ _ (by omega) (by omega)).setNew _ _ (by omega) (by omega)), (((HB5.out.setCell (x := ⟨w.heap.size + 1, 0, none⟩) (.inr (by show w.heap.size ≤ w.heap.size + 1; omega)) _).setCell (x := ⟨w.heap.size + 1, 1, none⟩) (.inr (by show w.heap.size ≤ w.heap.size + 1; omega)) _).setCell (x := ⟨w.heap.size + 1, 2, none⟩) (.inr (by show w.heap.size ≤ w.heap.size + 1; omega)) _)⟩
  go_wp2_with fail
  generalize (((w5.setCell ⟨w.heap.size + 1, 0, none⟩ (.int .i64 0)).setCell ⟨w.heap.size + 1, 1, none⟩ (.int .u64 0)).setCell ⟨w.heap.size + 1, 2, none⟩ (.slice none 0 0)) = W5 at HX ⊢
  have q0 := HX.out.1.cell (i := 0) rfl
  have q1 := HX.out.1.cell (i := 1) rfl
  have q2 := HX.out.1.cell (i := 2) rfl
  exact bodyPost_ret (v := .tuple #[.agg #[.int .i64 0, .int .u64 0, .slice none 0 0], .bool false]) (by simp [results, Try.results135, go_sem, q0, q1, q2]) rfl ⟨rfl, HX.out.2.2.1, HX.out.2.2.2, by unfold WrVs fnV; rw [hd0]; exact HX.out.2.1⟩
set_option maxRecDepth 100000 in
set_option maxHeartbeats 2000000 in
theorem pin_fillL (n w0 br be g bm bw a q j z : Nat) (s : PinS) (l : List Nat) (c : Cn) (t : Nat) (w : World) (hM : MemIs 139 w bm bw l c) (hR : RegIs n w0 br be s w) (hg : RowBlk 229 w g (WrVs br a q j g 135)) (hq : q ≤ n) (hn : n ≤ 16) (hw0 : w0 ≤ 8) (hj : j < w0) (hjl : j + 1 = w0) (h0 : wdA n w0 q j < l.length) (hl : l.length ≤ 65536) (hc : c.w < 9223372036854775807) (ha : a < 18446744073709551616) (hz : (a + j) % 18446744073709551616 = z) (hew : be ≠ bw) :
    Calls Try.prog 135 #[.pointer (some ⟨g, 0, none⟩), turnAgg bm (t : Int)] w (PinFill br a q (j + 1) g 138 ((Acc.wr (wdA n w0 q j) z).run l c).2.1 ((Acc.wr (wdA n w0 q j) z).run l c).2.2 bm bw w) := by
  obtain rfl : w0 = j + 1 := hjl.symm
  have hmf : ∀ (fn : Fn) (first cap : Array Value) (w : World), (Instr.makeFunc fn first cap).run Try.prog w = .ok (.func fn first cap) w := fun _ _ _ _ => rfl
  have hgm : g ≠ bm := by intro e; have h1 := hg; have h2 := hM.1; unfold RowBlk at h1; rw [e, h2] at h1; simp at h1
  have hgw : g ≠ bw := by intro e; have h1 := hg; have h2 := hM.2.1; unfold RowBlk at h1; rw [e, h2] at h1; simp at h1
  have hrm : br ≠ bm := by intro e; have h1 := hR.1; have h2 := hM.1; unfold RowBlk at h1; rw [e, h2] at h1; simp at h1
  have hrw : br ≠ bw := by intro e; have h1 := hR.1; have h2 := hM.2.1; unfold RowBlk at h1; rw [e, h2] at h1; simp at h1
  have hem : be ≠ bm := by intro e; have h1 := hR.2; have h2 := hM.1; unfold RowBlk at h1; rw [e, h2] at h1; simp at h1
  obtain ⟨wa0, hwa0⟩ : ∃ wa0, wdA n (j + 1) q j = wa0 := ⟨_, rfl⟩
  have HWD : Hid (∀ W : World, RegIs n (j + 1) br be s W → Calls Try.prog 137 #[.pointer (some ⟨br, 0, none⟩), .int .i64 (q : Int), .int .i64 (j : Int)] W fun e w' => e = .returned (.int .i64 (wa0 : Int)) ∧ ∃ m, w' = W.drewN m) := Lib.hid (fun W hW => by rw [← hwa0]; exact pin_word n (j + 1) br be q j s W hW hn hw0 (by omega) (by omega))
  rw [hwa0] at h0 ⊢
  obtain ⟨L2, hL2⟩ : ∃ L2, ((Acc.wr wa0 z).run l c).2.1 = L2 := ⟨_, rfl⟩
  obtain ⟨C2, hC2⟩ : ∃ C2, ((Acc.wr wa0 z).run l c).2.2 = C2 := ⟨_, rfl⟩
  have HSW : Hid (∀ W : World, MemIs 139 W bm bw l c → Calls Try.prog 198 #[.pointer (some ⟨bm, 0, none⟩), .int .i64 (wa0 : Int), .int .u64 (z : Int)] W fun e w' => e = .returned (.tuple #[]) ∧ MemIs 139 w' bm bw L2 C2 ∧ But bm bw W w') := Lib.hid (fun W hW => by
    have h := wr_acc (i := wa0) z hW h0 hl hc
    unfold AccPost at h
    rw [hL2, hC2] at h
    exact h)
  rw [hL2, hC2]
  have HM := Lib.hid hM
  have HG : Hid (RowBlk 229 w g [.pointer (some ⟨br, 0, none⟩), .int .u64 (a : Int), .int .i64 (q : Int), .int .i64 (j : Int), .func (.func 135) #[.pointer (some ⟨g, 0, none⟩)] #[]]) := Lib.hid hg
  have HR := Lib.hid hR.1
  have HE := Lib.hid hR.2
  have hmm := m_Write ⟨bm, 0, none⟩
  have hbm := hM.lt1
  have hbw := hM.lt2
  have hgl := hg.lt
  have hrl := hR.1.lt
  have hel := hR.2.lt
  have hgr : g ≠ br := row_ne hg hR.1 (by decide)
  have hrg : br ≠ g := fun e => hgr e.symm
  have hge : g ≠ be := row_ne hg hR.2 (by decide)
  have hzi : ((a : Int) + (j : Int)) % 18446744073709551616 = (z : Int) := by omega
  have hzw : IntKind.u64.wrap ((a : Int) + (j : Int)) = (z : Int) := by rw [IntKind.wrap_u64]; exact hzi
  have hjw : IntKind.u64.wrap (j : Int) = (j : Int) := by rw [IntKind.wrap_u64]; omega
  have hj8 : j < 8 := by omega
  unfold turnAgg
  clear hM hg hR hL2 hC2 h0 hl hc hwa0 hz
  go_enter Try.func135, Try.ntmps135
  go_wp2_with fail
  have HMa : Hid (MemIs 139 ((w.alloc (.cells #[.iface 97 (.pointer (some ⟨bm, 0, none⟩)), .int .i64 (t : Int)] 113)).alloc (.cells #[.int .i64 0, .int .u64 0, .slice none 0 0] 39)) bm bw l c) := Lib.hid ((HM.out.alloc _).alloc _)
  have HTa : Hid (RowBlk 113 ((w.alloc (.cells #[.iface 97 (.pointer (some ⟨bm, 0, none⟩)), .int .i64 (t : Int)] 113)).alloc (.cells #[.int .i64 0, .int .u64 0, .slice none 0 0] 39)) w.heap.size [.iface 97 (.pointer (some ⟨bm, 0, none⟩)), .int .i64 (t : Int)]) := Lib.hid ((RowBlk.new w [.iface 97 (.pointer (some ⟨bm, 0, none⟩)), .int .i64 (t : Int)] 113).alloc _)
  have HAa : Hid (RowBlk 39 ((w.alloc (.cells #[.iface 97 (.pointer (some ⟨bm, 0, none⟩)), .int .i64 (t : Int)] 113)).alloc (.cells #[.int .i64 0, .int .u64 0, .slice none 0 0] 39)) (w.heap.size + 1) [.int .i64 0, .int .u64 0, .slice none 0 0]) := Lib.hid (by
    have h := RowBlk.new (w.alloc (.cells #[.iface 97 (.pointer (some ⟨bm, 0, none⟩)), .int .i64 (t : Int)] 113)) [.int .i64 0, .int .u64 0, .slice none 0 0] 39
    have e : (w.alloc (.cells #[.iface 97 (.pointer (some ⟨bm, 0, none⟩)), .int .i64 (t : Int)] 113)).heap.size = w.heap.size + 1 := by simp
    rw [e] at h; exact h)
  have HBa : Hid (ButS (fun b => b = bm ∨ b = bw ∨ b = g) w ((w.alloc (.cells #[.iface 97 (.pointer (some ⟨bm, 0, none⟩)), .int .i64 (t : Int)] 113)).alloc (.cells #[.int .i64 0, .int .u64 0, .slice none 0 0] 39))) := Lib.hid (((ButS.refl _ _).alloc _).alloc _)
  have HZa : Hid (((w.alloc (.cells #[.iface 97 (.pointer (some ⟨bm, 0, none⟩)), .int .i64 (t : Int)] 113)).alloc (.cells #[.int .i64 0, .int .u64 0, .slice none 0 0] 39)).heap.size = w.heap.size + 2) := Lib.hid (by simp)
  have HGa : Hid (RowBlk 229 ((w.alloc (.cells #[.iface 97 (.pointer (some ⟨bm, 0, none⟩)), .int .i64 (t : Int)] 113)).alloc (.cells #[.int .i64 0, .int .u64 0, .slice none 0 0] 39)) g [.pointer (some ⟨br, 0, none⟩), .int .u64 (a : Int), .int .i64 (q : Int), .int .i64 (j : Int), .func (.func 135) #[.pointer (some ⟨g, 0, none⟩)] #[]]) := Lib.hid ((HG.out.alloc _).alloc _)
  have HRa : Hid (RowBlk 192 ((w.alloc (.cells #[.iface 97 (.pointer (some ⟨bm, 0, none⟩)), .int .i64 (t : Int)] 113)).alloc (.cells #[.int .i64 0, .int .u64 0, .slice none 0 0] 39)) br (RegVs n (j + 1) be s)) := Lib.hid ((HR.out.alloc _).alloc _)
  have HEa : Hid (RowBlk 37 ((w.alloc (.cells #[.iface 97 (.pointer (some ⟨bm, 0, none⟩)), .int .i64 (t : Int)] 113)).alloc (.cells #[.int .i64 0, .int .u64 0, .slice none 0 0] 39)) be (s.ent.map (fun (x : Nat) => Value.int .u64 (x : Int)))) := Lib.hid ((HE.out.alloc _).alloc _)
  generalize ((w.alloc (.cells #[.iface 97 (.pointer (some ⟨bm, 0, none⟩)), .int .i64 (t : Int)] 113)).alloc (.cells #[.int .i64 0, .int .u64 0, .slice none 0 0] 39)) = wa at HMa HTa HAa HBa HZa HGa HRa HEa ⊢
  have t0 : wa.cell? ⟨w.heap.size, 0, none⟩ = some (.iface 97 (.pointer (some ⟨bm, 0, none⟩))) := HTa.out.cell rfl
  have g0 : wa.cell? ⟨g, 0, none⟩ = some (.pointer (some ⟨br, 0, none⟩)) := HGa.out.cell rfl
  have g1 : wa.cell? ⟨g, 1, none⟩ = some (.int .u64 (a : Int)) := HGa.out.cell rfl
  have g2 : wa.cell? ⟨g, 2, none⟩ = some (.int .i64 (q : Int)) := HGa.out.cell rfl
  have g3 : wa.cell? ⟨g, 3, none⟩ = some (.int .i64 (j : Int)) := HGa.out.cell rfl
  go_region_held3 (fun w' => w'.cell? ⟨w.heap.size, 0, none⟩ = some (.iface 97 (.pointer (some ⟨bm, 0, none⟩))) ∧ w'.cell? ⟨g, 0, none⟩ = some (.pointer (some ⟨br, 0, none⟩)) ∧ w'.cell? ⟨g, 1, none⟩ = some (.int .u64 (a : Int)) ∧ w'.cell? ⟨g, 2, none⟩ = some (.int .i64 (q : Int)) ∧ w'.cell? ⟨g, 3, none⟩ = some (.int .i64 (j : Int)))
    (first | with_reducible exact ⟨t0, g0, g1, g2, g3⟩ | go_keep)
    (first
      | (go_at_call 137
         refine (HWD.out _ ⟨HRa.out.drew, HEa.out.drew⟩).mono ?_
         rintro e w4 ⟨rfl, md, rfl⟩)
      | (go_at_call 198
         refine (HSW.out _ (HMa.out.drewN _)).mono ?_
         rintro e w4 ⟨rfl, hM4, hB4⟩
         have HG4 := Lib.hid ((HGa.out.drewN _).same (hB4.block (g) HGa.out.lt hgm hgw))
         have HR4 := Lib.hid ((HRa.out.drewN _).same (hB4.block (br) HRa.out.lt hrm hrw))
         have HE4 := Lib.hid ((HEa.out.drewN _).same (hB4.block (be) HEa.out.lt hem hew))
         have HT4 := Lib.hid ((HTa.out.drewN _).same (hB4.block (w.heap.size) HTa.out.lt (by omega) (by omega)))
         have HA4 := Lib.hid ((HAa.out.drewN _).same (hB4.block (w.heap.size + 1) HAa.out.lt (by omega) (by omega)))
         have HM4 := Lib.hid hM4
         have HB4 : Hid (ButS (fun b => b = bm ∨ b = bw ∨ b = g) w w4) := Lib.hid ((HBa.out.drewN _).trans (ButS.of_but hB4 (.inl rfl) (.inr (.inl rfl))))
         have t0 : w4.cell? ⟨w.heap.size, 0, none⟩ = some (.iface 97 (.pointer (some ⟨bm, 0, none⟩))) := HT4.out.cell rfl
         have g0 : w4.cell? ⟨g, 0, none⟩ = some (.pointer (some ⟨br, 0, none⟩)) := HG4.out.cell rfl
         have g1 : w4.cell? ⟨g, 1, none⟩ = some (.int .u64 (a : Int)) := HG4.out.cell rfl
         have g2 : w4.cell? ⟨g, 2, none⟩ = some (.int .i64 (q : Int)) := HG4.out.cell rfl
         have g3 : w4.cell? ⟨g, 3, none⟩ = some (.int .i64 (j : Int)) := HG4.out.cell rfl
         clear hM4 hB4))
  rename_i hHeld
  clear hHeld t0 g0 g1 g2 g3
  have g0 : w4.cell? ⟨g, 0, none⟩ = some (.pointer (some ⟨br, 0, none⟩)) := HG4.out.cell rfl
  have g3 : w4.cell? ⟨g, 3, none⟩ = some (.int .i64 (j : Int)) := HG4.out.cell rfl
  have r0 : w4.cell? ⟨br, 0, none⟩ = some (.int .i64 ((j : Int) + 1)) := HR4.out.cell rfl
  have fz4 : ∀ j, w4.frozen? ⟨g, j, none⟩ = false := fun j => HG4.out.free
  clear hjl
  go_wp2_with fail
  go_quiet (fail)
  have hd0 : ((j + 1 : Nat) : Int) = (j : Int) + 1 := by omega
  have n1 : g ≠ w.heap.size + 1 := by omega
  have n2 : w.heap.size + 1 ≠ g := by omega
  have HG5 : Hid (RowBlk 229 ((w4.setCell ⟨g, 3, none⟩ (.int .i64 ((j : Int) + 1))).drewN nq) g [.pointer (some ⟨br, 0, none⟩), .int .u64 (a : Int), .int .i64 (q : Int), .int .i64 ((j : Int) + 1), .func (.func 135) #[.pointer (some ⟨g, 0, none⟩)] #[]]) := Lib.hid ((HG4.out.put 3 _).drewN nq)
  have HA5 : Hid (RowBlk 39 ((w4.setCell ⟨g, 3, none⟩ (.int .i64 ((j : Int) + 1))).drewN nq) (w.heap.size + 1) [.int .i64 0, .int .u64 0, .slice none 0 0]) := Lib.hid ((HA4.out.other (a := ⟨g, 3, none⟩) n2 _).drewN nq)
  have HM5 : Hid (MemIs 139 ((w4.setCell ⟨g, 3, none⟩ (.int .i64 ((j : Int) + 1))).drewN nq) bm bw L2 C2) := Lib.hid ((HM4.out.setNew _ _ hgm hgw).drewN nq)
  have HB5 : Hid (ButS (fun b => b = bm ∨ b = bw ∨ b = g) w ((w4.setCell ⟨g, 3, none⟩ (.int .i64 ((j : Int) + 1))).drewN nq)) := Lib.hid ((HB4.out.setCell (.inl (.inr (.inr rfl))) _).drewN nq)
  generalize ((w4.setCell ⟨g, 3, none⟩ (.int .i64 ((j : Int) + 1))).drewN nq) = w5 at HG5 HA5 HM5 HB5 ⊢
  clear g0 g3 r0 fz4
  have a0 : w5.cell? ⟨w.heap.size + 1, 0, none⟩ = some (.int .i64 0) := HA5.out.cell rfl
  have a1 : w5.cell? ⟨w.heap.size + 1, 1, none⟩ = some (.int .u64 0) := HA5.out.cell rfl
  have a2 : w5.cell? ⟨w.heap.size + 1, 2, none⟩ = some (.slice none 0 0) := HA5.out.cell rfl
  have z0 : ∀ j, w5.frozen? ⟨w.heap.size + 1, j, none⟩ = false := fun j => HA5.out.free
  have g4 : w5.cell? ⟨g, 4, none⟩ = some (.func (.func 135) #[.pointer (some ⟨g, 0, none⟩)] #[]) := HG5.out.cell rfl
  have fz5 : ∀ j, w5.frozen? ⟨g, j, none⟩ = false := fun j => HG5.out.free
  have HX : Hid (RowBlk 39 ((((w5.setCell ⟨g, 4, none⟩ (.func (.func 138) #[.pointer (some ⟨g, 0, none⟩)] #[])).setCell ⟨w.heap.size + 1, 0, none⟩ (.int .i64 0)).setCell ⟨w.heap.size + 1, 1, none⟩ (.int .u64 0)).setCell ⟨w.heap.size + 1, 2, none⟩ (.slice none 0 0)) (w.heap.size + 1) [.int .i64 0, .int .u64 0, .slice none 0 0] ∧ RowBlk 229 ((((w5.setCell ⟨g, 4, none⟩ (.func (.func 138) #[.pointer (some ⟨g, 0, none⟩)] #[])).setCell ⟨w.heap.size + 1, 0, none⟩ (.int .i64 0)).setCell ⟨w.heap.size + 1, 1, none⟩ (.int .u64 0)).setCell ⟨w.heap.size + 1, 2, none⟩ (.slice none 0 0)) g [.pointer (some ⟨br, 0, none⟩), .int .u64 (a : Int), .int .i64 (q : Int), .int .i64 ((j : Int) + 1), .func (.func 138) #[.pointer (some ⟨g, 0, none⟩)] #[]] ∧ MemIs 139 ((((w5.setCell ⟨g, 4, none⟩ (.func (.func 138) #[.pointer (some ⟨g, 0, none⟩)] #[])).setCell ⟨w.heap.size + 1, 0, none⟩ (.int .i64 0)).setCell ⟨w.heap.size + 1, 1, none⟩ (.int .u64 0)).setCell ⟨w.heap.size + 1, 2, none⟩ (.slice none 0 0)) bm bw L2 C2 ∧ ButS (fun b => b = bm ∨ b = bw ∨ b = g) w ((((w5.setCell ⟨g, 4, none⟩ (.func (.func 138) #[.pointer (some ⟨g, 0, none⟩)] #[])).setCell ⟨w.heap.size + 1, 0, none⟩ (.int .i64 0)).setCell ⟨w.heap.size + 1, 1, none⟩ (.int .u64 0)).setCell ⟨w.heap.size + 1, 2, none⟩ (.slice none 0 0))) := Lib.hid
    ⟨((((HA5.out.other (a := ⟨g, 4, none⟩) n2 _).put 0 _).put 1 _).put 2 _), ((((HG5.out.put 4 _).other (a := ⟨w.heap.size + 1, 0, none⟩) n1 _).other (a := ⟨w.heap.size + 1, 1, none⟩) n1 _).other (a := ⟨w.heap.size + 1, 2, none⟩) n1 _), ((((HM5.out.setNew _ _ hgm hgw).setNew _ _ (by omega) (by omega)).setNew _ _ (by omega) (by omega)).setNew _ _ (by omega) (by omega)), ((((HB5.out.setCell (x := ⟨g, 4, none⟩) (.inl (.inr (.inr rfl))) _).setCell (x := ⟨w.heap.size + 1, 0, none⟩) (.inr (by show w.heap.size ≤ w.heap.size + 1; omega)) _).setCell (x := ⟨w.heap.size + 1, 1, none⟩) (.inr (by show w.heap.size ≤ w.heap.size + 1; omega)) _).setCell (x := ⟨w.heap.size + 1, 2, none⟩) (.inr (by show w.heap.size ≤ w.heap.size + 1; omega)) _)⟩
  go_wp2_with fail
  generalize ((((w5.setCell ⟨g, 4, none⟩ (.func (.func 138) #[.pointer (some ⟨g, 0, none⟩)] #[])).setCell ⟨w.heap.size + 1, 0, none⟩ (.int .i64 0)).setCell ⟨w.heap.size + 1, 1, none⟩ (.int .u64 0)).setCell ⟨w.heap.size + 1, 2, none⟩ (.slice none 0 0)) = W5 at HX ⊢
  have q0 := HX.out.1.cell (i := 0) rfl
  have q1 := HX.out.1.cell (i := 1) rfl
  have q2 := HX.out.1.cell (i := 2) rfl
  exact bodyPost_ret (v := .tuple #[.agg #[.int .i64 0, .int .u64 0, .slice none 0 0], .bool false]) (by simp [results, Try.results135, go_sem, q0, q1, q2]) rfl ⟨rfl, HX.out.2.2.1, HX.out.2.2.2, by unfold WrVs fnV; rw [hd0]; exact HX.out.2.1⟩
end
end Go.Proofs.Ytpoebpnmbogmnaa
