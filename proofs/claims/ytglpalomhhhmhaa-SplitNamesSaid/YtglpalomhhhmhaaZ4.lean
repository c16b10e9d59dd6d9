/- Walk of loom: step, the last one of an operation. -/
import Derived.Test.YtglpalomhhhmhaaZ3
namespace Go.Proofs.Ytglpalomhhhmhaa
open Go.RowKit
section
variable {M : Mach}
/-- what a last step leaves, as long as nothing but other blocks is turned -/
structure LastRel (K : MachRel M) (r : Out M) (an : Ans) (opv lv : Value) (bm bw : Nat) (F FO F' FO' : Nat → Prop) (wc w4 : World) : Prop where
  mem : MemIs 108 w4 bm bw r.ws r.cn
  f1 : ∀ b, F' b → b < w4.heap.size ∧ (F b ∨ wc.heap.size ≤ b)
  f2 : ∀ b, FO' b → b < w4.heap.size ∧ (FO b ∨ wc.heap.size ≤ b) ∧ ¬ F' b
  obj : K.Obj w4 r.s FO'
  op : OpQ K w4 opv r.q F'
  lst : ListAt w4 37 mkU (fun b => (F b ∨ wc.heap.size ≤ b) ∧ ¬ F' b ∧ ¬ FO' b) lv an.list
theorem LastRel.later {K : MachRel M} {r : Out M} {an : Ans} {opv lv : Value} {g ga bm bw : Nat} {F FO F' FO' : Nat → Prop} {w wc w4 W6 : World} (h : LastRel K r an opv lv bm bw F FO F' FO' wc w4) (hB : ButS (fun k => k = bm ∨ k = bw ∨ F k ∨ FO k) wc w4) (hwc : Below w.heap.size w wc)
    (hx : ButS (fun k => k = g ∨ k = ga) w4 W6) (hgw : w.heap.size ≤ ga) (hga : w4.heap.size ≤ ga ∨ ga < wc.heap.size) (hsep : Sep bm bw F FO w) (hgF : ¬ F g ∧ ¬ FO g) (hg : g < w.heap.size) (hgm : g ≠ bm) (hgb : g ≠ bw) (hm : bm < w.heap.size) (hb : bw < w.heap.size) :
    LastRel K r an opv lv bm bw F FO F' FO' wc W6 ∧ ButS (fun k => k = g ∨ k = bm ∨ k = bw ∨ F k ∨ FO k) w W6 := by
  have z1 := hwc.size
  have z2 := hB.size
  have e0 : ∀ k, k < w4.heap.size → (F k ∨ wc.heap.size ≤ k) → W6.heap[k]? = w4.heap[k]? := fun k hk hk1 => hx.block k hk (fun h => by
    rcases h with rfl | rfl
    · exact hk1.elim hgF.1 (fun h => by omega)
    · exact hga.elim (fun h => by omega) (fun h' => hk1.elim (fun h => by have := (hsep.1 _ h).1; omega) (fun h => by omega)))
  have e2 : ∀ k, FO' k → W6.heap[k]? = w4.heap[k]? := fun k hk => hx.block k (h.f2 k hk).1 (fun h' => by
    have hk1 := h.f2 k hk
    rcases h' with rfl | rfl
    · exact hk1.2.1.elim hgF.2 (fun h => by omega)
    · exact hga.elim (fun h => by omega) (fun h' => hk1.2.1.elim (fun h => by have := (hsep.2 _ h).1; omega) (fun h => by omega)))
  refine ⟨⟨h.mem.of_blocks (hx.block bm h.mem.lt1 (fun h => h.elim (fun h => hgm h.symm) (fun h => by omega))) (hx.block bw h.mem.lt2 (fun h => h.elim (fun h => hgb h.symm) (fun h => by omega))), fun b hb => ⟨Nat.lt_of_lt_of_le (h.f1 b hb).1 hx.size, (h.f1 b hb).2⟩,
    fun b hb => ⟨Nat.lt_of_lt_of_le (h.f2 b hb).1 hx.size, (h.f2 b hb).2⟩, K.obj_keep h.obj e2 (fun _ h => h), h.op.keep (fun k hk => e0 k (h.f1 k hk).1 (h.f1 k hk).2) (fun _ h => h), h.lst.keep (fun b ht hb => ⟨e0 b ht.lt hb.1, hb⟩)⟩, StepRel.later hB hwc hx hgw⟩
theorem LastRel.below {K : MachRel M} {r : Out M} {an : Ans} {opv lv : Value} {bm bw : Nat} {F FO F' FO' : Nat → Prop} {wc w4 W6 : World} (h : LastRel K r an opv lv bm bw F FO F' FO' wc w4) (hb : Below w4.heap.size w4 W6) : LastRel K r an opv lv bm bw F FO F' FO' wc W6 :=
  ⟨h.mem.of_blocks (hb.block _ h.mem.lt1) (hb.block _ h.mem.lt2), fun b hb' => ⟨Nat.lt_of_lt_of_le (h.f1 b hb').1 hb.size, (h.f1 b hb').2⟩, fun b hb' => ⟨Nat.lt_of_lt_of_le (h.f2 b hb').1 hb.size, (h.f2 b hb').2⟩,
    K.obj_keep h.obj (fun k hk => hb.block k (h.f2 k hk).1) (fun _ h => h), h.op.keep (fun k hk => hb.block k (h.f1 k hk).1) (fun _ h => h), h.lst.keep (fun b ht hp => ⟨hb.block b ht.lt, hp⟩)⟩
theorem inv_last {K : MachRel M} {r : Out M} {an : Ans} {opv lv kv : Value} {g bm bw call inv steps t : Nat} {F FO F' FO' : Nat → Prop} {w wc w4 W : World} (ha : r.ans = some an) (h : LastRel K r an opv lv bm bw F FO F' FO' wc w4) (hB : ButS (fun k => k = g ∨ k = bm ∨ k = bw ∨ F k ∨ FO k) w w4)
    (hwc : w.heap.size ≤ wc.heap.size) (hx : ButS (fun k => k = g) w4 W) (hgF : ¬ F g ∧ ¬ FO g) (hg : g < w.heap.size) (hgm : g ≠ bm) (hgb : g ≠ bw)
    (hrow : RowBlk 117 W g (invVs call inv t (steps + 1) an.err an.val lv kv opv)) (hkv : ListAt W 3 mkI (fun b => w.heap.size ≤ b ∧ ¬ F' b ∧ ¬ FO' b) kv (keyOr (keyQ r.s r.q) t)) : InvStep K r opv g bm bw F FO call inv steps t w (.returned (.bool true)) W := by
  have e0 : ∀ k, k < w4.heap.size → (F k ∨ wc.heap.size ≤ k) → W.heap[k]? = w4.heap[k]? := fun k hk hk1 => hx.block k hk (fun h => by
    subst h; exact hk1.elim hgF.1 (fun h => by omega))
  have e2 : ∀ k, FO' k → W.heap[k]? = w4.heap[k]? := fun k hk => hx.block k (h.f2 k hk).1 (fun h' => by
    subst h'; exact (h.f2 k hk).2.1.elim hgF.2 (fun h => by omega))
  refine ⟨h.mem.of_blocks (hx.block bm h.mem.lt1 (fun h => hgm h.symm)) (hx.block bw h.mem.lt2 (fun h => hgb h.symm)), hB.trans (hx.mono (fun k _ h => .inl h)), F', FO', fun b hb => ⟨Nat.lt_of_lt_of_le (h.f1 b hb).1 hx.size, (h.f1 b hb).2.imp id (fun h => by omega)⟩,
    fun b hb => ⟨Nat.lt_of_lt_of_le (h.f2 b hb).1 hx.size, (h.f2 b hb).2.1.imp id (fun h => by omega), (h.f2 b hb).2.2⟩, K.obj_keep h.obj e2 (fun _ h => h), h.op.keep (fun k hk => e0 k (h.f1 k hk).1 (h.f1 k hk).2) (fun _ h => h), ?_⟩
  rw [ha]
  exact ⟨rfl, lv, kv, hrow, h.lst.keep (fun b ht hb => ⟨e0 b ht.lt hb.1, hb.1.imp id (fun h => by omega), hb.2⟩), hkv⟩
theorem keyOr_nil {k : List Nat} {t : Nat} (h : k = []) : keyOr k t = [2 * t] := by unfold keyOr; rw [if_pos h]
theorem keyOr_some {k : List Nat} {t : Nat} (h : k ≠ []) : keyOr k t = k := by unfold keyOr; rw [if_neg h]

set_option maxRecDepth 100000 in
set_option maxHeartbeats 4000000 in
theorem step_last (K : MachRel M) (r : Out M) (opv : Value) (g bm bw : Nat) (F FO : Nat → Prop) (call inv steps t : Nat) (l : List Nat) (c : Cn) (w : World) (hS : StepC K r t opv bm bw F FO w) (hsep : Sep bm bw F FO w) (hM : MemIs 108 w bm bw l c)
    (hg : RowBlk 117 w g (invVs call inv 0 steps 0 0 (.slice none 0 0) (.slice none 0 0) opv)) (hgF : ¬ F g ∧ ¬ FO g) (hst : steps ≤ 4294967296) (ht : t ≤ 4294967296) {an : Ans} (ha : r.ans = some an)
    (hkey : ∀ (W : World) (F' FO' : Nat → Prop), K.Obj W r.s FO' → OpQ K W opv r.q F' → KeyOk opv (keyQ r.s r.q) W) :
    Calls Try.prog 29 #[.pointer (some ⟨g, 0, none⟩), turnAgg bm (t : Int)] w (InvStep K r opv g bm bw F FO call inv steps t w) := by
  obtain ⟨tid, v, fid, rfl, hm, hent, hcall⟩ := hS
  have HCALL := Lib.hid hcall
  have HSEP := Lib.hid hsep
  have HANS := Lib.hid ha
  have HKEY := Lib.hid hkey
  have HGF := Lib.hid hgF
  have HG := Lib.hid hg
  have hglt := hg.lt
  have hgm : g ≠ bm := by intro e; have h1 := hg; have h2 := hM.1; unfold RowBlk at h1; rw [e, h2] at h1; simp at h1
  have hgw : g ≠ bw := by intro e; have h1 := hg; have h2 := hM.2.1; unfold RowBlk at h1; rw [e, h2] at h1; simp at h1
  have hbml := hM.lt1
  have hbwl := hM.lt2
  have c8 : w.cell? ⟨g, 8, none⟩ = some (.iface tid v) := hg.cell rfl
  clear hcall hM hg ha hsep hgF hkey
  unfold turnAgg
  go_enter Try.func29, Try.ntmps29
  go_wp2_with fail
  have HGa := Lib.hid (HG.out.alloc (.cells #[.iface 71 (.pointer (some ⟨bm, 0, none⟩)), .int .i64 (t : Int)] 87))
  have HTa : Hid (RowBlk 87 (w.alloc (.cells #[.iface 71 (.pointer (some ⟨bm, 0, none⟩)), .int .i64 (t : Int)] 87)) w.heap.size [.iface 71 (.pointer (some ⟨bm, 0, none⟩)), .int .i64 (t : Int)]) := Lib.hid (RowBlk.new _ _ _)
  have HBa : Hid (Below w.heap.size w (w.alloc (.cells #[.iface 71 (.pointer (some ⟨bm, 0, none⟩)), .int .i64 (t : Int)] 87))) := Lib.hid ((Below.refl _ _).alloc (Nat.le_refl _) _)
  have hsa : (w.alloc (.cells #[.iface 71 (.pointer (some ⟨bm, 0, none⟩)), .int .i64 (t : Int)] 87)).heap.size = w.heap.size + 1 := by simp
  generalize w.alloc (.cells #[.iface 71 (.pointer (some ⟨bm, 0, none⟩)), .int .i64 (t : Int)] 87) = wa at HGa HTa HBa hsa ⊢
  have d8 : wa.cell? ⟨g, 8, none⟩ = some (.iface tid v) := HGa.out.cell rfl
  have t0 : wa.cell? ⟨w.heap.size, 0, none⟩ = some (.iface 71 (.pointer (some ⟨bm, 0, none⟩))) := HTa.out.cell rfl
  have t1 : wa.cell? ⟨w.heap.size, 1, none⟩ = some (.int .i64 (t : Int)) := HTa.out.cell rfl
  have HSA := Lib.hid hsa
  have n1 : wa.heap.size ≠ g := by have := HGa.out.lt; omega
  have n2 : wa.heap.size ≠ w.heap.size := by omega
  have n3 : g ≠ wa.heap.size := by have := HGa.out.lt; omega
  have n4 : w.heap.size ≠ wa.heap.size := by omega
  clear c8 hsa
  go_region_held3 (fun w' => w'.cell? ⟨g, 8, none⟩ = some (.iface tid v) ∧ w'.cell? ⟨w.heap.size, 0, none⟩ = some (.iface 71 (.pointer (some ⟨bm, 0, none⟩))) ∧ w'.cell? ⟨w.heap.size, 1, none⟩ = some (.int .i64 (t : Int)))
    (first | exact ⟨e8, e0, e1⟩ | go_keep)
    (first
      | (refine (HCALL.out _ (below_drew (HBa.out.alloc (by have := HSA.out; omega) _))).mono ?_
         rintro e w4 hR
         obtain ⟨F', FO', hF1, hF2, hO4, hQ4, ho⟩ := hR.ex
         rw [HANS.out] at ho
         obtain ⟨lv, rfl, hlv⟩ := ho
         obtain ⟨lao, lcap, rfl⟩ := hlv.isSlice
         have HX4 : Hid (LastRel K r an (.iface tid v) (.slice lao an.list.length lcap) bm bw F FO F' FO' (wa.alloc (.cells #[.int .i64 0, .int .u64 0, .slice none 0 0] 39)).drew w4) := Lib.hid ⟨hR.mem, hF1, hF2, hO4, hQ4, hlv⟩
         have HBT4 := Lib.hid hR.but
         clear hF1 hF2 hO4 hQ4 hlv
         have hB4 := hR.but
         have hG4 : RowBlk 117 w4 g (invVs call inv 0 steps 0 0 (.slice none 0 0) (.slice none 0 0) (.iface tid v)) := RowBlk.same ((HGa.out.alloc _).drew) (hB4.block g (by show _ < (wa.alloc _).heap.size; have := HGa.out.lt; simp; omega) (fun h => h.elim hgm (fun h => h.elim hgw (fun h => h.elim HGF.out.1 HGF.out.2))))
         have hT4 : RowBlk 87 w4 w.heap.size [.iface 71 (.pointer (some ⟨bm, 0, none⟩)), .int .i64 (t : Int)] := RowBlk.same ((HTa.out.alloc _).drew) (hB4.block w.heap.size (by show _ < (wa.alloc _).heap.size; have := HTa.out.lt; simp; omega) (fun h => h.elim (by omega) (fun h => h.elim (by omega) (fun h => h.elim (fun h => by have := (HSEP.out.1 _ h).1; omega) (fun h => by have := (HSEP.out.2 _ h).1; omega)))))
         have e8 : w4.cell? ⟨g, 8, none⟩ = some (.iface tid v) := hG4.cell rfl
         have e0 : w4.cell? ⟨w.heap.size, 0, none⟩ = some (.iface 71 (.pointer (some ⟨bm, 0, none⟩))) := hT4.cell rfl
         have e1 : w4.cell? ⟨w.heap.size, 1, none⟩ = some (.int .i64 (t : Int)) := hT4.cell rfl
         have hA4 : RowBlk 39 w4 wa.heap.size [.int .i64 0, .int .u64 0, .slice none 0 0] := RowBlk.same (RowBlk.drew (RowBlk.new wa [.int .i64 0, .int .u64 0, .slice none 0 0] 39)) (hB4.block wa.heap.size (by show wa.heap.size < (wa.alloc _).heap.size; simp) (fun h => h.elim (by have := HSA.out; omega) (fun h => h.elim (by have := HSA.out; omega) (fun h => h.elim (fun h => by have := (HSEP.out.1 _ h).1; have := HSA.out; omega) (fun h => by have := (HSEP.out.2 _ h).1; have := HSA.out; omega)))))
         have a0 := hA4.cell (i := 0) rfl
         have a1 := hA4.cell (i := 1) rfl
         have a2 := hA4.cell (i := 2) rfl
         have z0 : w4.frozen? ⟨wa.heap.size, 0, none⟩ = false := hA4.free
         have z1 : w4.frozen? ⟨wa.heap.size, 1, none⟩ = false := hA4.free
         have z2 : w4.frozen? ⟨wa.heap.size, 2, none⟩ = false := hA4.free
         have hwc : wa.heap.size < (wa.alloc (.cells #[.int .i64 0, .int .u64 0, .slice none 0 0] 39)).heap.size := by simp
         have HA4 := Lib.hid hA4
         clear hA4
         have y1 : w4.heap.size ≠ g := by have := hG4.lt; omega
         have y2 : w4.heap.size ≠ w.heap.size := by have := hT4.lt; omega
         have y3 : g ≠ w4.heap.size := by have := hG4.lt; omega
         have y4 : w.heap.size ≠ w4.heap.size := by have := hT4.lt; omega
         have HWC := Lib.hid hwc
         have HG4 := Lib.hid hG4
         have HT4 := Lib.hid hT4
         clear hB4 hG4 hT4 hR hwc)
      | (refine (HCALL.out _ (below_drew HBa.out)).mono ?_
         rintro e w4 hR
         obtain ⟨F', FO', hF1, hF2, hO4, hQ4, ho⟩ := hR.ex
         rw [HANS.out] at ho
         obtain ⟨lv, rfl, hlv⟩ := ho
         obtain ⟨lao, lcap, rfl⟩ := hlv.isSlice
         have HX4 : Hid (LastRel K r an (.iface tid v) (.slice lao an.list.length lcap) bm bw F FO F' FO' wa.drew w4) := Lib.hid ⟨hR.mem, hF1, hF2, hO4, hQ4, hlv⟩
         have HBT4 := Lib.hid hR.but
         clear hF1 hF2 hO4 hQ4 hlv
         have hB4 := hR.but
         have hG4 : RowBlk 117 w4 g (invVs call inv 0 steps 0 0 (.slice none 0 0) (.slice none 0 0) (.iface tid v)) := RowBlk.same (HGa.out.drew) (hB4.block g (HGa.out.lt) (fun h => h.elim hgm (fun h => h.elim hgw (fun h => h.elim HGF.out.1 HGF.out.2))))
         have hT4 : RowBlk 87 w4 w.heap.size [.iface 71 (.pointer (some ⟨bm, 0, none⟩)), .int .i64 (t : Int)] := RowBlk.same (HTa.out.drew) (hB4.block w.heap.size (HTa.out.lt) (fun h => h.elim (by omega) (fun h => h.elim (by omega) (fun h => h.elim (fun h => by have := (HSEP.out.1 _ h).1; omega) (fun h => by have := (HSEP.out.2 _ h).1; omega)))))
         have e8 : w4.cell? ⟨g, 8, none⟩ = some (.iface tid v) := hG4.cell rfl
         have e0 : w4.cell? ⟨w.heap.size, 0, none⟩ = some (.iface 71 (.pointer (some ⟨bm, 0, none⟩))) := hT4.cell rfl
         have e1 : w4.cell? ⟨w.heap.size, 1, none⟩ = some (.int .i64 (t : Int)) := hT4.cell rfl
         have y1 : w4.heap.size ≠ g := by have := hG4.lt; omega
         have y2 : w4.heap.size ≠ w.heap.size := by have := hT4.lt; omega
         have y3 : g ≠ w4.heap.size := by have := hG4.lt; omega
         have y4 : w.heap.size ≠ w4.heap.size := by have := hT4.lt; omega
         have HG4 := Lib.hid hG4
         have HT4 := Lib.hid hT4
         clear hB4 hG4 hT4 hR))
  · have H5 : RowBlk 117 (w4.alloc (.cells #[.int .i64 (an.err : Int), .int .u64 (an.val : Int), .slice lao an.list.length lcap] 39)) g (invVs call inv 0 steps 0 0 (.slice none 0 0) (.slice none 0 0) (.iface tid v)) ∧ RowBlk 87 (w4.alloc (.cells #[.int .i64 (an.err : Int), .int .u64 (an.val : Int), .slice lao an.list.length lcap] 39)) w.heap.size [.iface 71 (.pointer (some ⟨bm, 0, none⟩)), .int .i64 (t : Int)] ∧ RowBlk 39 (w4.alloc (.cells #[.int .i64 (an.err : Int), .int .u64 (an.val : Int), .slice lao an.list.length lcap] 39)) w4.heap.size [.int .i64 (an.err : Int), .int .u64 (an.val : Int), .slice lao an.list.length lcap] ∧ ButS (fun k => k = g ∨ k = w4.heap.size) w4 (w4.alloc (.cells #[.int .i64 (an.err : Int), .int .u64 (an.val : Int), .slice lao an.list.length lcap] 39)) :=
      ⟨HG4.out.alloc _, HT4.out.alloc _, RowBlk.new _ _ _, (ButS.refl _ _).alloc _⟩
    have hgaw : w.heap.size ≤ w4.heap.size := by have := HT4.out.lt; omega
    have HWZ : Hid (w.heap.size ≤ wa.drew.heap.size) := Lib.hid HBa.out.size
    clear HG4 HT4
    generalize w4.alloc (.cells #[.int .i64 (an.err : Int), .int .u64 (an.val : Int), .slice lao an.list.length lcap] 39) = W5 at H5 ⊢
    obtain ⟨hG5, hT5, hA5, hB5⟩ := H5
    have HG5 := Lib.hid hG5
    have HT5 := Lib.hid hT5
    have HB5 := Lib.hid hB5
    have nga : w4.heap.size ≠ g := row_ne hA5 hG5 (by decide)
    have ngt : w.heap.size ≠ g := by omega
    have a0 := hA5.cell (i := 0) rfl
    have a1 := hA5.cell (i := 1) rfl
    have a2 := hA5.cell (i := 2) rfl
    have t1' := hT5.cell (i := 1) rfl
    have g3 : W5.cell? ⟨g, 3, none⟩ = some (.int .i64 (steps : Int)) := hG5.cell rfl
    have g2 : W5.cell? ⟨g, 2, none⟩ = some (.int .i64 0) := hG5.cell rfl
    have g4 : W5.cell? ⟨g, 4, none⟩ = some (.int .i64 0) := hG5.cell rfl
    have g5 : W5.cell? ⟨g, 5, none⟩ = some (.int .u64 0) := hG5.cell rfl
    have g6 : W5.cell? ⟨g, 6, none⟩ = some (.slice none 0 0) := hG5.cell rfl
    have fz : ∀ k, W5.frozen? ⟨g, k, none⟩ = false := fun k => HG5.out.free
    have H6 : Hid (RowBlk 117 (((((W5.setCell ⟨g, 3, none⟩ (.int .i64 ((steps : Int) + 1))).setCell ⟨g, 2, none⟩ (.int .i64 (t : Int))).setCell ⟨g, 4, none⟩ (.int .i64 (an.err : Int))).setCell ⟨g, 5, none⟩ (.int .u64 (an.val : Int))).setCell ⟨g, 6, none⟩ (.slice lao an.list.length lcap)) g (invVs call inv t (steps + 1) an.err an.val (.slice lao an.list.length lcap) (.slice none 0 0) (.iface tid v)) ∧
        RowBlk 87 (((((W5.setCell ⟨g, 3, none⟩ (.int .i64 ((steps : Int) + 1))).setCell ⟨g, 2, none⟩ (.int .i64 (t : Int))).setCell ⟨g, 4, none⟩ (.int .i64 (an.err : Int))).setCell ⟨g, 5, none⟩ (.int .u64 (an.val : Int))).setCell ⟨g, 6, none⟩ (.slice lao an.list.length lcap)) w.heap.size [.iface 71 (.pointer (some ⟨bm, 0, none⟩)), .int .i64 (t : Int)] ∧
        ButS (fun k => k = g ∨ k = w4.heap.size) w4 (((((W5.setCell ⟨g, 3, none⟩ (.int .i64 ((steps : Int) + 1))).setCell ⟨g, 2, none⟩ (.int .i64 (t : Int))).setCell ⟨g, 4, none⟩ (.int .i64 (an.err : Int))).setCell ⟨g, 5, none⟩ (.int .u64 (an.val : Int))).setCell ⟨g, 6, none⟩ (.slice lao an.list.length lcap))) := Lib.hid
      ⟨((((hG5.put 3 _).put 2 _).put 4 _).put 5 _).put 6 _, ((((hT5.other ngt _).other ngt _).other ngt _).other ngt _).other ngt _, ((((hB5.setCell (.inl (.inl rfl)) _).setCell (.inl (.inl rfl)) _).setCell (.inl (.inl rfl)) _).setCell (.inl (.inl rfl)) _).setCell (.inl (.inl rfl)) _⟩
    clear hG5 hT5 hA5 hB5 HG5 HT5 HB5
    go_wp2_with fail
    generalize ((((W5.setCell ⟨g, 3, none⟩ (.int .i64 ((steps : Int) + 1))).setCell ⟨g, 2, none⟩ (.int .i64 (t : Int))).setCell ⟨g, 4, none⟩ (.int .i64 (an.err : Int))).setCell ⟨g, 5, none⟩ (.int .u64 (an.val : Int))).setCell ⟨g, 6, none⟩ (.slice lao an.list.length lcap) = W6 at H6 ⊢
    have hL6 : Hid (LastRel K r an (.iface tid v) (.slice lao an.list.length lcap) bm bw F FO F' FO' wa.drew W6 ∧ ButS (fun k => k = g ∨ k = bm ∨ k = bw ∨ F k ∨ FO k) w W6) := Lib.hid
      (HX4.out.later HBT4.out (below_drew HBa.out) H6.out.2.2 hgaw (.inl (Nat.le_refl _)) HSEP.out HGF.out hglt hgm hgw hbml hbwl)
    refine (key_any g _ (keyQ r.s r.q) W6 (H6.out.1.cell rfl) (HKEY.out W6 F' FO' hL6.out.1.obj hL6.out.1.op)).mono ?_
    rintro e W7 ⟨kv, rfl, hkv, hb7⟩
    obtain ⟨kao, kcap, rfl⟩ := hkv.isSlice
    have hG7 := H6.out.1.same (hb7.block _ H6.out.1.lt)
    have hT7 := H6.out.2.1.same (hb7.block _ H6.out.2.1.lt)
    have HL7 : Hid (LastRel K r an (.iface tid v) (.slice lao an.list.length lcap) bm bw F FO F' FO' wa.drew W7 ∧ ButS (fun k => k = g ∨ k = bm ∨ k = bw ∨ F k ∨ FO k) w W7) := Lib.hid ⟨hL6.out.1.below hb7, hL6.out.2.trans (ButS.of_below hb7)⟩
    have HKV : Hid (ListAt W7 3 mkI (fun b => w.heap.size ≤ b ∧ ¬ F' b ∧ ¬ FO' b) (.slice kao (keyQ r.s r.q).length kcap) (keyQ r.s r.q)) := Lib.hid (hkv.keep (fun b _ hb => ⟨rfl, by
      have h1 := hL6.out.2.size
      exact ⟨by omega, fun h => by have := (hL6.out.1.f1 b h).1; omega, fun h => by have := (hL6.out.1.f2 b h).1; omega⟩⟩))
    have k7 : W7.cell? ⟨g, 7, none⟩ = some (.slice none 0 0) := hG7.cell rfl
    have f7 : W7.frozen? ⟨g, 7, none⟩ = false := hG7.free
    have t6 := hT7.cell (i := 1) rfl
    have HG7 := Lib.hid hG7
    have hgl7 := hG7.lt
    clear hb7 hkv hG7 hT7
    by_cases hk : keyQ r.s r.q = []
    · rw [hk] at HKV ⊢
      have hkl : ([] : List Nat).length = 0 := rfl
      rw [hkl] at HKV ⊢
      go_wp2
      go_ret
      have hgl6 := HL7.out.2.size
      refine inv_last (kv := .slice (some ⟨W7.heap.size, 0, none⟩) 1 1) HANS.out HL7.out.1 HL7.out.2 HWZ.out ((((ButS.refl (fun k => k = g) W7).setCell (.inl rfl) _).setCell (.inl rfl) _).alloc _) HGF.out hglt hgm hgw (((HG7.out.put 7 _).put 7 _).alloc _) ?_
      rw [keyOr_nil hk]
      have hr := RowBlk.new ((W7.setCell ⟨g, 7, none⟩ (.slice kao 0 kcap)).setCell ⟨g, 7, none⟩ (.slice (some ⟨W7.heap.size, 0, none⟩) 1 1)) [.int .i64 (2 * (t : Int))] 3
      have e : ((W7.setCell ⟨g, 7, none⟩ (.slice kao 0 kcap)).setCell ⟨g, 7, none⟩ (.slice (some ⟨W7.heap.size, 0, none⟩) 1 1)).heap.size = W7.heap.size := by simp [World.setCell]
      rw [e] at hr
      refine ⟨_, W7.heap.size, 0, 1, rfl, fun _ => ⟨rfl, ⟨hgl6, fun h => by have := (HL7.out.1.f1 _ h).1; omega, fun h => by have := (HL7.out.1.f2 _ h).1; omega⟩, BlkT.of_row hr⟩, fun h => (by cases h), by simp, fun i x hx => ?_⟩
      match i, hx with
      | 0, hx =>
        cases hx
        have := hr.cell (i := 0) rfl
        exact this
    · obtain ⟨m, hm1, hm2⟩ : ∃ m, (keyQ r.s r.q).length = m ∧ 0 < m := ⟨_, rfl, List.length_pos_iff.2 hk⟩
      rw [hm1]
      go_wp2
      go_ret
      refine inv_last HANS.out HL7.out.1 HL7.out.2 HWZ.out ((ButS.refl (fun k => k = g) W7).setCell (.inl rfl) _) HGF.out hglt hgm hgw (HG7.out.put 7 _) ?_
      rw [keyOr_some hk, ← hm1]
      exact HKV.out.keep (fun b ht hp => ⟨Below.heap_setCell _ _ _ _ (fun e => by have := BlkT.ne ht (BlkT.of_row HG7.out) (by decide); exact this e), hp⟩)
  · have H5 : RowBlk 117 (((w4.setCell ⟨wa.heap.size, 0, none⟩ (.int .i64 (an.err : Int))).setCell ⟨wa.heap.size, 1, none⟩ (.int .u64 (an.val : Int))).setCell ⟨wa.heap.size, 2, none⟩ (.slice lao an.list.length lcap)) g (invVs call inv 0 steps 0 0 (.slice none 0 0) (.slice none 0 0) (.iface tid v)) ∧ RowBlk 87 (((w4.setCell ⟨wa.heap.size, 0, none⟩ (.int .i64 (an.err : Int))).setCell ⟨wa.heap.size, 1, none⟩ (.int .u64 (an.val : Int))).setCell ⟨wa.heap.size, 2, none⟩ (.slice lao an.list.length lcap)) w.heap.size [.iface 71 (.pointer (some ⟨bm, 0, none⟩)), .int .i64 (t : Int)] ∧ RowBlk 39 (((w4.setCell ⟨wa.heap.size, 0, none⟩ (.int .i64 (an.err : Int))).setCell ⟨wa.heap.size, 1, none⟩ (.int .u64 (an.val : Int))).setCell ⟨wa.heap.size, 2, none⟩ (.slice lao an.list.length lcap)) wa.heap.size [.int .i64 (an.err : Int), .int .u64 (an.val : Int), .slice lao an.list.length lcap] ∧ ButS (fun k => k = g ∨ k = wa.heap.size) w4 (((w4.setCell ⟨wa.heap.size, 0, none⟩ (.int .i64 (an.err : Int))).setCell ⟨wa.heap.size, 1, none⟩ (.int .u64 (an.val : Int))).setCell ⟨wa.heap.size, 2, none⟩ (.slice lao an.list.length lcap)) :=
      ⟨((HG4.out.other n3 _).other n3 _).other n3 _, ((HT4.out.other n4 _).other n4 _).other n4 _, ((HA4.out.put 0 _).put 1 _).put 2 _, (((ButS.refl _ _).setCell (.inl (.inr rfl)) _).setCell (.inl (.inr rfl)) _).setCell (.inl (.inr rfl)) _⟩
    have hgaw : w.heap.size ≤ wa.heap.size := by have := HSA.out; omega
    have HWZ : Hid (w.heap.size ≤ (wa.alloc (.cells #[.int .i64 0, .int .u64 0, .slice none 0 0] 39)).drew.heap.size) := Lib.hid (Nat.le_trans hgaw (Nat.le_of_lt HWC.out))
    clear HG4 HT4 HA4
    generalize ((w4.setCell ⟨wa.heap.size, 0, none⟩ (.int .i64 (an.err : Int))).setCell ⟨wa.heap.size, 1, none⟩ (.int .u64 (an.val : Int))).setCell ⟨wa.heap.size, 2, none⟩ (.slice lao an.list.length lcap) = W5 at H5 ⊢
    obtain ⟨hG5, hT5, hA5, hB5⟩ := H5
    have HG5 := Lib.hid hG5
    have HT5 := Lib.hid hT5
    have HB5 := Lib.hid hB5
    have nga : wa.heap.size ≠ g := row_ne hA5 hG5 (by decide)
    have ngt : w.heap.size ≠ g := by omega
    have a0 := hA5.cell (i := 0) rfl
    have a1 := hA5.cell (i := 1) rfl
    have a2 := hA5.cell (i := 2) rfl
    have t1' := hT5.cell (i := 1) rfl
    have g3 : W5.cell? ⟨g, 3, none⟩ = some (.int .i64 (steps : Int)) := hG5.cell rfl
    have g2 : W5.cell? ⟨g, 2, none⟩ = some (.int .i64 0) := hG5.cell rfl
    have g4 : W5.cell? ⟨g, 4, none⟩ = some (.int .i64 0) := hG5.cell rfl
    have g5 : W5.cell? ⟨g, 5, none⟩ = some (.int .u64 0) := hG5.cell rfl
    have g6 : W5.cell? ⟨g, 6, none⟩ = some (.slice none 0 0) := hG5.cell rfl
    have fz : ∀ k, W5.frozen? ⟨g, k, none⟩ = false := fun k => HG5.out.free
    have H6 : Hid (RowBlk 117 (((((W5.setCell ⟨g, 3, none⟩ (.int .i64 ((steps : Int) + 1))).setCell ⟨g, 2, none⟩ (.int .i64 (t : Int))).setCell ⟨g, 4, none⟩ (.int .i64 (an.err : Int))).setCell ⟨g, 5, none⟩ (.int .u64 (an.val : Int))).setCell ⟨g, 6, none⟩ (.slice lao an.list.length lcap)) g (invVs call inv t (steps + 1) an.err an.val (.slice lao an.list.length lcap) (.slice none 0 0) (.iface tid v)) ∧
        RowBlk 87 (((((W5.setCell ⟨g, 3, none⟩ (.int .i64 ((steps : Int) + 1))).setCell ⟨g, 2, none⟩ (.int .i64 (t : Int))).setCell ⟨g, 4, none⟩ (.int .i64 (an.err : Int))).setCell ⟨g, 5, none⟩ (.int .u64 (an.val : Int))).setCell ⟨g, 6, none⟩ (.slice lao an.list.length lcap)) w.heap.size [.iface 71 (.pointer (some ⟨bm, 0, none⟩)), .int .i64 (t : Int)] ∧
        ButS (fun k => k = g ∨ k = wa.heap.size) w4 (((((W5.setCell ⟨g, 3, none⟩ (.int .i64 ((steps : Int) + 1))).setCell ⟨g, 2, none⟩ (.int .i64 (t : Int))).setCell ⟨g, 4, none⟩ (.int .i64 (an.err : Int))).setCell ⟨g, 5, none⟩ (.int .u64 (an.val : Int))).setCell ⟨g, 6, none⟩ (.slice lao an.list.length lcap))) := Lib.hid
      ⟨((((hG5.put 3 _).put 2 _).put 4 _).put 5 _).put 6 _, ((((hT5.other ngt _).other ngt _).other ngt _).other ngt _).other ngt _, ((((hB5.setCell (.inl (.inl rfl)) _).setCell (.inl (.inl rfl)) _).setCell (.inl (.inl rfl)) _).setCell (.inl (.inl rfl)) _).setCell (.inl (.inl rfl)) _⟩
    clear hG5 hT5 hA5 hB5 HG5 HT5 HB5
    go_wp2_with fail
    generalize ((((W5.setCell ⟨g, 3, none⟩ (.int .i64 ((steps : Int) + 1))).setCell ⟨g, 2, none⟩ (.int .i64 (t : Int))).setCell ⟨g, 4, none⟩ (.int .i64 (an.err : Int))).setCell ⟨g, 5, none⟩ (.int .u64 (an.val : Int))).setCell ⟨g, 6, none⟩ (.slice lao an.list.length lcap) = W6 at H6 ⊢
    have hL6 : Hid (LastRel K r an (.iface tid v) (.slice lao an.list.length lcap) bm bw F FO F' FO' (wa.alloc (.cells #[.int .i64 0, .int .u64 0, .slice none 0 0] 39)).drew W6 ∧ ButS (fun k => k = g ∨ k = bm ∨ k = bw ∨ F k ∨ FO k) w W6) := Lib.hid
      (HX4.out.later HBT4.out (below_drew (HBa.out.alloc (by have := HSA.out; omega) _)) H6.out.2.2 hgaw (.inr HWC.out) HSEP.out HGF.out hglt hgm hgw hbml hbwl)
    refine (key_any g _ (keyQ r.s r.q) W6 (H6.out.1.cell rfl) (HKEY.out W6 F' FO' hL6.out.1.obj hL6.out.1.op)).mono ?_
    rintro e W7 ⟨kv, rfl, hkv, hb7⟩
    obtain ⟨kao, kcap, rfl⟩ := hkv.isSlice
    have hG7 := H6.out.1.same (hb7.block _ H6.out.1.lt)
    have hT7 := H6.out.2.1.same (hb7.block _ H6.out.2.1.lt)
    have HL7 : Hid (LastRel K r an (.iface tid v) (.slice lao an.list.length lcap) bm bw F FO F' FO' (wa.alloc (.cells #[.int .i64 0, .int .u64 0, .slice none 0 0] 39)).drew W7 ∧ ButS (fun k => k = g ∨ k = bm ∨ k = bw ∨ F k ∨ FO k) w W7) := Lib.hid ⟨hL6.out.1.below hb7, hL6.out.2.trans (ButS.of_below hb7)⟩
    have HKV : Hid (ListAt W7 3 mkI (fun b => w.heap.size ≤ b ∧ ¬ F' b ∧ ¬ FO' b) (.slice kao (keyQ r.s r.q).length kcap) (keyQ r.s r.q)) := Lib.hid (hkv.keep (fun b _ hb => ⟨rfl, by
      have h1 := hL6.out.2.size
      exact ⟨by omega, fun h => by have := (hL6.out.1.f1 b h).1; omega, fun h => by have := (hL6.out.1.f2 b h).1; omega⟩⟩))
    have k7 : W7.cell? ⟨g, 7, none⟩ = some (.slice none 0 0) := hG7.cell rfl
    have f7 : W7.frozen? ⟨g, 7, none⟩ = false := hG7.free
    have t6 := hT7.cell (i := 1) rfl
    have HG7 := Lib.hid hG7
    have hgl7 := hG7.lt
    clear hb7 hkv hG7 hT7
    by_cases hk : keyQ r.s r.q = []
    · rw [hk] at HKV ⊢
      have hkl : ([] : List Nat).length = 0 := rfl
      rw [hkl] at HKV ⊢
      go_wp2
      go_ret
      have hgl6 := HL7.out.2.size
      refine inv_last (kv := .slice (some ⟨W7.heap.size, 0, none⟩) 1 1) HANS.out HL7.out.1 HL7.out.2 HWZ.out ((((ButS.refl (fun k => k = g) W7).setCell (.inl rfl) _).setCell (.inl rfl) _).alloc _) HGF.out hglt hgm hgw (((HG7.out.put 7 _).put 7 _).alloc _) ?_
      rw [keyOr_nil hk]
      have hr := RowBlk.new ((W7.setCell ⟨g, 7, none⟩ (.slice kao 0 kcap)).setCell ⟨g, 7, none⟩ (.slice (some ⟨W7.heap.size, 0, none⟩) 1 1)) [.int .i64 (2 * (t : Int))] 3
      have e : ((W7.setCell ⟨g, 7, none⟩ (.slice kao 0 kcap)).setCell ⟨g, 7, none⟩ (.slice (some ⟨W7.heap.size, 0, none⟩) 1 1)).heap.size = W7.heap.size := by simp [World.setCell]
      rw [e] at hr
      refine ⟨_, W7.heap.size, 0, 1, rfl, fun _ => ⟨rfl, ⟨hgl6, fun h => by have := (HL7.out.1.f1 _ h).1; omega, fun h => by have := (HL7.out.1.f2 _ h).1; omega⟩, BlkT.of_row hr⟩, fun h => (by cases h), by simp, fun i x hx => ?_⟩
      match i, hx with
      | 0, hx =>
        cases hx
        have := hr.cell (i := 0) rfl
        exact this
    · obtain ⟨m, hm1, hm2⟩ : ∃ m, (keyQ r.s r.q).length = m ∧ 0 < m := ⟨_, rfl, List.length_pos_iff.2 hk⟩
      rw [hm1]
      go_wp2
      go_ret
      refine inv_last HANS.out HL7.out.1 HL7.out.2 HWZ.out ((ButS.refl (fun k => k = g) W7).setCell (.inl rfl) _) HGF.out hglt hgm hgw (HG7.out.put 7 _) ?_
      rw [keyOr_some hk, ← hm1]
      exact HKV.out.keep (fun b ht hp => ⟨Below.heap_setCell _ _ _ _ (fun e => by have := BlkT.ne ht (BlkT.of_row HG7.out) (by decide); exact this e), hp⟩)
end
end Go.Proofs.Ytglpalomhhhmhaa
