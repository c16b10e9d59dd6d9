/- A machine at the program; walk of loom: step. -/
import Derived.Test.YtglpalomhhhmhaaZ2
namespace Go.Proofs.Ytglpalomhhhmhaa
open Go.RowKit

/-- how a machine's states lie in memory: each in blocks of its own -/
structure MachRel (M : Mach) where
  objs : List Value
  Obj : World → M.S → (Nat → Prop) → Prop
  Op : World → Value → M.Q → (Nat → Prop) → Prop
  obj_keep : ∀ {w w' : World} {s : M.S} {F G : Nat → Prop}, Obj w s F → (∀ k, F k → w'.heap[k]? = w.heap[k]?) → (∀ k, F k → G k) → Obj w' s G
  op_keep : ∀ {w w' : World} {v : Value} {q : M.Q} {F G : Nat → Prop}, Op w v q F → (∀ k, F k → w'.heap[k]? = w.heap[k]?) → (∀ k, F k → G k) → Op w' v q G
  op_iface : ∀ {w : World} {v : Value} {q : M.Q} {F : Nat → Prop}, Op w v q F → ∃ t u, v = .iface t u
section
variable {M : Mach}
def OpQ (K : MachRel M) (w : World) (v : Value) (q : M.Q ⊕ Nat) (F : Nat → Prop) : Prop :=
  match q with
  | .inl q => K.Op w v q F
  | .inr e => v = .iface 115 (.agg #[.int .i64 (e : Int)]) ∧ e ≤ 1000
theorem OpQ.keep {K : MachRel M} {w w' : World} {v : Value} {q : M.Q ⊕ Nat} {F G : Nat → Prop} (h : OpQ K w v q F) (hb : ∀ k, F k → w'.heap[k]? = w.heap[k]?) (hG : ∀ k, F k → G k) : OpQ K w' v q G := by
  cases q with
  | inl q => exact K.op_keep h hb hG
  | inr e => exact h
theorem OpQ.iface {K : MachRel M} {w : World} {v : Value} {q : M.Q ⊕ Nat} {F : Nat → Prop} (h : OpQ K w v q F) : ∃ t u, v = .iface t u := by
  cases q with
  | inl q => exact K.op_iface h
  | inr e => exact ⟨_, _, h.1⟩

/-- what a step answers -/
def AnsOut (p : Nat → Prop) (en : Ending) (w' : World) : Option Ans → Prop
  | none => en = .returned (.tuple #[.agg #[.int .i64 0, .int .u64 0, .slice none 0 0], .bool false])
  | some a => ∃ lv, en = .returned (.tuple #[.agg #[.int .i64 (a.err : Int), .int .u64 (a.val : Int), lv], .bool true]) ∧ ListAt w' 37 mkU p lv a.list
/-- what a step leaves -/
structure StepRel (K : MachRel M) (r : Out M) (opv : Value) (bm bw : Nat) (F FO : Nat → Prop) (w : World) (en : Ending) (w' : World) : Prop where
  mem : MemIs 108 w' bm bw r.ws r.cn
  but : ButS (fun k => k = bm ∨ k = bw ∨ F k ∨ FO k) w w'
  ex : ∃ F' FO' : Nat → Prop, (∀ b, F' b → b < w'.heap.size ∧ (F b ∨ w.heap.size ≤ b)) ∧ (∀ b, FO' b → b < w'.heap.size ∧ (FO b ∨ w.heap.size ≤ b) ∧ ¬ F' b) ∧ K.Obj w' r.s FO' ∧ OpQ K w' opv r.q F' ∧
    AnsOut (fun b => (F b ∨ w.heap.size ≤ b) ∧ ¬ F' b ∧ ¬ FO' b) en w' r.ans
def StepC (K : MachRel M) (r : Out M) (t : Nat) (opv : Value) (bm bw : Nat) (F FO : Nat → Prop) (w : World) : Prop :=
  ∃ (tid : TypeId) (u : Value) (fid : FuncId), opv = .iface tid u ∧ (∀ w' : World, (method 276 tid u "Step").run Try.prog w' = .ok (fid, u) w') ∧ (∀ (args : Array Value) (w' : World), (callFunc fid args).run Try.prog w' = .ok (.enter fid args) w') ∧
    ∀ W : World, Below w.heap.size w W → Calls Try.prog fid #[u, turnAgg bm (t : Int)] W (StepRel K r opv bm bw F FO W)
def Sep (bm bw : Nat) (F FO : Nat → Prop) (w : World) : Prop := (∀ b, F b → b < w.heap.size ∧ b ≠ bm ∧ b ≠ bw ∧ ¬ FO b) ∧ ∀ b, FO b → b < w.heap.size ∧ b ≠ bm ∧ b ≠ bw

/-- an invocation's step, all told -/
structure InvStep (K : MachRel M) (r : Out M) (opv : Value) (g bm bw : Nat) (F FO : Nat → Prop) (call inv steps t : Nat) (w : World) (en : Ending) (w' : World) : Prop where
  mem : MemIs 108 w' bm bw r.ws r.cn
  but : ButS (fun k => k = g ∨ k = bm ∨ k = bw ∨ F k ∨ FO k) w w'
  ex : ∃ F' FO' : Nat → Prop, (∀ b, F' b → b < w'.heap.size ∧ (F b ∨ w.heap.size ≤ b)) ∧ (∀ b, FO' b → b < w'.heap.size ∧ (FO b ∨ w.heap.size ≤ b) ∧ ¬ F' b) ∧ K.Obj w' r.s FO' ∧ OpQ K w' opv r.q F' ∧
    match r.ans with
    | none => en = .returned (.bool false) ∧ RowBlk 117 w' g (invVs call inv 0 (steps + 1) 0 0 (.slice none 0 0) (.slice none 0 0) opv)
    | some a => en = .returned (.bool true) ∧ ∃ lv kv, RowBlk 117 w' g (invVs call inv t (steps + 1) a.err a.val lv kv opv) ∧ ListAt w' 37 mkU (fun b => (F b ∨ w.heap.size ≤ b) ∧ ¬ F' b ∧ ¬ FO' b) lv a.list ∧
        ListAt w' 3 mkI (fun b => w.heap.size ≤ b ∧ ¬ F' b ∧ ¬ FO' b) kv (keyOr (keyQ r.s r.q) t)

/-- from a step's world to that behind the stores -/
theorem StepRel.later {g ga bm bw : Nat} {F FO : Nat → Prop} {w wc w4 W6 : World} (hB : ButS (fun k => k = bm ∨ k = bw ∨ F k ∨ FO k) wc w4) (hwc : Below w.heap.size w wc)
    (hx : ButS (fun k => k = g ∨ k = ga) w4 W6) (hgw : w.heap.size ≤ ga) : ButS (fun k => k = g ∨ k = bm ∨ k = bw ∨ F k ∨ FO k) w W6 :=
  ⟨(hx.os.trans hB.os).trans hwc.os, (hx.tape.trans hB.tape).trans hwc.tape, (hx.output.trans hB.output).trans hwc.output, Nat.le_trans hwc.size (Nat.le_trans hB.size hx.size), fun k hk hs => by
    have h1 := hwc.block k hk
    have h2 := hB.block k (Nat.lt_of_lt_of_le hk hwc.size) (fun h => hs (.inr h))
    have h3 := hx.block k (Nat.lt_of_lt_of_le hk (Nat.le_trans hwc.size hB.size)) (fun h => h.elim (fun h => hs (.inl h)) (fun h => by omega))
    exact h3.trans (h2.trans h1)⟩
theorem inv_more {K : MachRel M} {r : Out M} {opv : Value} {g ga bm bw call inv steps t : Nat} {F FO : Nat → Prop} {w wc w4 W6 : World} {en : Ending} (hR : StepRel K r opv bm bw F FO wc en w4) (ha : r.ans = none) (hwc : Below w.heap.size w wc)
    (hx : ButS (fun k => k = g ∨ k = ga) w4 W6) (hgw : w.heap.size ≤ ga) (hga : w4.heap.size ≤ ga ∨ ga < wc.heap.size) (hsep : Sep bm bw F FO w) (hgF : ¬ F g ∧ ¬ FO g) (hg : g < w.heap.size) (hgm : g ≠ bm) (hgb : g ≠ bw) (hm : bm < w.heap.size) (hb : bw < w.heap.size)
    (hrow : RowBlk 117 W6 g (invVs call inv 0 (steps + 1) 0 0 (.slice none 0 0) (.slice none 0 0) opv)) : InvStep K r opv g bm bw F FO call inv steps t w (.returned (.bool false)) W6 := by
  have z1 := hwc.size
  have z2 := hR.but.size
  obtain ⟨F', FO', h1, h2, h3, h4, _⟩ := hR.ex
  have e1 : ∀ k, F' k → W6.heap[k]? = w4.heap[k]? := fun k hk => hx.block k (h1 k hk).1 (fun h => by
    have hk1 := h1 k hk
    rcases h with rfl | rfl
    · exact hk1.2.elim hgF.1 (fun h => by omega)
    · exact hga.elim (fun h => by omega) (fun h' => hk1.2.elim (fun h => by have := (hsep.1 _ h).1; omega) (fun h => by omega)))
  have e2 : ∀ k, FO' k → W6.heap[k]? = w4.heap[k]? := fun k hk => hx.block k (h2 k hk).1 (fun h => by
    have hk1 := h2 k hk
    rcases h with rfl | rfl
    · exact hk1.2.1.elim hgF.2 (fun h => by omega)
    · exact hga.elim (fun h => by omega) (fun h' => hk1.2.1.elim (fun h => by have := (hsep.2 _ h).1; omega) (fun h => by omega)))
  refine ⟨hR.mem.of_blocks (hx.block bm hR.mem.lt1 (fun h => h.elim (fun h => hgm h.symm) (fun h => by omega))) (hx.block bw hR.mem.lt2 (fun h => h.elim (fun h => hgb h.symm) (fun h => by omega))), StepRel.later hR.but hwc hx hgw, F', FO', fun b hb => ⟨Nat.lt_of_lt_of_le (h1 b hb).1 hx.size, (h1 b hb).2.imp id (fun h => by omega)⟩,
    fun b hb => ⟨Nat.lt_of_lt_of_le (h2 b hb).1 hx.size, (h2 b hb).2.1.imp id (fun h => by omega), (h2 b hb).2.2⟩, K.obj_keep h3 e2 (fun _ h => h), h4.keep e1 (fun _ h => h), ?_⟩
  rw [ha]
  exact ⟨rfl, hrow⟩

set_option maxRecDepth 100000 in
set_option maxHeartbeats 4000000 in
theorem step_more (K : MachRel M) (r : Out M) (opv : Value) (g bm bw : Nat) (F FO : Nat → Prop) (call inv steps t : Nat) (l : List Nat) (c : Cn) (w : World) (hS : StepC K r t opv bm bw F FO w) (hsep : Sep bm bw F FO w) (hM : MemIs 108 w bm bw l c)
    (hg : RowBlk 117 w g (invVs call inv 0 steps 0 0 (.slice none 0 0) (.slice none 0 0) opv)) (hgF : ¬ F g ∧ ¬ FO g) (hst : steps ≤ 4294967296) (ha : r.ans = none) :
    Calls Try.prog 29 #[.pointer (some ⟨g, 0, none⟩), turnAgg bm (t : Int)] w (InvStep K r opv g bm bw F FO call inv steps t w) := by
  obtain ⟨tid, v, fid, rfl, hm, hent, hcall⟩ := hS
  have HCALL := Lib.hid hcall
  have HSEP := Lib.hid hsep
  have HANS := Lib.hid ha
  have HGF := Lib.hid hgF
  have HG := Lib.hid hg
  have hglt := hg.lt
  have hgm : g ≠ bm := by intro e; have h1 := hg; have h2 := hM.1; unfold RowBlk at h1; rw [e, h2] at h1; simp at h1
  have hgw : g ≠ bw := by intro e; have h1 := hg; have h2 := hM.2.1; unfold RowBlk at h1; rw [e, h2] at h1; simp at h1
  have hbml := hM.lt1
  have hbwl := hM.lt2
  have c8 : w.cell? ⟨g, 8, none⟩ = some (.iface tid v) := hg.cell rfl
  clear hcall hM hg ha hsep hgF
  unfold turnAgg
  go_enter Try.func29, Try.ntmps29
  go_wp2_with fail
  have HGa := Lib.hid (HG.out.alloc (.cells #[.iface 71 (.pointer (some ⟨bm, 0, none⟩)), .int .i64 (t : Int)] 87))
  have HTa : Hid (RowBlk 87 (w.alloc (.cells #[.iface 71 (.pointer (some ⟨bm, 0, none⟩)), .int .i64 (t : Int)] 87)) w.heap.size [.iface 71 (.pointer (some ⟨bm, 0, none⟩)), .int .i64 (t : Int)]) := Lib.hid (RowBlk.new _ _ _)
  have HBa : Hid (Below w.heap.size w (w.alloc (.cells #[.iface 71 (.pointer (some ⟨bm, 0, none⟩)), .int .i64 (t : Int)] 87))) := Lib.hid ((Below.refl _ _).alloc (Nat.le_refl _) _)
  have hsa : (w.alloc (.cells #[.iface 71 (.pointer (some ⟨bm, 0, none⟩)), .int .i64 (t : Int)] 87)).heap.size = w.heap.size + 1 := by simp
  generalize w.alloc (.cells #[.iface 71 (.pointer (some ⟨bm, 0, none⟩)), .int .i64 (t : Int)] 87) = wa at HGa HTa HBa hsa ⊢
  have d8 : wa.cell? ⟨g, 8, none⟩ = some (.iface tid v) := HGa.out.cell rfl
  have t0 : wa.cell? ⟨w.heap.size, 0, none⟩ = some (.iface 71 (.pointer (some ⟨bm, 0, none⟩))) := HTa.out.cell rfl
  have t1 : wa.cell? ⟨w.heap.size, 1, none⟩ = some (.int .i64 (t : Int)) := HTa.out.cell rfl
  have HSA := Lib.hid hsa
  have n1 : wa.heap.size ≠ g := by have := HGa.out.lt; omega
  have n2 : wa.heap.size ≠ w.heap.size := by omega
  have n3 : g ≠ wa.heap.size := by have := HGa.out.lt; omega
  have n4 : w.heap.size ≠ wa.heap.size := by omega
  clear c8 hsa
  go_region_held3 (fun w' => w'.cell? ⟨g, 8, none⟩ = some (.iface tid v) ∧ w'.cell? ⟨w.heap.size, 0, none⟩ = some (.iface 71 (.pointer (some ⟨bm, 0, none⟩))) ∧ w'.cell? ⟨w.heap.size, 1, none⟩ = some (.int .i64 (t : Int)))
    (first | exact ⟨e8, e0, e1⟩ | go_keep)
    (first
      | (refine (HCALL.out _ (below_drew (HBa.out.alloc (by have := HSA.out; omega) _))).mono ?_
         rintro e w4 hR
         have hX : AnsOut (fun _ => True) e w4 r.ans := by
           obtain ⟨F', FO', _, _, _, _, ho⟩ := hR.ex
           rw [HANS.out] at ho ⊢
           exact ho
         rw [HANS.out] at hX
         obtain rfl := hX
         have hB4 := hR.but
         have hG4 : RowBlk 117 w4 g (invVs call inv 0 steps 0 0 (.slice none 0 0) (.slice none 0 0) (.iface tid v)) := RowBlk.same ((HGa.out.alloc _).drew) (hB4.block g (by show _ < (wa.alloc _).heap.size; have := HGa.out.lt; simp; omega) (fun h => h.elim hgm (fun h => h.elim hgw (fun h => h.elim HGF.out.1 HGF.out.2))))
         have hT4 : RowBlk 87 w4 w.heap.size [.iface 71 (.pointer (some ⟨bm, 0, none⟩)), .int .i64 (t : Int)] := RowBlk.same ((HTa.out.alloc _).drew) (hB4.block w.heap.size (by show _ < (wa.alloc _).heap.size; have := HTa.out.lt; simp; omega) (fun h => h.elim (by omega) (fun h => h.elim (by omega) (fun h => h.elim (fun h => by have := (HSEP.out.1 _ h).1; omega) (fun h => by have := (HSEP.out.2 _ h).1; omega)))))
         have e8 : w4.cell? ⟨g, 8, none⟩ = some (.iface tid v) := hG4.cell rfl
         have e0 : w4.cell? ⟨w.heap.size, 0, none⟩ = some (.iface 71 (.pointer (some ⟨bm, 0, none⟩))) := hT4.cell rfl
         have e1 : w4.cell? ⟨w.heap.size, 1, none⟩ = some (.int .i64 (t : Int)) := hT4.cell rfl
         have hA4 : RowBlk 39 w4 wa.heap.size [.int .i64 0, .int .u64 0, .slice none 0 0] := RowBlk.same (RowBlk.drew (RowBlk.new wa [.int .i64 0, .int .u64 0, .slice none 0 0] 39)) (hB4.block wa.heap.size (by show wa.heap.size < (wa.alloc _).heap.size; simp) (fun h => h.elim (by have := HSA.out; omega) (fun h => h.elim (by have := HSA.out; omega) (fun h => h.elim (fun h => by have := (HSEP.out.1 _ h).1; have := HSA.out; omega) (fun h => by have := (HSEP.out.2 _ h).1; have := HSA.out; omega)))))
         have a0 := hA4.cell (i := 0) rfl
         have a1 := hA4.cell (i := 1) rfl
         have a2 := hA4.cell (i := 2) rfl
         have z0 : w4.frozen? ⟨wa.heap.size, 0, none⟩ = false := hA4.free
         have z1 : w4.frozen? ⟨wa.heap.size, 1, none⟩ = false := hA4.free
         have z2 : w4.frozen? ⟨wa.heap.size, 2, none⟩ = false := hA4.free
         have hwc : wa.heap.size < (wa.alloc (.cells #[.int .i64 0, .int .u64 0, .slice none 0 0] 39)).heap.size := by simp
         have HA4 := Lib.hid hA4
         clear hA4
         have y1 : w4.heap.size ≠ g := by have := hG4.lt; omega
         have y2 : w4.heap.size ≠ w.heap.size := by have := hT4.lt; omega
         have y3 : g ≠ w4.heap.size := by have := hG4.lt; omega
         have y4 : w.heap.size ≠ w4.heap.size := by have := hT4.lt; omega
         have HWC := Lib.hid hwc
         have HR := Lib.hid hR
         have HG4 := Lib.hid hG4
         have HT4 := Lib.hid hT4
         clear hB4 hG4 hT4 hR hwc)
      | (refine (HCALL.out _ (below_drew HBa.out)).mono ?_
         rintro e w4 hR
         have hX : AnsOut (fun _ => True) e w4 r.ans := by
           obtain ⟨F', FO', _, _, _, _, ho⟩ := hR.ex
           rw [HANS.out] at ho ⊢
           exact ho
         rw [HANS.out] at hX
         obtain rfl := hX
         have hB4 := hR.but
         have hG4 : RowBlk 117 w4 g (invVs call inv 0 steps 0 0 (.slice none 0 0) (.slice none 0 0) (.iface tid v)) := RowBlk.same (HGa.out.drew) (hB4.block g (HGa.out.lt) (fun h => h.elim hgm (fun h => h.elim hgw (fun h => h.elim HGF.out.1 HGF.out.2))))
         have hT4 : RowBlk 87 w4 w.heap.size [.iface 71 (.pointer (some ⟨bm, 0, none⟩)), .int .i64 (t : Int)] := RowBlk.same (HTa.out.drew) (hB4.block w.heap.size (HTa.out.lt) (fun h => h.elim (by omega) (fun h => h.elim (by omega) (fun h => h.elim (fun h => by have := (HSEP.out.1 _ h).1; omega) (fun h => by have := (HSEP.out.2 _ h).1; omega)))))
         have e8 : w4.cell? ⟨g, 8, none⟩ = some (.iface tid v) := hG4.cell rfl
         have e0 : w4.cell? ⟨w.heap.size, 0, none⟩ = some (.iface 71 (.pointer (some ⟨bm, 0, none⟩))) := hT4.cell rfl
         have e1 : w4.cell? ⟨w.heap.size, 1, none⟩ = some (.int .i64 (t : Int)) := hT4.cell rfl
         have y1 : w4.heap.size ≠ g := by have := hG4.lt; omega
         have y2 : w4.heap.size ≠ w.heap.size := by have := hT4.lt; omega
         have y3 : g ≠ w4.heap.size := by have := hG4.lt; omega
         have y4 : w.heap.size ≠ w4.heap.size := by have := hT4.lt; omega
         have HR := Lib.hid hR
         have HG4 := Lib.hid hG4
         have HT4 := Lib.hid hT4
         clear hB4 hG4 hT4 hR))
  · have hG5 := HG4.out.alloc (.cells #[.int .i64 0, .int .u64 0, .slice none 0 0] 39)
    have H5 : Hid (ButS (fun k => k = g ∨ k = w4.heap.size) w4 (w4.alloc (.cells #[.int .i64 0, .int .u64 0, .slice none 0 0] 39))) := Lib.hid ((ButS.refl _ _).alloc _)
    have HZ4 := Lib.hid HR.out.but.size
    generalize w4.alloc (.cells #[.int .i64 0, .int .u64 0, .slice none 0 0] 39) = W5 at hG5 H5 ⊢
    have g3 : W5.cell? ⟨g, 3, none⟩ = some (.int .i64 (steps : Int)) := hG5.cell rfl
    have fz : W5.frozen? ⟨g, 3, none⟩ = false := hG5.free
    have HG5 := Lib.hid hG5
    clear hG5
    go_wp2_with fail
    go_ret
    refine inv_more (ga := w4.heap.size) HR.out HANS.out (below_drew HBa.out) (H5.out.setCell (.inl (.inl rfl)) _) ?_ (.inl (Nat.le_refl _)) HSEP.out HGF.out hglt hgm hgw hbml hbwl ?_
    · have h1 := HZ4.out; have h2 := HSA.out; have h3 : wa.drew.heap.size = wa.heap.size := rfl; omega
    · exact HG5.out.put 3 _
  · have hG5 : RowBlk 117 (((w4.setCell ⟨wa.heap.size, 0, none⟩ (.int .i64 0)).setCell ⟨wa.heap.size, 1, none⟩ (.int .u64 0)).setCell ⟨wa.heap.size, 2, none⟩ (.slice none 0 0)) g (invVs call inv 0 steps 0 0 (.slice none 0 0) (.slice none 0 0) (.iface tid v)) := ((HG4.out.other n3 _).other n3 _).other n3 _
    have H5 : Hid (ButS (fun k => k = g ∨ k = wa.heap.size) w4 (((w4.setCell ⟨wa.heap.size, 0, none⟩ (.int .i64 0)).setCell ⟨wa.heap.size, 1, none⟩ (.int .u64 0)).setCell ⟨wa.heap.size, 2, none⟩ (.slice none 0 0))) := Lib.hid ((((ButS.refl _ _).setCell (.inl (.inr rfl)) _).setCell (.inl (.inr rfl)) _).setCell (.inl (.inr rfl)) _)
    generalize ((w4.setCell ⟨wa.heap.size, 0, none⟩ (.int .i64 0)).setCell ⟨wa.heap.size, 1, none⟩ (.int .u64 0)).setCell ⟨wa.heap.size, 2, none⟩ (.slice none 0 0) = W5 at hG5 H5 ⊢
    have g3 : W5.cell? ⟨g, 3, none⟩ = some (.int .i64 (steps : Int)) := hG5.cell rfl
    have fz : W5.frozen? ⟨g, 3, none⟩ = false := hG5.free
    have HG5 := Lib.hid hG5
    clear hG5
    go_wp2_with fail
    go_ret
    refine inv_more (ga := wa.heap.size) HR.out HANS.out (below_drew (HBa.out.alloc (by have := HSA.out; omega) _)) (H5.out.setCell (.inl (.inl rfl)) _) (by have := HSA.out; omega) (.inr HWC.out) HSEP.out HGF.out hglt hgm hgw hbml hbwl ?_
    exact HG5.out.put 3 _
end
end Go.Proofs.Ytglpalomhhhmhaa
