/- Walks of loom: sizesOf, place, New, check, Play, for one object of any machine. -/
import Derived.Test.YtglpalomhhhmhaaZA
import Derived.Test.YtglpalomhhhmhaaN4
import Derived.Lib.AppendZeros
namespace Go.Proofs.Ytglpalomhhhmhaa
open Go.RowKit
theorem infoOb : (Try.prog.info? 104).map (fun i => (i.zero, i.size, i.bytes)) = some (some .nilIface, 1, 16) := by kernel_rfl

section
variable {M : Mach}
/-- an object, and what its Size tells -/
def SizeC (tid : TypeId) (u : Value) (n size err : Int) : Prop :=
  ∃ fid : FuncId, (∀ w' : World, (method 276 tid u "Size").run Try.prog w' = .ok (fid, u) w') ∧ (∀ (args : Array Value) (w' : World), (callFunc fid args).run Try.prog w' = .ok (.enter fid args) w') ∧
    ∀ W : World, Calls Try.prog fid #[u, .int .i64 n] W fun e w' => e = .returned (.tuple #[.int .i64 size, .int .i64 err]) ∧ Below W.heap.size W w'
def NotFilled (tid : TypeId) (u : Value) : Prop := ∀ w : World, (Instr.typeAssert (.iface tid u) 50 100 true).run Try.prog w = .ok (.tuple #[.nilIface, .bool false]) w
/-- what comes of Place -/
def Placed (cs : List CallV) (I : St M → Prop) (s0 : M.S) (W : World) (pv : Value) (w' : World) : Prop :=
  ∃ (K : MachRel M) (FO : Nat → Prop), (∃ t u, pv = .iface t u) ∧ K.objs = [pv] ∧ MachOk K cs I ∧ K.Obj w' s0 FO ∧ ∀ b, FO b → W.heap.size ≤ b ∧ b < w'.heap.size
def PlaceC (cs : List CallV) (I : St M → Prop) (s0 : M.S) (tid : TypeId) (u : Value) (n : Int) : Prop :=
  ∃ fid : FuncId, (∀ w' : World, (method 276 tid u "Place").run Try.prog w' = .ok (fid, u) w') ∧ (∀ (args : Array Value) (w' : World), (callFunc fid args).run Try.prog w' = .ok (.enter fid args) w') ∧
    ∀ W : World, Calls Try.prog fid #[u, .int .i64 n, .int .i64 0] W fun e w' => ∃ pv, e = .returned pv ∧ Placed cs I s0 W pv w' ∧ Below W.heap.size W w'
theorem Placed.below {cs : List CallV} {I : St M → Prop} {s0 : M.S} {W w1 w2 : World} {pv : Value} (h : Placed cs I s0 W pv w1) (hb : Below w1.heap.size w1 w2) : Placed cs I s0 W pv w2 := by
  obtain ⟨K, FO, h1, h2, h3, h4, h5⟩ := h
  exact ⟨K, FO, h1, h2, h3, K.obj_keep h4 (fun b hk => hb.block b (h5 b hk).2) (fun _ h => h), fun b hk => ⟨(h5 b hk).1, Nat.lt_of_lt_of_le (h5 b hk).2 hb.size⟩⟩
set_option maxRecDepth 100000 in
set_option maxHeartbeats 2000000 in
theorem sizes_bad (tid : TypeId) (u : Value) (n sz er : Int) (ob co : Nat) (w : World) (hb : w.cell? ⟨ob, 0, none⟩ = some (.iface tid u)) (hS : SizeC tid u n sz er) (her : er ≠ 0) :
    Calls Try.prog 36 #[.int .i64 n, .slice (some ⟨ob, 0, none⟩) 1 co] w fun e w' => e = .returned (.tuple #[.slice none 0 0, .int .i64 er]) ∧ Below w.heap.size w w' := by
  obtain ⟨fid, hm, hent, hcall⟩ := hS
  have HC := Lib.hid hcall
  clear hcall
  go_enter Try.func36, Try.ntmps36
  go_wp2_with fail
  refine wp_loop_rounds 1 ?_
  rw [rounds_succ]
  go_wp2_with fail
  refine (HC.out w).mono ?_
  rintro e w1 ⟨rfl, hb1⟩
  go_wp2_with fail
  go_ret2
  exact ⟨rfl, hb1⟩

def SizesPost (size : Int) (w : World) (e : Ending) (w' : World) : Prop := ∃ g cap, e = .returned (.tuple #[.slice (some ⟨g, 0, none⟩) 1 cap, .int .i64 0]) ∧ w'.cell? ⟨g, 0, none⟩ = some (.int .i64 size) ∧ w.heap.size ≤ g ∧ g < w'.heap.size ∧ Below w.heap.size w w'

set_option maxRecDepth 100000 in
set_option maxHeartbeats 2000000 in
theorem sizes_ok (tid : TypeId) (u : Value) (n size : Int) (ob co : Nat) (w : World) (hb : w.cell? ⟨ob, 0, none⟩ = some (.iface tid u)) (hS : SizeC tid u n size 0) (h1 : 0 ≤ size) (h2 : size ≤ 65536) :
    Calls Try.prog 36 #[.int .i64 n, .slice (some ⟨ob, 0, none⟩) 1 co] w (SizesPost size w) := by
  obtain ⟨fid, hm, hent, hcall⟩ := hS
  have HC := Lib.hid hcall
  clear hcall
  obtain ⟨iI, ia, ib, ic, id⟩ := info_parts infoIu
  go_enter Try.func36, Try.ntmps36
  go_wp2_with fail
  refine wp_loop_rounds 2 ?_
  rw [rounds_succ]
  go_wp2_with fail
  refine (HC.out w).mono ?_
  rintro e w1 ⟨rfl, hb1⟩
  have HB1 := Lib.hid hb1
  have hs1 := hb1.size
  clear hb1
  go_wp2_with (at_builtin; refine append_new rfl _ _ 23 rfl w.heap.size 3 iI (.int .i64 0) 1 8 Try.underlying23 ia ib ic id rfl (by decide) (by decide) _ 0 _ rfl (World.ownsRow_nil _ _ _ _) [.int .i64 size] rfl rfl rfl (by omega) hs1 ?_)
  intro v2 w2 ho2 hb2 _ _
  obtain ⟨ao, g, cap, rfl, hao, hg1, hg2, hgc⟩ := owns_open ho2
  obtain rfl := hao (by decide)
  have c0 := hgc 0 _ rfl
  have hgl := hg2 (by decide)
  have hgs := hg1 (by decide)
  have HB2 := Lib.hid (HB1.out.trans hb2)
  clear ho2 hb2 hgc hao hg1 hg2 HB1
  go_wp2_with fail
  rw [rounds_succ]
  go_wp2_with fail
  refine wp_loop_rounds 2 ?_
  rw [rounds_succ]
  go_wp2_with fail
  rw [rounds_succ]
  go_wp2_with fail
  go_ret2
  exact ⟨g, cap, rfl, c0, hgs, hgl, HB2.out⟩

/-- what place gives -/
def PlacePost (cs : List CallV) (I : St M → Prop) (s0 : M.S) (size : Nat) (w : World) (e : Ending) (w' : World) : Prop :=
  ∃ (gw capw go capo : Nat) (pv : Value) (K : MachRel M) (FO : Nat → Prop), e = .returned (.tuple #[.slice (some ⟨gw, 0, none⟩) size capw, .slice (some ⟨go, 0, none⟩) 1 capo, .int .i64 0]) ∧ UCells w' gw 0 (List.replicate size 0) ∧ w'.cell? ⟨go, 0, none⟩ = some pv ∧
    K.objs = [pv] ∧ MachOk K cs I ∧ K.Obj w' s0 FO ∧ (∀ b, FO b → w.heap.size ≤ b ∧ b < go) ∧ w.heap.size ≤ gw ∧ gw < w'.heap.size ∧ w.heap.size ≤ go ∧ go < w'.heap.size ∧ Below w.heap.size w w'
set_option maxRecDepth 100000 in
set_option maxHeartbeats 2000000 in
theorem place_bad (tid : TypeId) (u : Value) (n sz er : Int) (ob co : Nat) (w : World) (hb : w.cell? ⟨ob, 0, none⟩ = some (.iface tid u)) (hS : SizeC tid u n sz er) (her : er ≠ 0) :
    Calls Try.prog 24 #[.int .i64 n, .slice (some ⟨ob, 0, none⟩) 1 co] w fun e w' => e = .returned (.tuple #[.slice none 0 0, .slice none 0 0, .int .i64 er]) ∧ Below w.heap.size w w' := by
  go_enter Try.func24, Try.ntmps24
  go_wp2_with fail
  refine (sizes_bad tid u n sz er ob co w hb hS her).mono ?_
  rintro e w1 ⟨rfl, hb1⟩
  go_wp2_with fail
  go_ret3
  exact ⟨rfl, hb1⟩

theorem zero_get {z : Value} {n i : Nat} (h : i < n) : (Builtin.zeroCells #[z] n)[i]? = some z := by
  unfold Builtin.zeroCells
  have e : (Array.range (n * (#[z] : Array Value).size))[i]? = some i := by
    rw [Array.getElem?_eq_getElem (by simpa using h)]; simp
  rw [Array.getElem?_map, e]
  simp [Nat.mod_one]
theorem zeros_append {w : World} {n : Nat} (h0 : 0 < n) (hn : n ≤ 65536) : ∃ cap w', (∀ ty, (Builtin.append_ #[27, 3] ty #[.slice none 0 0, .int .i64 (n : Int)]).run Try.prog w = .ok (.slice (some ⟨w.heap.size, 0, none⟩) n cap) w') ∧ UCells w' w.heap.size 0 (List.replicate n 0) ∧ Below w.heap.size w w' ∧ w.heap.size < w'.heap.size := by
  obtain ⟨i0, hi, hz0, hz1, hz2⟩ := info_parts info22
  refine ⟨grownCap w n 0 37, _, fun ty => Lib.run_append_nil_zeros w 27 3 ty 37 i0 (.int .u64 0) .i64 .i64 Try.underlying27 Try.underlying3 hi hz0 n h0 (by omega) (by omega) (by rw [hz2]; omega), ?_, (below_drew (Below.refl _ _)).alloc (Nat.le_refl _) _, by simp⟩
  intro i x hx
  have hin : i < n := by have := (List.getElem?_eq_some_iff.1 hx).1; simpa using this
  rw [List.getElem?_replicate, if_pos hin] at hx
  cases hx
  have h : (w.drew.alloc (.cells (Builtin.zeroCells (Value.int .u64 0).cells n ++ Builtin.zeroCells (Value.int .u64 0).cells (grownCap w n 0 37 - n)) 37)).heap[w.heap.size]? = some (.cells (Builtin.zeroCells (Value.int .u64 0).cells n ++ Builtin.zeroCells (Value.int .u64 0).cells (grownCap w n 0 37 - n)) 37 (0, 0)) := heap_alloc_new w.drew _
  rw [Nat.zero_add]
  refine cell_of_heap h ?_
  show (Builtin.zeroCells #[Value.int .u64 0] n ++ Builtin.zeroCells #[Value.int .u64 0] (grownCap w n 0 37 - n))[i]? = _
  rw [Array.getElem?_append_left (by rw [size_zeroCells]; simpa using hin), zero_get hin]
  rfl

set_option maxRecDepth 100000 in
set_option maxHeartbeats 2000000 in
theorem place_ok (cs : List CallV) (I : St M → Prop) (s0 : M.S) (tid : TypeId) (u : Value) (n : Int) (size ob co : Nat) (w : World) (hb : w.cell? ⟨ob, 0, none⟩ = some (.iface tid u)) (hS : SizeC tid u n size 0) (hnf : NotFilled tid u) (hP : PlaceC cs I s0 tid u n) (h1 : 1 ≤ size) (h2 : size ≤ 65536) :
    Calls Try.prog 24 #[.int .i64 n, .slice (some ⟨ob, 0, none⟩) 1 co] w (PlacePost cs I s0 size w) := by
  obtain ⟨fid, hm, hent, hcall⟩ := hP
  have HC := Lib.hid hcall
  unfold NotFilled at hnf
  clear hcall
  have hob := World.block_lt_of_cell? w ⟨ob, 0, none⟩ hb
  obtain ⟨iI, ia, ib, ic, id⟩ := info_parts infoOb
  go_enter Try.func24, Try.ntmps24
  go_wp2_with fail
  refine (sizes_ok tid u n size ob co w hb hS (by omega) (by omega)).mono ?_
  rintro e w1 ⟨gs, cs, rfl, hcs, hgs, hgs2, hb1⟩
  have HB1 := Lib.hid hb1
  have hs1 := hb1.size
  have hob1 : w1.cell? ⟨ob, 0, none⟩ = some (.iface tid u) := (hb1.cell (p := ⟨ob, 0, none⟩) hob).trans hb
  obtain ⟨capw, w2, hap, hu, hb2, hlt2⟩ := zeros_append (w := w1) (n := size) (by omega) h2
  have HU := Lib.hid hu
  have HB2 := Lib.hid (HB1.out.trans (hb2.mono hs1))
  have hs2 := hb2.size
  have hob2 : w2.cell? ⟨ob, 0, none⟩ = some (.iface tid u) := (hb2.cell (p := ⟨ob, 0, none⟩) (by show ob < w1.heap.size; omega)).trans hob1
  clear hb hb1 hu hb2
  go_wp2_with fail
  refine wp_loop_rounds 2 ?_
  rw [rounds_succ]
  go_wp2_with (at_builtin; refine Lib.wpList_append_run _ rfl _ _ 27 3 rfl _ _ rfl rfl _ _ (hap _) ?_)
  go_wp2_with fail
  refine (HC.out w2).mono ?_
  rintro e w3 ⟨pv, rfl, ⟨K, FO, ⟨pt, pu, rfl⟩, hobjs, hmok, hob, hFO⟩, hb3⟩
  have HOBJS := Lib.hid hobjs
  have HMOK := Lib.hid hmok
  have HOB := Lib.hid hob
  have HFO := Lib.hid hFO
  clear hobjs hmok hob hFO
  have HB3 := Lib.hid (HB2.out.trans (hb3.mono (by omega)))
  have HU3 : Hid (UCells w3 w1.heap.size 0 (List.replicate size 0)) := Lib.hid (HU.out.stays hb3 (fun _ => hlt2))
  have hs3 := hb3.size
  clear hb3 hap hob1 hob2 hcs
  have hs30 : w.heap.size ≤ w3.heap.size := by omega
  go_wp2_with (at_builtin; refine append_new rfl _ _ 68 rfl w3.heap.size 104 iI .nilIface 1 16 Try.underlying68 ia ib ic id rfl (by decide) (by decide) _ 0 _ rfl (World.ownsRow_nil _ _ _ _) [.iface pt pu] rfl rfl rfl (by omega) (Nat.le_refl _) ?_)
  intro v4 w4 ho4 hb4 hk4 _
  obtain ⟨ao, g, cap, rfl, hao, hg1, hg2, hgc⟩ := owns_open ho4
  obtain rfl := hao (by decide)
  have HC0 := Lib.hid (hgc 0 _ rfl)
  have hgl := hg2 (by decide)
  have hgs' := hg1 (by decide)
  have HB4 := Lib.hid (HB3.out.trans (hb4.mono hs30))
  have hs4 := hb4.size
  have HOB4 : Hid (K.Obj w4 s0 FO) := Lib.hid (K.obj_keep HOB.out (fun b hk => hb4.block b (HFO.out b hk).2) (fun _ h => h))
  have HFO4 : Hid (∀ b, FO b → w.heap.size ≤ b ∧ b < g) := Lib.hid (fun b hk => by have := HFO.out b hk; omega)
  have HU4 : Hid (UCells w4 w1.heap.size 0 (List.replicate size 0)) := Lib.hid (HU3.out.stays hb4 (fun _ => by omega))
  clear ho4 hb4 hgc hao hg1 hg2
  go_wp2_with fail
  rw [rounds_succ]
  go_wp2_with fail
  go_ret3
  exact ⟨w1.heap.size, capw, g, cap, _, K, FO, rfl, HU4.out, HC0.out, HOBJS.out, HMOK.out, HOB4.out, HFO4.out, hs1, by omega, by omega, hgl, HB4.out⟩
set_option maxRecDepth 100000 in
set_option maxHeartbeats 2000000 in
theorem lnew_bad (n : Int) (ao : Option Addr) (b o cap : Nat) (cs : List CallV) (ob co : Nat) (w : World) (ha : 0 < cs.length → ao = some ⟨b, o, none⟩) (hb : 0 < cs.length → b < w.heap.size) (hc : CallsAt w b o cs) (h : wrongL n (thr cs) ≠ 0) :
    Calls Try.prog 18 #[.int .i64 n, .slice ao cs.length cap, .slice (some ⟨ob, 0, none⟩) 1 co] w fun e w' => e = .returned (.tuple #[.pointer none, .int .i64 (wrongL n (thr cs) : Nat)]) ∧ Below w.heap.size w w' := by
  go_enter Try.func18, Try.ntmps18
  go_wp2_with fail
  refine (new_any n ao b o cap cs w ha hb hc).mono ?_
  rintro e w1 ⟨h1, _, hb1⟩
  obtain rfl := h1 h
  have hne : ((wrongL n (thr cs) : Nat) : Int) ≠ 0 := by omega
  clear h1
  go_wp2_with fail
  go_ret2
  exact ⟨rfl, hb1⟩

set_option maxRecDepth 100000 in
set_option maxHeartbeats 2000000 in
theorem lnew_size (tid : TypeId) (u : Value) (n sz er : Int) (ao : Option Addr) (b o cap : Nat) (cs : List CallV) (ob co : Nat) (w : World) (ha : 0 < cs.length → ao = some ⟨b, o, none⟩) (hb : 0 < cs.length → b < w.heap.size) (hc : CallsAt w b o cs) (h : wrongL n (thr cs) = 0)
    (ho : w.cell? ⟨ob, 0, none⟩ = some (.iface tid u)) (hS : SizeC tid u n sz er) (her : er ≠ 0) :
    Calls Try.prog 18 #[.int .i64 n, .slice ao cs.length cap, .slice (some ⟨ob, 0, none⟩) 1 co] w fun e w' => e = .returned (.tuple #[.pointer none, .int .i64 er]) ∧ Below w.heap.size w w' := by
  have hob := World.block_lt_of_cell? w ⟨ob, 0, none⟩ ho
  go_enter Try.func18, Try.ntmps18
  go_wp2_with fail
  refine (new_any n ao b o cap cs w ha hb hc).mono ?_
  rintro e w1 ⟨_, h1, hb1⟩
  obtain ⟨lb, mb, f, rfl, hlb, hmb, hln⟩ := h1 h
  have hs1 := hb1.size
  have ho1 : w1.cell? ⟨ob, 0, none⟩ = some (.iface tid u) := (hb1.cell (p := ⟨ob, 0, none⟩) hob).trans ho
  clear h1 hln
  go_wp2_with fail
  refine (place_bad tid u n sz er ob co w1 ho1 hS her).mono ?_
  rintro e w2 ⟨rfl, hb2⟩
  have HB := Lib.hid (hb1.trans (hb2.mono hs1))
  clear hb1 hb2
  go_wp2_with fail
  go_ret2
  exact ⟨rfl, HB.out⟩

def LNewPost (cs : List CallV) (I : St M → Prop) (s0 : M.S) (size : Nat) (w : World) (e : Ending) (w' : World) : Prop :=
  ∃ (K : MachRel M) (a : LA) (col : Nat → Nat), a.B0 = w.heap.size ∧ e = .returned (.tuple #[.pointer (some ⟨a.L, 0, none⟩), .int .i64 0]) ∧ MachOk K cs I ∧ LoomG K cs a 0 col w' (stM cs (List.replicate size 0) s0) ∧ Below w.heap.size w w'

set_option maxRecDepth 100000 in
set_option maxHeartbeats 4000000 in
theorem lnew_ok (I : St M → Prop) (s0 : M.S) (tid : TypeId) (u : Value) (n : Int) (size : Nat) (ao : Option Addr) (b o cap : Nat) (cs : List CallV) (ob co : Nat) (w : World) (ha : 0 < cs.length → ao = some ⟨b, o, none⟩) (hb : 0 < cs.length → b < w.heap.size) (hc : CallsAt w b o cs) (hcap : ao = none → cap = 0) (h : wrongL n (thr cs) = 0)
    (hcl : cs.length ≤ 1000) (ho : w.cell? ⟨ob, 0, none⟩ = some (.iface tid u)) (hS : SizeC tid u n size 0) (hnf : NotFilled tid u) (hP : PlaceC cs I s0 tid u n) (hs1 : 1 ≤ size) (hs2 : size ≤ 65536) :
    Calls Try.prog 18 #[.int .i64 n, .slice ao cs.length cap, .slice (some ⟨ob, 0, none⟩) 1 co] w (LNewPost cs I s0 size w) := by
  have hob := World.block_lt_of_cell? w ⟨ob, 0, none⟩ ho
  have hmm := @run_makeMap Try.prog
  go_enter Try.func18, Try.ntmps18
  go_wp2_with fail
  refine (new_any n ao b o cap cs w ha hb hc).mono ?_
  rintro e w1 ⟨_, h1, hb1⟩
  obtain ⟨lb, mb, f, rfl, hlb, hmb, hln⟩ := h1 h
  have z1 := hb1.size
  have ho1 : w1.cell? ⟨ob, 0, none⟩ = some (.iface tid u) := (hb1.cell (p := ⟨ob, 0, none⟩) hob).trans ho
  have HC1 : Hid (CallsAt w1 b o cs) := Lib.hid (hc.stays hb1 hb)
  have HLN := Lib.hid hln
  have HB1 := Lib.hid hb1
  have HB := Lib.hid hb
  have HA := Lib.hid ha
  have HCP := Lib.hid hcap
  clear h1 hln hb1 hc hb ha h ho hcap
  go_wp2_with fail
  refine (place_ok cs I s0 tid u n size ob co w1 ho1 hS hnf hP hs1 hs2).mono ?_
  rintro e w2 ⟨gw, capw, go, capo, pv, K, FO, rfl, hu, hgo, hobjs, hmok, hob, hfo, q1, q2, q3, q4, hb2⟩
  have HOBJS := Lib.hid hobjs
  have HMOK := Lib.hid hmok
  have HOB := Lib.hid hob
  have HFO := Lib.hid hfo
  clear hobjs hmok hob hfo
  have z2 := hb2.size
  have HU := Lib.hid hu
  have HGO := Lib.hid hgo
  have HB2 := Lib.hid hb2
  clear hu hgo hb2 ho1
  go_wp2_with fail
  have hm := new_ok (some ⟨gw, 0, none⟩) gw 0 capw (List.replicate size 0) w2 (by rw [List.length_replicate]; omega) (fun _ => rfl) (fun _ => q2) HU.out
  rw [List.length_replicate] at hm
  refine hm.mono ?_
  rintro e w3 ⟨bm, bw, rfl, hM, r1, r2, hb3⟩
  have z3 := hb3.size
  have HM := Lib.hid hM
  have HB3 := Lib.hid hb3
  clear hM hb3 hm
  go_wp2_with fail
  have HC3 : Hid (CallsAt w3 b o cs) := Lib.hid (((HC1.out.stays HB2.out (fun h => by have := HB.out h; omega)).stays HB3.out (fun h => by have := HB.out h; omega)))
  refine (clone_calls ao b o cap cs w3 (by omega) HA.out HC3.out HCP.out).mono ?_
  rintro e w4 ⟨aoC, gc, capC, rfl, hgc, hcc, hb4⟩
  have z4 := hb4.size
  have HGC := Lib.hid hgc
  have HCC := Lib.hid hcc
  have HB4 := Lib.hid hb4
  clear hgc hcc hb4
  go_wp2_with fail
  go_ret2
  have BM : Below w3.heap.size w3 (w4.alloc (.map #[] 0)) := HB4.out.alloc z4 _
  have hsm : (w4.alloc (.map #[] 0)).heap.size = w4.heap.size + 1 := by simp
  have BL : Below w3.heap.size w3 ((w4.alloc (.map #[] 0)).alloc (.cells (loomVs (.slice aoC cs.length capC) lb bm (.slice (some ⟨go, 0, none⟩) 1 capo) (.slice none 0 0) w4.heap.size 0 0).toArray 78)) := BM.alloc (by omega) _
  have BT : Below w.heap.size w ((w4.alloc (.map #[] 0)).alloc (.cells (loomVs (.slice aoC cs.length capC) lb bm (.slice (some ⟨go, 0, none⟩) 1 capo) (.slice none 0 0) w4.heap.size 0 0).toArray 78)) :=
    HB1.out.trans ((HB2.out.mono z1).trans ((HB3.out.mono (by omega)).trans (BL.mono (by omega))))
  have B1 : Below w1.heap.size w1 ((w4.alloc (.map #[] 0)).alloc (.cells (loomVs (.slice aoC cs.length capC) lb bm (.slice (some ⟨go, 0, none⟩) 1 capo) (.slice none 0 0) w4.heap.size 0 0).toArray 78)) :=
    HB2.out.trans ((HB3.out.mono z2).trans (BL.mono (by omega)))
  have B2 : Below w2.heap.size w2 ((w4.alloc (.map #[] 0)).alloc (.cells (loomVs (.slice aoC cs.length capC) lb bm (.slice (some ⟨go, 0, none⟩) 1 capo) (.slice none 0 0) w4.heap.size 0 0).toArray 78)) :=
    HB3.out.trans (BL.mono (by omega))
  have l1 := HLN.out.lt1
  have l2 := HLN.out.lt2
  have m1 := HM.out.lt1
  have m2 := HM.out.lt2
  have hL := RowBlk.new (w4.alloc (.map #[] 0)) (loomVs (.slice aoC cs.length capC) lb bm (.slice (some ⟨go, 0, none⟩) 1 capo) (.slice none 0 0) w4.heap.size 0 0) 78
  rw [hsm] at hL
  obtain ⟨col, hcol⟩ := recol_ex (fun _ => False) FO (fun _ => 0) 0 0
  have cO : ∀ b, FO b → col b = 1 := fun b h => (hcol b).2.1 id h
  have cN : ∀ b, ¬ FO b → col b = 0 := fun b h => (hcol b).2.2.1 id h (.inr rfl)
  have c1 : ∀ b, col b ≠ 0 → FO b := fun b h => Classical.byContradiction (fun h' => h (cN b h'))
  have nO : ∀ b, b < w1.heap.size ∨ go ≤ b → col b = 0 := fun b h => cN b (fun h' => by have := HFO.out b h'; omega)
  refine ⟨K, ⟨w.heap.size, w4.heap.size + 1, w1.heap.size, lb, mb, bm, bw, w4.heap.size, gc, go, capo, capC, aoC⟩, col, rfl, rfl, HMOK.out,
    { blk := ⟨.slice none 0 0, [], ?_, World.ownsRow_nil _ _ _ _, rfl, fun i k x h _ => (by simp at h), fun k h => (by cases h), ⟨fun e v h => by simp [stM] at h, HM.out.of_blocks (BL.block _ m1) (BL.block _ m2), HCC.out.stays (B := w4.heap.size) ((((Below.refl _ _).alloc (Nat.le_refl _) _)).alloc (by omega) _) (fun h => (HGC.out h).2.2), ?_, ?_⟩, 0, (MapIs.made _ _ _ _).alloc _, by simp [stM]⟩
      line := ⟨f, cs.length, HLN.out.stays B1 (Nat.le_refl _), by omega⟩
      lays :=
        { haC := fun h => (HGC.out h).1
          gsep := fun h => by have := HGC.out h; exact ⟨by show gc < w4.heap.size + 1; omega, by show gc ≠ bm; omega, by show gc ≠ bw; omega, by show gc ≠ w4.heap.size; omega, by show gc ≠ mb; omega, by show w1.heap.size ≤ gc; omega, nO gc (.inr (by omega))⟩
          osep := ⟨by show go < w4.heap.size + 1; omega, by show go ≠ bm; omega, by show go ≠ bw; omega, by show go ≠ w4.heap.size; omega, by show go ≠ mb; omega, by show w1.heap.size ≤ go; omega, nO go (.inr (Nat.le_refl _))⟩
          lsep := ⟨by show bm < w4.heap.size + 1; omega, by show bw < w4.heap.size + 1; omega, by show w4.heap.size < w4.heap.size + 1; omega⟩
          t1 := ⟨by show w1.heap.size ≤ w4.heap.size + 1; omega, by show w1.heap.size ≤ bm; omega, by show w1.heap.size ≤ bw; omega, by show w1.heap.size ≤ w4.heap.size; omega, by show mb < w1.heap.size; omega, by show w1.heap.size ≤ _; simp; omega⟩
          b0 := ⟨by show w.heap.size ≤ w4.heap.size + 1; omega, by show w.heap.size ≤ bm; omega, by show w.heap.size ≤ bw; omega, by show w.heap.size ≤ w4.heap.size; omega, by show w.heap.size ≤ mb; omega⟩
          mne := ⟨by show w4.heap.size ≠ bm; omega, by show w4.heap.size ≠ bw; omega, HM.out.2.2⟩
          c0 := ⟨nO _ (.inr (by show go ≤ w4.heap.size + 1; omega)), nO _ (.inl (by show mb < w1.heap.size; omega)), nO _ (.inr (by show go ≤ bm; omega)), nO _ (.inr (by show go ≤ bw; omega)), nO _ (.inr (by show go ≤ w4.heap.size; omega))⟩
          cT := fun b hb => by have := HFO.out b (c1 b hb); exact ⟨by show w1.heap.size ≤ b; omega, by simp; omega, by show w.heap.size ≤ b; omega⟩
          cL := fun b hb => by have := cO b (c1 b (by omega)); omega
          cE := fun b => by
            by_cases h : FO b
            · have := cO b h; omega
            · have := cN b h; omega
          cl := hcl }
      tj := rfl
      jl := by omega
      evl := Nat.le_refl _
      stl := fun v hv => by simp [stM] at hv }, BT⟩
  · have e : K.objs.length = 1 := by rw [HOBJS.out]; rfl
    rw [e]
    exact hL
  · intro i v hv
    rw [HOBJS.out] at hv
    match i, hv with
    | 0, hv =>
      cases hv
      exact (B2.cell (p := ⟨go, 0, none⟩) q4).trans HGO.out
  · exact K.obj_keep HOB.out (fun b hb => B2.block b (by have := HFO.out b hb; omega)) cO
end
def checkL (n : Int) (ts : List Int) (m : Nat) : Nat := if wrongL n [] ≠ 0 then wrongL n [] else if 65536 < m then 3 else wrongL n ts

set_option maxRecDepth 100000 in
set_option maxHeartbeats 2000000 in
theorem check_any (n : Int) (ao : Option Addr) (b o cap : Nat) (cs : List CallV) (ao3 : Option Addr) (np cap3 : Nat) (w : World) (ha : 0 < cs.length → ao = some ⟨b, o, none⟩) (hb : 0 < cs.length → b < w.heap.size) (hc : CallsAt w b o cs) (hnp : np ≤ 9223372036854775807) :
    Calls Try.prog 17 #[.int .i64 n, .slice ao cs.length cap, .slice ao3 np cap3] w fun e w' => e = .returned (.int .i64 (checkL n (thr cs) np : Nat)) ∧ Below w.heap.size w w' := by
  have h0 := new_any n none 0 0 0 [] w (fun h => absurd h (by simp)) (fun h => absurd h (by simp)) (fun i x h => by simp at h)
  simp only [List.length_nil] at h0
  by_cases hw : wrongL n [] = 0
  · by_cases hl : 65536 < np
    · have hC : checkL n (thr cs) np = 3 := by unfold checkL; rw [if_neg (by simpa using hw), if_pos hl]
      rw [hC]
      have HH := Lib.hid hw
      clear hw hC
      go_enter Try.func17, Try.ntmps17
      go_wp2_with fail
      refine h0.mono ?_
      rintro e w1 ⟨_, h1, hb1⟩
      obtain ⟨lb, mb, f, rfl, _⟩ := h1 HH.out
      clear h1
      go_wp2_with fail
      go_ret
      exact ⟨rfl, hb1⟩
    · have hC : checkL n (thr cs) np = wrongL n (thr cs) := by unfold checkL; rw [if_neg (by simpa using hw), if_neg hl]
      rw [hC]
      have HH := Lib.hid hw
      clear hw hC
      go_enter Try.func17, Try.ntmps17
      go_wp2_with fail
      refine h0.mono ?_
      rintro e w1 ⟨_, h1, hb1⟩
      obtain ⟨lb, mb, f, rfl, _⟩ := h1 HH.out
      have HB1 := Lib.hid hb1
      have z1 := hb1.size
      clear h1 hb1
      go_wp2_with fail
      refine (new_any n ao b o cap cs w1 ha (fun h => by have := hb h; omega) (hc.stays HB1.out hb)).mono ?_
      rintro e w2 ⟨h1, h2, hb2⟩
      have HB2 := Lib.hid (HB1.out.trans (hb2.mono z1))
      clear hb2
      by_cases hr : wrongL n (thr cs) = 0
      · obtain ⟨lb, mb, f, rfl, _⟩ := h2 hr
        have HR := Lib.hid hr
        clear h1 h2 hr
        go_wp2_with fail
        go_ret
        exact ⟨by rw [HR.out]; rfl, HB2.out⟩
      · obtain rfl := h1 hr
        clear h1 h2 hr
        go_wp2_with fail
        go_ret
        exact ⟨rfl, HB2.out⟩
  · have hC : checkL n (thr cs) np = wrongL n [] := by unfold checkL; rw [if_pos hw]
    rw [hC]
    have HH := Lib.hid hw
    have hne : ((wrongL n [] : Nat) : Int) ≠ 0 := by omega
    clear hw hC
    go_enter Try.func17, Try.ntmps17
    go_wp2_with fail
    refine h0.mono ?_
    rintro e w1 ⟨h1, _, hb1⟩
    obtain rfl := h1 HH.out
    clear h1
    rw [show thr [] = ([] : List Int) from rfl]
    go_wp2_with fail
    go_ret
    exact ⟨rfl, hb1⟩

end Go.Proofs.Ytglpalomhhhmhaa
