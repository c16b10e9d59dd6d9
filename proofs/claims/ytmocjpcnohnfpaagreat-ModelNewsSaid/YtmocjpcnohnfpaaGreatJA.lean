/- Models, plainly; slices with room; append onto a row of the call's own; the queue's closures. -/
import Derived.Test.YtmocjpcnohnfpaaGreatBj
import Derived.Test.YtmocjpcnohnfpaaGreatSK
import Derived.Test.YtmocjpcnohnfpaaGreatHQ
import Derived.RegionTactic
namespace Go.Proofs.YtmocjpcnohnfpaaGreat
open Go.ChangeShapes Go.WideShapes Go.ChangeAt Go.RowKit
set_option linter.unusedVariables false
set_option linter.unusedSimpArgs false
set_option maxRecDepth 100000

/-- a call, cell by cell -/
structure CallM where
  th : Int
  ob : Int
  kd : Int
  a : Nat
  b : Nat
  c : Nat
def CallM.vs (x : CallM) : List Value := [.int .i64 x.th, .int .i64 x.ob, .int .i64 x.kd, .int .u64 (x.a : Int), .int .u64 (x.b : Int), .int .u64 (x.c : Int)]
abbrev callV (th ob kd a b c : Int) : Value := .agg #[.int .i64 th, .int .i64 ob, .int .i64 kd, .int .u64 a, .int .u64 b, .int .u64 c]
abbrev callO (th ob kd a b c : Int) : Obj := .cells #[.int .i64 th, .int .i64 ob, .int .i64 kd, .int .u64 a, .int .u64 b, .int .u64 c] 27
/-- what an operation makes of a model, and answers -/
structure MdR where
  st : List Nat
  err : Nat
  val : Nat
  ls : List Nat
def mdQ (m : List Nat) (th kd : Int) (a : Nat) : MdR :=
  if ¬ (0 ≤ kd ∧ kd < 2) then ⟨m, 9, 0, []⟩ else if kd = 0 then (if 16777216 ≤ a then ⟨m, 10, 0, []⟩ else ⟨m ++ [th.toNat, a], 0, 0, []⟩) else (if m = [] then ⟨m, 7, 0, []⟩ else ⟨m.drop 2, 0, m.getD 1 0, []⟩)

/-- a slice has room for its elements -/
def Room (v : Value) : Prop := ∀ (ao : Option Addr) (n cap : Nat), v = .slice ao n cap → n ≤ cap
theorem OwnW.room {w : World} {B : Nat} {v : Value} {l : List Nat} (h : OwnW w B v l) : Room v := by
  obtain ⟨_, ⟨rfl, h0⟩ | ⟨g, cap, cur, rfl, hg, hb, h1, h2, h3, h4⟩⟩ := h
  · intro ao n cap e; cases e; exact Nat.le_refl _
  · intro ao n cap' e; cases e; exact h1
theorem room_nil : Room (.slice none 0 0) := fun _ _ _ e => by cases e; exact Nat.le_refl _

/-- append of a slice onto a row of the call's own -/
theorem append_onto_own {P : Program} {w : World} {ops : Array Oper} {rest : List Oper} {o : Oper} {a : Act} {Q : Exit → Act → World → Prop} (hgd : o.guard = none) (s x : Operand) (t : TypeId)
    (ho : o.op = .call { callee := .builtin .append, args := #[s, x], argTypes := #[t, t] })
    (base : Nat) (e : TypeId) (i : TypeInfo) (z : Value) (bytes : Nat) (ht : P.underlying t = some (.slice e)) (hi : P.info? e = some i) (hz : i.zero = some z)
    (hsize : i.size = 1) (hby : i.bytes = bytes) (hzs : z.cells.size = 1) (hbs : bytes ≤ 4096)
    (v : Value) (n : Nat) (xs : List Value) (hs : a.eval s = v) (hown : w.ownsRow base e 1 v n xs) (ao : Option Addr) (b off cap m : Nat) (us : List Value) (hx : a.eval x = .slice ao m cap) (hn : us.length = m)
    (ha : 0 < m → ao = some ⟨b, off, none⟩) (hcap : ao = none → cap = 0) (hc : ∀ (j : Nat) (u : Value), us[j]? = some u → w.cell? ⟨b, off + j, none⟩ = some u) (h1 : us.all (fun u => u.oneCell') = true) (hle : n + m ≤ 4294967296) (hbase : base ≤ w.heap.size)
    (h : ∀ v' w', w'.ownsRow base e 1 v' (n + m) (xs ++ us) → Below base w w' → (∀ k, k < w.heap.size → v.ownBlock ≠ some k → w'.heap[k]? = w.heap[k]?) → wpList P ops Q rest (a.put o.dst v') w') : wpList P ops Q (o :: rest) a w := by
  cases ao with
  | none =>
    have hm0 : m = 0 := by
      cases m with
      | zero => rfl
      | succ m => exact absurd (ha (by omega)) (by simp)
    subst hm0
    obtain rfl : cap = 0 := hcap rfl
    obtain rfl : us = [] := List.length_eq_zero_iff.1 hn
    refine wpList_append_own_none hgd s x t ho base e i 1 ht hi v n xs hs hown hx ?_
    exact h _ _ (by simpa using hown) (Below.refl _ _) (fun _ _ _ => rfl)
  | some ad =>
    refine wpList_append_own _ hgd s x t ho base e i z 1 bytes ht hi hz hsize hby hzs (by decide) v n xs hs hown ad m cap us hx (by rw [hn, Nat.mul_one]) ?_ (by simpa using h1) (by unfold maxLen; omega) ?_ hbase ?_
    · intro j u hj
      have hl : 0 < m := by have := (List.getElem?_eq_some_iff.1 hj).1; omega
      obtain rfl := Option.some.inj (ha hl)
      rw [addr_add _ j b off rfl]
      exact hc j u hj
    · have : (n + m) * bytes ≤ 4294967296 * 4096 := Nat.mul_le_mul (by omega) hbs
      omega
    · intro v' w' ho2 hg hnn
      exact h v' w' ho2 ((Below.refl _ _).grown hg hbase (fun k hk => (hown.lt k hk).1)) (fun k hk hne => hg.block k hk (fun e => hne e.symm))

/-- what an operation leaves -/
def ChP (B : Nat) (W : World) (r : MdR) (e : Ending) (w' : World) : Prop :=
  ∃ v' lv, e = .returned (.tuple #[v', .agg #[.int .i64 (r.err : Int), .int .u64 (r.val : Int), lv]]) ∧ (ArgB w' B v' r.st ∧ Room v') ∧ (ArgB w' B lv r.ls ∧ Room lv) ∧ Below B W w'
/-- the function of an operation: what comes of a call of it -/
def ChgK (B0 : Nat) (w : World) (m : List Nat) (r : MdR) (fid : FuncId) (ex : List Value) : Prop :=
  (∀ (args : Array Value) (w : World), (callFunc fid args).run Tryz.prog w = .ok (.enter fid args) w) ∧
    ∀ (W : World) (B : Nat) (v : Value), Below w.heap.size w W → B ≤ W.heap.size → OwnW W B v m → (∀ g, v.ownBlock = some g → g < B0) → Calls Tryz.prog fid (v :: ex).toArray W (ChP B W r)
def OpP (m : List Nat) (r : MdR) (W : World) (e : Ending) (w' : World) : Prop :=
  ∃ fid ex, e = .returned (.func (.func fid) #[] ex.toArray) ∧ ChgK W.heap.size w' m r fid ex ∧ Below W.heap.size W w'

theorem OwnW.ne_ans {w : World} {B b : Nat} {v : Value} {l : List Nat} {c : Array Value} (h : OwnW w B v l) (hb : w.heap[b]? = some (.cells c 63)) : v.ownBlock ≠ some b := by
  obtain ⟨_, ⟨rfl, _⟩ | ⟨g, c1, u, rfl, _, hb1, _⟩⟩ := h
  · intro h; cases h
  · intro h
    simp only [Value.ownBlock, Option.some.injEq] at h
    subst h
    rw [hb1] at hb
    simp at hb
theorem OwnW.put3 {w : World} {B b : Nat} {v : Value} {l : List Nat} (h : OwnW w B v l) (hb : v.ownBlock ≠ some b) (x y z : Value) : OwnW (((w.setCell ⟨b, 0, none⟩ x).setCell ⟨b, 1, none⟩ y).setCell ⟨b, 2, none⟩ z) B v l :=
  ((h.other _ (a := ⟨b, 0, none⟩) hb).other _ (a := ⟨b, 1, none⟩) hb).other _ (a := ⟨b, 2, none⟩) hb
theorem put3_below {a w : World} {B b : Nat} (h : Below B a w) (hb : B ≤ b) (x y z : Value) : Below B a (((w.setCell ⟨b, 0, none⟩ x).setCell ⟨b, 1, none⟩ y).setCell ⟨b, 2, none⟩ z) :=
  ((h.setCell (p := ⟨b, 0, none⟩) hb _).setCell (p := ⟨b, 1, none⟩) hb _).setCell (p := ⟨b, 2, none⟩) hb _
/-- behind the answer's new cell -/
theorem OwnW.ansNe {w : World} {B : Nat} {v : Value} {l : List Nat} (h : OwnW w B v l) : v.ownBlock ≠ some w.heap.size := fun e => by
  have := (World.ownsRow.lt h _ e).2; omega

set_option maxHeartbeats 2000000 in
/-- an operation that gives an error -/
theorem fail1_any (g er : Nat) (m : List Nat) (v : Value) (B : Nat) (w : World) (h : OwnW w B v m) (hB : B ≤ w.heap.size) (hg : w.cell? ⟨g, 0, none⟩ = some (.int .i64 (er : Int))) :
    Calls Tryz.prog 133 #[v, .pointer (some ⟨g, 0, none⟩)] w (ChP B w ⟨m, er, 0, []⟩) := by
  have HO := Lib.hid h
  obtain ⟨ao, cap, rfl⟩ := h.arg.isSlice
  have hlt := World.block_lt_of_cell? w _ hg
  simp only at hlt
  have HR := Lib.hid h.room
  clear h
  go_enter Tryz.func133, Tryz.ntmps133
  go_wp2_with fail
  go_region
  go_wp2
  refine bodyPost_ret (v := .tuple #[.slice ao m.length cap, .agg #[.int .i64 (er : Int), .int .u64 0, .slice none 0 0]]) (by simp [results, Tryz.results133, go_sem]) rfl ⟨_, _, rfl, ⟨(HO.out.alloc _).argB, HR.out⟩, ⟨ArgB.nil _ _, room_nil⟩, ((Below.refl B w).alloc hB _).drew⟩

/-- fail gives such a function -/
theorem fail_any (er : Nat) (w : World) (m : List Nat) : Calls Tryz.prog 105 #[.int .i64 (er : Int)] w (OpP m ⟨m, er, 0, []⟩ w) := by
  have hmf : ∀ (fn : Fn) (first cap : Array Value) (w : World), (Instr.makeFunc fn first cap).run Tryz.prog w = .ok (.func fn first cap) w := fun _ _ _ _ => rfl
  go_enter Tryz.func105, Tryz.ntmps105
  go_wp2_with fail
  go_ret
  refine ⟨_, [.pointer (some ⟨w.heap.size, 0, none⟩)], rfl, ⟨fun args w => by kernel_rfl, fun W B v hb hB ho hg => ?_⟩, (Below.refl _ _).alloc (Nat.le_refl _) _⟩
  exact fail1_any _ er m v B W ho hB ((hb.cell (p := ⟨w.heap.size, 0, none⟩) (by simp)).trans (cell_new0 _ _ _ rfl))

set_option maxHeartbeats 2000000 in
/-- the queue's operations -/
theorem pass1_put (g t a : Nat) (ob b c : Int) (m : List Nat) (v : Value) (B : Nat) (w : World) (h : OwnW w B v m) (hB : B ≤ w.heap.size) (hg : w.heap[g]? = some (callO (t : Int) ob 0 (a : Int) b c)) (hne : v.ownBlock ≠ some g) (ht : t < 16) (hl : m.length ≤ 2000000) :
    Calls Tryz.prog 145 #[v, .pointer (some ⟨g, 0, none⟩)] w (ChP B w ⟨m ++ [t, a], 0, 0, []⟩) := by
  obtain ⟨iI, ia, ib, ic, id⟩ := info_parts info22
  have HO := Lib.hid ((h.alloc ansO).alloc (.cells #[wU t, wU a] 25))
  have HN := Lib.hid h.ansNe
  have hlt := blk_lt hg
  have c0 : w.cell? ⟨g, 0, none⟩ = some (.int .i64 (t : Int)) := Tb.cell_of_blkT hg rfl
  have c2 : w.cell? ⟨g, 2, none⟩ = some (.int .i64 0) := Tb.cell_of_blkT hg rfl
  have c3 : w.cell? ⟨g, 3, none⟩ = some (.int .u64 (a : Int)) := Tb.cell_of_blkT hg rfl
  obtain ⟨ao, cap, rfl⟩ := h.arg.isSlice
  have HC : Hid (∀ (j : Nat) (u : Value), [wU t, wU a][j]? = some u → ((w.alloc ansO).alloc (.cells #[wU t, wU a] 25)).cell? ⟨w.heap.size + 1, 0 + j, none⟩ = some u) := Lib.hid (fun j u hu => by
    rw [Nat.zero_add]
    rw [World.cell?_alloc_at _ _ _ _ (by simp)]
    simpa using hu)
  have HM : Hid (List.map wU m ++ [wU t, wU a] = (m ++ [t, a]).map wU) := Lib.hid (by simp)
  unfold wU ansO at *
  clear h hg
  go_enter Tryz.func145, Tryz.ntmps145
  go_wp2_with (at_builtin; refine append_onto_own rfl _ _ 24 rfl B 25 iI (.int .u64 0) 8 Tryz.underlying24 ia ib ic id rfl (by decide) _ m.length _ rfl HO.out (some ⟨w.heap.size + 1, 0, none⟩) (w.heap.size + 1) 0 2 2 [.int .u64 (t : Int), .int .u64 (a : Int)] rfl rfl (fun _ => rfl) (fun h => by cases h) HC.out rfl (by omega) (by simp; omega) ?_; intro v' w1 how hbl hkp; (have HO1 : Hid (OwnW w1 B v' (m ++ [t, a])) := Lib.hid (by unfold OwnW; rw [List.length_append]; unfold wU; rw [← HM.out]; exact how)); (have hbk : w1.heap[w.heap.size]? = some (.cells #[.int .i64 0, .int .u64 0, .slice none 0 0] 63) := (hkp _ (by simp; omega) HN.out).trans ((Below.heap_alloc _ _ _ (by simp)).trans (heap_alloc_new _ _))); (have k0 := Tb.cell_of_blkT (k := 0) hbk rfl); (have k1 := Tb.cell_of_blkT (k := 1) hbk rfl); (have k2 := Tb.cell_of_blkT (k := 2) hbk rfl); (have z0 := Tb.free_of_blkT (k := 0) hbk); (have z1 := Tb.free_of_blkT (k := 1) hbk); (have z2 := Tb.free_of_blkT (k := 2) hbk); (have HNE := Lib.hid (HO1.out.ne_ans hbk)); (have HB1 : Hid (Below B w w1) := Lib.hid ((((Below.refl B w).alloc hB _).alloc (by simp; omega) _).trans hbl)); clear how hbl hkp hbk)
  refine bodyPost_ret (v := .tuple #[v', .agg #[.int .i64 0, .int .u64 0, .slice none 0 0]]) (by simp [results, Tryz.results145, go_sem, k0, k1, k2]) rfl ⟨_, _, rfl, ⟨(HO1.out.put3 HNE.out _ _ _).argB, HO1.out.room⟩, ⟨ArgB.nil _ _, room_nil⟩, put3_below HB1.out hB _ _ _⟩

set_option maxHeartbeats 2000000 in
theorem pass1_none (g : Nat) (t ob a b c : Int) (v : Value) (B : Nat) (w : World) (h : OwnW w B v []) (hB : B ≤ w.heap.size) (hg : w.heap[g]? = some (callO t ob 1 a b c)) :
    Calls Tryz.prog 145 #[v, .pointer (some ⟨g, 0, none⟩)] w (ChP B w ⟨[], 7, 0, []⟩) := by
  have HO := Lib.hid h
  have hlt := blk_lt hg
  have c2 : w.cell? ⟨g, 2, none⟩ = some (.int .i64 1) := Tb.cell_of_blkT hg rfl
  have HR := Lib.hid h.room
  obtain ⟨ao, cap, rfl⟩ := h.arg.isSlice
  simp only [List.length_nil] at *
  clear h hg
  go_enter Tryz.func145, Tryz.ntmps145
  go_wp2_with fail
  refine bodyPost_ret (v := .tuple #[.slice ao 0 cap, .agg #[.int .i64 7, .int .u64 0, .slice none 0 0]]) (by simp [results, Tryz.results145, go_sem]) rfl ⟨_, _, rfl, ⟨(HO.out.alloc _).argB, HR.out⟩, ⟨ArgB.nil _ _, room_nil⟩, ((Below.refl B w).alloc hB _)⟩

theorem argB_drop2 {w : World} {B g cap n : Nat} {x y : Nat} {r : List Nat} (h : OwnW w B (.slice (some ⟨g, 0, none⟩) n cap) (x :: y :: r)) (hn : n = r.length + 2) : ArgB w B (.slice (some ⟨g, 2, none⟩) r.length (cap - 2)) r ∧ Room (.slice (some ⟨g, 2, none⟩) r.length (cap - 2)) := by
  subst hn
  have hr := h.room _ _ _ rfl
  obtain ⟨g', cap', e0, hg, hlt, hc, hf⟩ := h.opened (by simp)
  cases e0
  refine ⟨⟨_, g, 2, cap - 2, rfl, fun _ => ⟨rfl, hg⟩, (fun h => by cases h), fun i u hu => ?_⟩, fun ao n c e => by cases e; omega⟩
  have := hc (i + 2) u (by simpa using hu)
  rw [Nat.add_comm 2 i]
  exact this
set_option maxHeartbeats 4000000 in
theorem pass1_take (g : Nat) (t ob a b c : Int) (x y : Nat) (r : List Nat) (v : Value) (B : Nat) (w : World) (h : OwnW w B v (x :: y :: r)) (hB : B ≤ w.heap.size) (hl : r.length ≤ 2000000) (hg : w.heap[g]? = some (callO t ob 1 a b c)) :
    Calls Tryz.prog 145 #[v, .pointer (some ⟨g, 0, none⟩)] w (ChP B w ⟨r, 0, y, []⟩) := by
  obtain ⟨g1, cap, rfl, hg1, hlt1, hc, hf⟩ := h.opened (by simp)
  have HO := Lib.hid h
  have hlt := blk_lt hg
  have c2 : w.cell? ⟨g, 2, none⟩ = some (.int .i64 1) := Tb.cell_of_blkT hg rfl
  have d1 : w.cell? ⟨g1, 1, none⟩ = some (.int .u64 (y : Int)) := hc 1 y rfl
  have hcap := h.room _ _ _ rfl
  have hlen : (x :: y :: r).length = r.length + 2 := rfl
  rw [hlen] at hcap HO ⊢
  clear h hg hc hf hlen
  have HN : Hid ((r.length : Int) + 2 - 2 = (r.length : Int)) := Lib.hid (by omega)
  by_cases h2 : cap = 2
  · subst h2
    have hr0 : r = [] := List.length_eq_zero_iff.1 (by omega)
    subst hr0
    simp only [List.length_nil, Nat.zero_add] at *
    go_enter Tryz.func145, Tryz.ntmps145
    go_wp2_with fail
    go_region
    go_wp2
    refine bodyPost_ret (v := .tuple #[.slice (some ⟨g1, 0, none⟩) 0 0, .agg #[.int .i64 0, .int .u64 (y : Int), .slice none 0 0]]) (by simp [results, Tryz.results145, go_sem]) rfl ⟨_, _, rfl, ⟨⟨_, g1, 0, 0, rfl, fun h => absurd h (by simp), (fun h => by cases h), fun i u hu => by simp at hu⟩, fun ao n c e => by cases e; exact Nat.le_refl _⟩, ⟨ArgB.nil _ _, room_nil⟩, ((Below.refl B w).alloc hB _).drew⟩
  · have h3 : 2 < cap := by omega
    have hAB := argB_drop2 ((HO.out.alloc (.cells #[.int .i64 0, .int .u64 (y : Int), .slice none 0 0] 63)).drewN 1) rfl
    have HAB := Lib.hid hAB
    clear hAB
    go_enter Tryz.func145, Tryz.ntmps145
    go_wp2_with fail
    go_region
    go_wp2
    refine bodyPost_ret (v := .tuple #[.slice (some ⟨g1, 2, none⟩) r.length (cap - 2), .agg #[.int .i64 0, .int .u64 (y : Int), .slice none 0 0]]) (by simp [results, Tryz.results145, go_sem]) rfl ⟨_, _, rfl, HAB.out, ⟨ArgB.nil _ _, room_nil⟩, ((Below.refl B w).alloc hB _).drew⟩

/-- what pass gives: the function of a queue's operation -/
theorem mdQ_put {m : List Nat} {t a : Nat} (ha : a < 16777216) : mdQ m (t : Int) 0 a = ⟨m ++ [t, a], 0, 0, []⟩ := by
  unfold mdQ; rw [if_neg (by omega), if_pos rfl, if_neg (by omega)]; rfl
set_option maxHeartbeats 1000000 in
theorem pass_any (t a : Nat) (ob kd b c : Int) (m : List Nat) (hk : kd = 0 ∨ kd = 1) (ht : t < 16) (hl : m.length ≤ 2000000) (h2 : m.length % 2 = 0) (w : World) :
    Calls Tryz.prog 114 #[callV (t : Int) ob kd (a : Int) b c] w (OpP m (mdQ m (t : Int) kd a) w) := by
  have hmf : ∀ (fn : Fn) (first cap : Array Value) (w : World), (Instr.makeFunc fn first cap).run Tryz.prog w = .ok (.func fn first cap) w := fun _ _ _ _ => rfl
  rcases hk with rfl | rfl
  · by_cases ha : 16777216 ≤ a
    · have hm : mdQ m (t : Int) 0 a = ⟨m, 10, 0, []⟩ := by unfold mdQ; rw [if_neg (by omega), if_pos rfl, if_pos ha]
      rw [hm]
      have HF : Hid (∀ w, Calls Tryz.prog 105 #[.int .i64 10] w (OpP m ⟨m, 10, 0, []⟩ w)) := Lib.hid (fun w => fail_any 10 w m)
      have hd : decide ((16777216 : Int) ≤ (a : Int)) = true := decide_eq_true (by omega)
      clear hm
      go_enter Tryz.func114, Tryz.ntmps114
      go_wp2_with (go_at_call 105; refine (HF.out _).mono ?_; rintro e w1 ⟨fid, ex, rfl, hk, hb⟩)
      go_ret
      refine ⟨fid, ex, rfl, ⟨hk.1, fun W B v h1 h2 h3 h4 => hk.2 W B v h1 h2 h3 (fun g hg => by have := h4 g hg; simp; omega)⟩, ((Below.refl _ _).alloc (Nat.le_refl _) _).trans (hb.mono (by simp))⟩
    · rw [mdQ_put (by omega)]
      have hd : decide ((16777216 : Int) ≤ (a : Int)) = false := decide_eq_false (by omega)
      go_enter Tryz.func114, Tryz.ntmps114
      go_wp2_with fail
      go_ret
      refine ⟨_, [.pointer (some ⟨w.heap.size, 0, none⟩)], rfl, ⟨fun args w => by kernel_rfl, fun W B v hb hB ho hg => ?_⟩, (Below.refl _ _).alloc (Nat.le_refl _) _⟩
      exact pass1_put _ t a ob b c m v B W ho hB ((hb.block w.heap.size (by simp)).trans (heap_alloc_new _ _)) (fun e => by have := hg _ e; omega) ht hl
  · have hC : ∀ r, (∀ (W : World) (B : Nat) (v : Value), OwnW W B v m → B ≤ W.heap.size → W.heap[w.heap.size]? = some (callO (t : Int) ob 1 (a : Int) b c) → Calls Tryz.prog 145 #[v, .pointer (some ⟨w.heap.size, 0, none⟩)] W (ChP B W r)) →
        Calls Tryz.prog 114 #[callV (t : Int) ob 1 (a : Int) b c] w (OpP m r w) := by
      intro r hr
      have HR := Lib.hid hr
      clear hr
      go_enter Tryz.func114, Tryz.ntmps114
      go_wp2_with fail
      go_ret
      refine ⟨_, [.pointer (some ⟨w.heap.size, 0, none⟩)], rfl, ⟨fun args w => by kernel_rfl, fun W B v hb hB ho hg => ?_⟩, (Below.refl _ _).alloc (Nat.le_refl _) _⟩
      exact HR.out W B v ho hB ((hb.block w.heap.size (by simp)).trans (heap_alloc_new _ _))
    match m, h2, hl with
    | [], _, _ =>
      exact hC _ (fun W B v ho hB hg => pass1_none _ _ _ _ _ _ v B W ho hB hg)
    | [x], h2, _ => exact absurd h2 (by simp)
    | x :: y :: r, _, hl => exact hC _ (fun W B v ho hB hg => pass1_take _ _ _ _ _ _ x y r v B W ho hB (by simp at hl; omega) hg)
end Go.Proofs.YtmocjpcnohnfpaaGreat
