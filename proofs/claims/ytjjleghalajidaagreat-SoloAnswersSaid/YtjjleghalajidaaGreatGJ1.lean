/- Models, plainly; slices with room; append onto a row of the call's own; the queue's closures. | length, New, Right: the program's and the reference's. | Right: the program's and the law's; the reference's New. | Lists that are alike, or not; answers; room in a queue. -/
import Derived.Test.YtjjleghalajidaaGreatGB2
import Derived.Test.YtjjleghalajidaaGreatGS2
import Derived.Test.YtjjleghalajidaaGreatGK
import Derived.RegionTactic
namespace Go.Proofs.YtjjleghalajidaaGreat
section
open Go.ChangeShapes Go.WideShapes Go.ChangeAt Go.RowKit
set_option linter.unusedVariables false
set_option linter.unusedSimpArgs false
set_option maxRecDepth 100000

/-- a call, cell by cell -/
structure CallM where
  th : Int
  ob : Int
  kd : Int
  a : Nat
  b : Nat
  c : Nat
def CallM.vs (x : CallM) : List Value := [.int .i64 x.th, .int .i64 x.ob, .int .i64 x.kd, .int .u64 (x.a : Int), .int .u64 (x.b : Int), .int .u64 (x.c : Int)]
abbrev callV (th ob kd a b c : Int) : Value := .agg #[.int .i64 th, .int .i64 ob, .int .i64 kd, .int .u64 a, .int .u64 b, .int .u64 c]
abbrev callO (th ob kd a b c : Int) : Obj := .cells #[.int .i64 th, .int .i64 ob, .int .i64 kd, .int .u64 a, .int .u64 b, .int .u64 c] 65
/-- what an operation makes of a model, and answers -/
structure MdR where
  st : List Nat
  err : Nat
  val : Nat
  ls : List Nat
def mdQ (m : List Nat) (th kd : Int) (a : Nat) : MdR :=
  if ¬ (0 ≤ kd ∧ kd < 2) then ⟨m, 9, 0, []⟩ else if kd = 0 then (if 16777216 ≤ a then ⟨m, 10, 0, []⟩ else ⟨m ++ [th.toNat, a], 0, 0, []⟩) else (if m = [] then ⟨m, 7, 0, []⟩ else ⟨m.drop 2, 0, m.getD 1 0, []⟩)

/-- a slice has room for its elements -/
def Room (v : Value) : Prop := ∀ (ao : Option Addr) (n cap : Nat), v = .slice ao n cap → n ≤ cap
theorem OwnW.room {w : World} {B : Nat} {v : Value} {l : List Nat} (h : OwnW w B v l) : Room v := by
  obtain ⟨_, ⟨rfl, h0⟩ | ⟨g, cap, cur, rfl, hg, hb, h1, h2, h3, h4⟩⟩ := h
  · intro ao n cap e; cases e; exact Nat.le_refl _
  · intro ao n cap' e; cases e; exact h1
theorem room_nil : Room (.slice none 0 0) := fun _ _ _ e => by cases e; exact Nat.le_refl _

/-- append of a slice onto a row of the call's own -/
theorem append_onto_own {P : Program} {w : World} {ops : Array Oper} {rest : List Oper} {o : Oper} {a : Act} {Q : Exit → Act → World → Prop} (hgd : o.guard = none) (s x : Operand) (t : TypeId)
    (ho : o.op = .call { callee := .builtin .append, args := #[s, x], argTypes := #[t, t] })
    (base : Nat) (e : TypeId) (i : TypeInfo) (z : Value) (bytes : Nat) (ht : P.underlying t = some (.slice e)) (hi : P.info? e = some i) (hz : i.zero = some z)
    (hsize : i.size = 1) (hby : i.bytes = bytes) (hzs : z.cells.size = 1) (hbs : bytes ≤ 4096)
    (v : Value) (n : Nat) (xs : List Value) (hs : a.eval s = v) (hown : w.ownsRow base e 1 v n xs) (ao : Option Addr) (b off cap m : Nat) (us : List Value) (hx : a.eval x = .slice ao m cap) (hn : us.length = m)
    (ha : 0 < m → ao = some ⟨b, off, none⟩) (hcap : ao = none → cap = 0) (hc : ∀ (j : Nat) (u : Value), us[j]? = some u → w.cell? ⟨b, off + j, none⟩ = some u) (h1 : us.all (fun u => u.oneCell') = true) (hle : n + m ≤ 4294967296) (hbase : base ≤ w.heap.size)
    (h : ∀ v' w', w'.ownsRow base e 1 v' (n + m) (xs ++ us) → Below base w w' → (∀ k, k < w.heap.size → v.ownBlock ≠ some k → w'.heap[k]? = w.heap[k]?) → wpList P ops Q rest (a.put o.dst v') w') : wpList P ops Q (o :: rest) a w := by
  cases ao with
  | none =>
    have hm0 : m = 0 := by
      cases m with
      | zero => rfl
      | succ m => exact absurd (ha (by omega)) (by simp)
    subst hm0
    obtain rfl : cap = 0 := hcap rfl
    obtain rfl : us = [] := List.length_eq_zero_iff.1 hn
    refine wpList_append_own_none hgd s x t ho base e i 1 ht hi v n xs hs hown hx ?_
    exact h _ _ (by simpa using hown) (Below.refl _ _) (fun _ _ _ => rfl)
  | some ad =>
    refine wpList_append_own _ hgd s x t ho base e i z 1 bytes ht hi hz hsize hby hzs (by decide) v n xs hs hown ad m cap us hx (by rw [hn, Nat.mul_one]) ?_ (by simpa using h1) (by unfold maxLen; omega) ?_ hbase ?_
    · intro j u hj
      have hl : 0 < m := by have := (List.getElem?_eq_some_iff.1 hj).1; omega
      obtain rfl := Option.some.inj (ha hl)
      rw [addr_add _ j b off rfl]
      exact hc j u hj
    · have : (n + m) * bytes ≤ 4294967296 * 4096 := Nat.mul_le_mul (by omega) hbs
      omega
    · intro v' w' ho2 hg hnn
      exact h v' w' ho2 ((Below.refl _ _).grown hg hbase (fun k hk => (hown.lt k hk).1)) (fun k hk hne => hg.block k hk (fun e => hne e.symm))

/-- what an operation leaves -/
def ChP (B : Nat) (W : World) (r : MdR) (e : Ending) (w' : World) : Prop :=
  ∃ v' lv, e = .returned (.tuple #[v', .agg #[.int .i64 (r.err : Int), .int .u64 (r.val : Int), lv]]) ∧ (ArgB w' B v' r.st ∧ Room v') ∧ (ArgB w' B lv r.ls ∧ Room lv) ∧ Below B W w'
/-- the function of an operation: what comes of a call of it -/
def ChgK (B0 : Nat) (w : World) (m : List Nat) (r : MdR) (fid : FuncId) (ex : List Value) : Prop :=
  (∀ (args : Array Value) (w : World), (callFunc fid args).run Tryz.prog w = .ok (.enter fid args) w) ∧
    ∀ (W : World) (B : Nat) (v : Value), Below w.heap.size w W → B ≤ W.heap.size → OwnW W B v m → (∀ g, v.ownBlock = some g → g < B0) → Calls Tryz.prog fid (v :: ex).toArray W (ChP B W r)
def OpP (m : List Nat) (r : MdR) (W : World) (e : Ending) (w' : World) : Prop :=
  ∃ fid ex, e = .returned (.func (.func fid) #[] ex.toArray) ∧ ChgK W.heap.size w' m r fid ex ∧ Below W.heap.size W w'

theorem OwnW.ne_ans {w : World} {B b : Nat} {v : Value} {l : List Nat} {c : Array Value} (h : OwnW w B v l) (hb : w.heap[b]? = some (.cells c 57)) : v.ownBlock ≠ some b := by
  obtain ⟨_, ⟨rfl, _⟩ | ⟨g, c1, u, rfl, _, hb1, _⟩⟩ := h
  · intro h; cases h
  · intro h
    simp only [Value.ownBlock, Option.some.injEq] at h
    subst h
    rw [hb1] at hb
    simp at hb
theorem OwnW.put3 {w : World} {B b : Nat} {v : Value} {l : List Nat} (h : OwnW w B v l) (hb : v.ownBlock ≠ some b) (x y z : Value) : OwnW (((w.setCell ⟨b, 0, none⟩ x).setCell ⟨b, 1, none⟩ y).setCell ⟨b, 2, none⟩ z) B v l :=
  ((h.other _ (a := ⟨b, 0, none⟩) hb).other _ (a := ⟨b, 1, none⟩) hb).other _ (a := ⟨b, 2, none⟩) hb
theorem put3_below {a w : World} {B b : Nat} (h : Below B a w) (hb : B ≤ b) (x y z : Value) : Below B a (((w.setCell ⟨b, 0, none⟩ x).setCell ⟨b, 1, none⟩ y).setCell ⟨b, 2, none⟩ z) :=
  ((h.setCell (p := ⟨b, 0, none⟩) hb _).setCell (p := ⟨b, 1, none⟩) hb _).setCell (p := ⟨b, 2, none⟩) hb _
/-- behind the answer's new cell -/
theorem OwnW.ansNe {w : World} {B : Nat} {v : Value} {l : List Nat} (h : OwnW w B v l) : v.ownBlock ≠ some w.heap.size := fun e => by
  have := (World.ownsRow.lt h _ e).2; omega

set_option maxHeartbeats 2000000 in
/-- an operation that gives an error -/
theorem fail1_any (g er : Nat) (m : List Nat) (v : Value) (B : Nat) (w : World) (h : OwnW w B v m) (hB : B ≤ w.heap.size) (hg : w.cell? ⟨g, 0, none⟩ = some (.int .i64 (er : Int))) :
    Calls Tryz.prog 146 #[v, .pointer (some ⟨g, 0, none⟩)] w (ChP B w ⟨m, er, 0, []⟩) := by
  have HO := Lib.hid h
  obtain ⟨ao, cap, rfl⟩ := h.arg.isSlice
  have hlt := World.block_lt_of_cell? w _ hg
  simp only at hlt
  have HR := Lib.hid h.room
  clear h
  go_enter Tryz.func146, Tryz.ntmps146
  go_wp2_with fail
  go_region
  go_wp2
  refine bodyPost_ret (v := .tuple #[.slice ao m.length cap, .agg #[.int .i64 (er : Int), .int .u64 0, .slice none 0 0]]) (by simp [results, Tryz.results146, go_sem]) rfl ⟨_, _, rfl, ⟨(HO.out.alloc _).argB, HR.out⟩, ⟨ArgB.nil _ _, room_nil⟩, ((Below.refl B w).alloc hB _).drew⟩

/-- fail gives such a function -/
theorem fail_any (er : Nat) (w : World) (m : List Nat) : Calls Tryz.prog 113 #[.int .i64 (er : Int)] w (OpP m ⟨m, er, 0, []⟩ w) := by
  have hmf : ∀ (fn : Fn) (first cap : Array Value) (w : World), (Instr.makeFunc fn first cap).run Tryz.prog w = .ok (.func fn first cap) w := fun _ _ _ _ => rfl
  go_enter Tryz.func113, Tryz.ntmps113
  go_wp2_with fail
  go_ret
  refine ⟨_, [.pointer (some ⟨w.heap.size, 0, none⟩)], rfl, ⟨fun args w => by kernel_rfl, fun W B v hb hB ho hg => ?_⟩, (Below.refl _ _).alloc (Nat.le_refl _) _⟩
  exact fail1_any _ er m v B W ho hB ((hb.cell (p := ⟨w.heap.size, 0, none⟩) (by simp)).trans (cell_new0 _ _ _ rfl))

set_option maxHeartbeats 2000000 in
/-- the queue's operations -/
theorem pass1_put (g t a : Nat) (ob b c : Int) (m : List Nat) (v : Value) (B : Nat) (w : World) (h : OwnW w B v m) (hB : B ≤ w.heap.size) (hg : w.heap[g]? = some (callO (t : Int) ob 0 (a : Int) b c)) (hne : v.ownBlock ≠ some g) (ht : t < 16) (hl : m.length ≤ 2000000) :
    Calls Tryz.prog 158 #[v, .pointer (some ⟨g, 0, none⟩)] w (ChP B w ⟨m ++ [t, a], 0, 0, []⟩) := by
  obtain ⟨iI, ia, ib, ic, id⟩ := info_parts info22
  have HO := Lib.hid ((h.alloc ansO).alloc (.cells #[wU t, wU a] 55))
  have HN := Lib.hid h.ansNe
  have hlt := blk_lt hg
  have c0 : w.cell? ⟨g, 0, none⟩ = some (.int .i64 (t : Int)) := Tb.cell_of_blkT hg rfl
  have c2 : w.cell? ⟨g, 2, none⟩ = some (.int .i64 0) := Tb.cell_of_blkT hg rfl
  have c3 : w.cell? ⟨g, 3, none⟩ = some (.int .u64 (a : Int)) := Tb.cell_of_blkT hg rfl
  obtain ⟨ao, cap, rfl⟩ := h.arg.isSlice
  have HC : Hid (∀ (j : Nat) (u : Value), [wU t, wU a][j]? = some u → ((w.alloc ansO).alloc (.cells #[wU t, wU a] 55)).cell? ⟨w.heap.size + 1, 0 + j, none⟩ = some u) := Lib.hid (fun j u hu => by
    rw [Nat.zero_add]
    rw [World.cell?_alloc_at _ _ _ _ (by simp)]
    simpa using hu)
  have HM : Hid (List.map wU m ++ [wU t, wU a] = (m ++ [t, a]).map wU) := Lib.hid (by simp)
  unfold wU ansO at *
  clear h hg
  go_enter Tryz.func158, Tryz.ntmps158
  go_wp2_with (at_builtin; refine append_onto_own rfl _ _ 37 rfl B 55 iI (.int .u64 0) 8 Tryz.underlying37 ia ib ic id rfl (by decide) _ m.length _ rfl HO.out (some ⟨w.heap.size + 1, 0, none⟩) (w.heap.size + 1) 0 2 2 [.int .u64 (t : Int), .int .u64 (a : Int)] rfl rfl (fun _ => rfl) (fun h => by cases h) HC.out rfl (by omega) (by simp; omega) ?_; intro v' w1 how hbl hkp; (have HO1 : Hid (OwnW w1 B v' (m ++ [t, a])) := Lib.hid (by unfold OwnW; rw [List.length_append]; unfold wU; rw [← HM.out]; exact how)); (have hbk : w1.heap[w.heap.size]? = some (.cells #[.int .i64 0, .int .u64 0, .slice none 0 0] 57) := (hkp _ (by simp; omega) HN.out).trans ((Below.heap_alloc _ _ _ (by simp)).trans (heap_alloc_new _ _))); (have k0 := Tb.cell_of_blkT (k := 0) hbk rfl); (have k1 := Tb.cell_of_blkT (k := 1) hbk rfl); (have k2 := Tb.cell_of_blkT (k := 2) hbk rfl); (have z0 := Tb.free_of_blkT (k := 0) hbk); (have z1 := Tb.free_of_blkT (k := 1) hbk); (have z2 := Tb.free_of_blkT (k := 2) hbk); (have HNE := Lib.hid (HO1.out.ne_ans hbk)); (have HB1 : Hid (Below B w w1) := Lib.hid ((((Below.refl B w).alloc hB _).alloc (by simp; omega) _).trans hbl)); clear how hbl hkp hbk)
  refine bodyPost_ret (v := .tuple #[v', .agg #[.int .i64 0, .int .u64 0, .slice none 0 0]]) (by simp [results, Tryz.results158, go_sem, k0, k1, k2]) rfl ⟨_, _, rfl, ⟨(HO1.out.put3 HNE.out _ _ _).argB, HO1.out.room⟩, ⟨ArgB.nil _ _, room_nil⟩, put3_below HB1.out hB _ _ _⟩

set_option maxHeartbeats 2000000 in
theorem pass1_none (g : Nat) (t ob a b c : Int) (v : Value) (B : Nat) (w : World) (h : OwnW w B v []) (hB : B ≤ w.heap.size) (hg : w.heap[g]? = some (callO t ob 1 a b c)) :
    Calls Tryz.prog 158 #[v, .pointer (some ⟨g, 0, none⟩)] w (ChP B w ⟨[], 7, 0, []⟩) := by
  have HO := Lib.hid h
  have hlt := blk_lt hg
  have c2 : w.cell? ⟨g, 2, none⟩ = some (.int .i64 1) := Tb.cell_of_blkT hg rfl
  have HR := Lib.hid h.room
  obtain ⟨ao, cap, rfl⟩ := h.arg.isSlice
  simp only [List.length_nil] at *
  clear h hg
  go_enter Tryz.func158, Tryz.ntmps158
  go_wp2_with fail
  refine bodyPost_ret (v := .tuple #[.slice ao 0 cap, .agg #[.int .i64 7, .int .u64 0, .slice none 0 0]]) (by simp [results, Tryz.results158, go_sem]) rfl ⟨_, _, rfl, ⟨(HO.out.alloc _).argB, HR.out⟩, ⟨ArgB.nil _ _, room_nil⟩, ((Below.refl B w).alloc hB _)⟩

theorem argB_drop2 {w : World} {B g cap n : Nat} {x y : Nat} {r : List Nat} (h : OwnW w B (.slice (some ⟨g, 0, none⟩) n cap) (x :: y :: r)) (hn : n = r.length + 2) : ArgB w B (.slice (some ⟨g, 2, none⟩) r.length (cap - 2)) r ∧ Room (.slice (some ⟨g, 2, none⟩) r.length (cap - 2)) := by
  subst hn
  have hr := h.room _ _ _ rfl
  obtain ⟨g', cap', e0, hg, hlt, hc, hf⟩ := h.opened (by simp)
  cases e0
  refine ⟨⟨_, g, 2, cap - 2, rfl, fun _ => ⟨rfl, hg⟩, (fun h => by cases h), fun i u hu => ?_⟩, fun ao n c e => by cases e; omega⟩
  have := hc (i + 2) u (by simpa using hu)
  rw [Nat.add_comm 2 i]
  exact this
set_option maxHeartbeats 4000000 in
theorem pass1_take (g : Nat) (t ob a b c : Int) (x y : Nat) (r : List Nat) (v : Value) (B : Nat) (w : World) (h : OwnW w B v (x :: y :: r)) (hB : B ≤ w.heap.size) (hl : r.length ≤ 2000000) (hg : w.heap[g]? = some (callO t ob 1 a b c)) :
    Calls Tryz.prog 158 #[v, .pointer (some ⟨g, 0, none⟩)] w (ChP B w ⟨r, 0, y, []⟩) := by
  obtain ⟨g1, cap, rfl, hg1, hlt1, hc, hf⟩ := h.opened (by simp)
  have HO := Lib.hid h
  have hlt := blk_lt hg
  have c2 : w.cell? ⟨g, 2, none⟩ = some (.int .i64 1) := Tb.cell_of_blkT hg rfl
  have d1 : w.cell? ⟨g1, 1, none⟩ = some (.int .u64 (y : Int)) := hc 1 y rfl
  have hcap := h.room _ _ _ rfl
  have hlen : (x :: y :: r).length = r.length + 2 := rfl
  rw [hlen] at hcap HO ⊢
  clear h hg hc hf hlen
  have HN : Hid ((r.length : Int) + 2 - 2 = (r.length : Int)) := Lib.hid (by omega)
  by_cases h2 : cap = 2
  · subst h2
    have hr0 : r = [] := List.length_eq_zero_iff.1 (by omega)
    subst hr0
    simp only [List.length_nil, Nat.zero_add] at *
    go_enter Tryz.func158, Tryz.ntmps158
    go_wp2_with fail
    go_region
    go_wp2
    refine bodyPost_ret (v := .tuple #[.slice (some ⟨g1, 0, none⟩) 0 0, .agg #[.int .i64 0, .int .u64 (y : Int), .slice none 0 0]]) (by simp [results, Tryz.results158, go_sem]) rfl ⟨_, _, rfl, ⟨⟨_, g1, 0, 0, rfl, fun h => absurd h (by simp), (fun h => by cases h), fun i u hu => by simp at hu⟩, fun ao n c e => by cases e; exact Nat.le_refl _⟩, ⟨ArgB.nil _ _, room_nil⟩, ((Below.refl B w).alloc hB _).drew⟩
  · have h3 : 2 < cap := by omega
    have hAB := argB_drop2 ((HO.out.alloc (.cells #[.int .i64 0, .int .u64 (y : Int), .slice none 0 0] 57)).drewN 1) rfl
    have HAB := Lib.hid hAB
    clear hAB
    go_enter Tryz.func158, Tryz.ntmps158
    go_wp2_with fail
    go_region
    go_wp2
    refine bodyPost_ret (v := .tuple #[.slice (some ⟨g1, 2, none⟩) r.length (cap - 2), .agg #[.int .i64 0, .int .u64 (y : Int), .slice none 0 0]]) (by simp [results, Tryz.results158, go_sem]) rfl ⟨_, _, rfl, HAB.out, ⟨ArgB.nil _ _, room_nil⟩, ((Below.refl B w).alloc hB _).drew⟩

/-- what pass gives: the function of a queue's operation -/
theorem mdQ_put {m : List Nat} {t a : Nat} (ha : a < 16777216) : mdQ m (t : Int) 0 a = ⟨m ++ [t, a], 0, 0, []⟩ := by
  unfold mdQ; rw [if_neg (by omega), if_pos rfl, if_neg (by omega)]; rfl
set_option maxHeartbeats 1000000 in
theorem pass_any (t a : Nat) (ob kd b c : Int) (m : List Nat) (hk : kd = 0 ∨ kd = 1) (ht : t < 16) (hl : m.length ≤ 2000000) (h2 : m.length % 2 = 0) (w : World) :
    Calls Tryz.prog 122 #[callV (t : Int) ob kd (a : Int) b c] w (OpP m (mdQ m (t : Int) kd a) w) := by
  have hmf : ∀ (fn : Fn) (first cap : Array Value) (w : World), (Instr.makeFunc fn first cap).run Tryz.prog w = .ok (.func fn first cap) w := fun _ _ _ _ => rfl
  rcases hk with rfl | rfl
  · by_cases ha : 16777216 ≤ a
    · have hm : mdQ m (t : Int) 0 a = ⟨m, 10, 0, []⟩ := by unfold mdQ; rw [if_neg (by omega), if_pos rfl, if_pos ha]
      rw [hm]
      have HF : Hid (∀ w, Calls Tryz.prog 113 #[.int .i64 10] w (OpP m ⟨m, 10, 0, []⟩ w)) := Lib.hid (fun w => fail_any 10 w m)
      have hd : decide ((16777216 : Int) ≤ (a : Int)) = true := decide_eq_true (by omega)
      clear hm
      go_enter Tryz.func122, Tryz.ntmps122
      go_wp2_with (go_at_call 113; refine (HF.out _).mono ?_; rintro e w1 ⟨fid, ex, rfl, hk, hb⟩)
      go_ret
      refine ⟨fid, ex, rfl, ⟨hk.1, fun W B v h1 h2 h3 h4 => hk.2 W B v h1 h2 h3 (fun g hg => by have := h4 g hg; simp; omega)⟩, ((Below.refl _ _).alloc (Nat.le_refl _) _).trans (hb.mono (by simp))⟩
    · rw [mdQ_put (by omega)]
      have hd : decide ((16777216 : Int) ≤ (a : Int)) = false := decide_eq_false (by omega)
      go_enter Tryz.func122, Tryz.ntmps122
      go_wp2_with fail
      go_ret
      refine ⟨_, [.pointer (some ⟨w.heap.size, 0, none⟩)], rfl, ⟨fun args w => by kernel_rfl, fun W B v hb hB ho hg => ?_⟩, (Below.refl _ _).alloc (Nat.le_refl _) _⟩
      exact pass1_put _ t a ob b c m v B W ho hB ((hb.block w.heap.size (by simp)).trans (heap_alloc_new _ _)) (fun e => by have := hg _ e; omega) ht hl
  · have hC : ∀ r, (∀ (W : World) (B : Nat) (v : Value), OwnW W B v m → B ≤ W.heap.size → W.heap[w.heap.size]? = some (callO (t : Int) ob 1 (a : Int) b c) → Calls Tryz.prog 158 #[v, .pointer (some ⟨w.heap.size, 0, none⟩)] W (ChP B W r)) →
        Calls Tryz.prog 122 #[callV (t : Int) ob 1 (a : Int) b c] w (OpP m r w) := by
      intro r hr
      have HR := Lib.hid hr
      clear hr
      go_enter Tryz.func122, Tryz.ntmps122
      go_wp2_with fail
      go_ret
      refine ⟨_, [.pointer (some ⟨w.heap.size, 0, none⟩)], rfl, ⟨fun args w => by kernel_rfl, fun W B v hb hB ho hg => ?_⟩, (Below.refl _ _).alloc (Nat.le_refl _) _⟩
      exact HR.out W B v ho hB ((hb.block w.heap.size (by simp)).trans (heap_alloc_new _ _))
    match m, h2, hl with
    | [], _, _ =>
      exact hC _ (fun W B v ho hB hg => pass1_none _ _ _ _ _ _ v B W ho hB hg)
    | [x], h2, _ => exact absurd h2 (by simp)
    | x :: y :: r, _, hl => exact hC _ (fun W B v ho hB hg => pass1_take _ _ _ _ _ _ x y r v B W ho hB (by simp at hl; omega) hg)
end
section
open Go.ChangeShapes Go.WideShapes Go.ChangeAt Go.RowKit
set_option linter.unusedVariables false
set_option linter.unusedSimpArgs false
set_option maxRecDepth 100000

def mdLen (n k p : Int) : Int := if k = 0 ∨ k = 9 then p else if k = 5 then 2 * n else if k = 6 then p + n else if k = 8 then 0 else 1
def mdNL (n k p : Int) : Nat := if k = 7 then 1 + sqLo p.toNat else (mdLen n k p).toNat
def mdNew (n k p : Int) : List Nat := List.replicate (mdNL n k p) 0
def mdIs (n k p : Int) (m : List Nat) : Bool := if k = 7 then decide (0 < m.length) && sqRight p m.tail else if k = 8 then decide (m.length % 2 = 0) else decide ((m.length : Int) = mdLen n k p)
def mdRight (n k p q : Int) (m : List Nat) : Bool := decide (Tb.tbErr n k p q = 0) && mdIs n k p m
/-- what of an object that may be is wanted -/
structure OkS (n k p q : Int) : Prop where
  n1 : 1 ≤ n
  n16 : n ≤ 16
  k0 : 0 ≤ k
  k9 : k ≤ 9
  h0 : k = 0 → 1 ≤ p ∧ p ≤ 64
  h4 : k = 4 → 1 ≤ p ∧ p ≤ 12
  h5 : k = 5 → 1 ≤ p ∧ p ≤ 64
  h6 : k = 6 → (1 ≤ p ∧ p ≤ 16) ∧ 1 ≤ q ∧ q ≤ 64
  h7 : k = 7 → (0 ≤ p ∧ p ≤ 7) ∧ 1 ≤ q ∧ q ≤ 256
  h8 : k = 8 → (1 ≤ p ∧ p ≤ 32) ∧ 0 ≤ q ∧ q ≤ 3
  h9 : k = 9 → 1 ≤ p ∧ p ≤ 8
theorem okS {n k p q : Int} (h : Tb.tbErr n k p q = 0) : OkS n k p q := by
  unfold Tb.tbErr at h
  split at h
  · cases h
  · split at h
    · cases h
    · split at h
      · rename_i h1 h2 h3
        unfold Tb.tbIn at h3
        exact ⟨by omega, by omega, by omega, by omega, h3.1, h3.2.1, h3.2.2.1, h3.2.2.2.1, h3.2.2.2.2.1, h3.2.2.2.2.2.1, h3.2.2.2.2.2.2⟩
      · cases h
theorem mdLen_bd {n k p q : Int} (h : OkS n k p q) (h7 : k ≠ 7) : 0 ≤ mdLen n k p ∧ mdLen n k p ≤ 64 := by
  have := h.n1; have := h.n16; have := h.h0; have := h.h5; have := h.h6; have := h.h9
  unfold mdLen
  split
  · omega
  · split
    · omega
    · split
      · omega
      · split <;> omega

theorem length_any (n k p q : Int) (h : OkS n k p q) (w : World) :
    Calls Tryz.prog 90 #[.int .i64 n, Tb.specV k p q] w fun e w' => e = .returned (.int .i64 (mdLen n k p)) ∧ Below w.heap.size w w' := by
  have hn1 := h.n1; have hn2 := h.n16; have h6 := h.h6
  clear h
  unfold Tb.specV
  by_cases e0 : k = 0
  · subst e0
    clear h6
    go_enter Tryz.func90, Tryz.ntmps90
    go_wp2_with fail
    go_ret
    exact ⟨rfl, (Below.refl _ _).alloc (Nat.le_refl _) _⟩
  by_cases e9 : k = 9
  · subst e9
    clear h6
    go_enter Tryz.func90, Tryz.ntmps90
    go_wp2_with fail
    go_ret
    exact ⟨rfl, (Below.refl _ _).alloc (Nat.le_refl _) _⟩
  by_cases e5 : k = 5
  · subst e5
    clear h6
    have hm : mdLen n 5 p = 2 * n := rfl
    rw [hm]
    clear hm
    go_enter Tryz.func90, Tryz.ntmps90
    go_wp2_with fail
    go_ret
    exact ⟨rfl, (Below.refl _ _).alloc (Nat.le_refl _) _⟩
  by_cases e6 : k = 6
  · subst e6
    have hp := (h6 rfl).1
    have hm : mdLen n 6 p = p + n := rfl
    rw [hm]
    clear hm h6
    go_enter Tryz.func90, Tryz.ntmps90
    go_wp2_with fail
    go_ret
    exact ⟨rfl, (Below.refl _ _).alloc (Nat.le_refl _) _⟩
  by_cases e8 : k = 8
  · subst e8
    clear h6
    go_enter Tryz.func90, Tryz.ntmps90
    go_wp2_with fail
    go_ret
    exact ⟨rfl, (Below.refl _ _).alloc (Nat.le_refl _) _⟩
  · have hm : mdLen n k p = 1 := by unfold mdLen; rw [if_neg (by omega), if_neg e5, if_neg e6, if_neg e8]
    rw [hm]
    clear hm h6
    go_enter Tryz.func90, Tryz.ntmps90
    go_wp2_with fail
    go_ret
    exact ⟨rfl, (Below.refl _ _).alloc (Nat.le_refl _) _⟩

/-- the first word, 0, and behind it what a type is at first -/
theorem zeros_one (a : Nat) : [Value.int .u64 0] ++ (List.replicate a 0).map wU = (List.replicate (1 + a) 0).map wU := by
  rw [Nat.add_comm, List.replicate_succ]; rfl
theorem spec_down {w w5 : World} {k p q : Int} (hb : Below (w.alloc (Tb.specO k p q)).heap.size (w.alloc (Tb.specO k p q)) w5) :
    (w5.cell? ⟨w.heap.size, 0, none⟩ = some (.int .i64 k) ∧ w5.cell? ⟨w.heap.size, 1, none⟩ = some (.int .i64 p) ∧ w5.cell? ⟨w.heap.size, 2, none⟩ = some (.int .i64 q)) ∧ Below w.heap.size w w5 ∧ w.heap.size < w5.heap.size := by
  obtain ⟨h1, h2, h3⟩ := Tb.spec_in hb
  exact ⟨⟨Tb.cell_of_blkT h1 rfl, Tb.cell_of_blkT h1 rfl, Tb.cell_of_blkT h1 rfl⟩, h2, h3⟩

/-- what New gives -/
def NewP (l : List Nat) (w : World) (e : Ending) (w' : World) : Prop := ∃ v, e = .returned (.tuple #[v, .int .i64 0]) ∧ OwnW w' w.heap.size v l ∧ Below w.heap.size w w'
set_option maxHeartbeats 1000000 in
theorem new_any (n k p q : Int) (hok : Tb.tbErr n k p q = 0) (w : World) :
    Calls Tryz.prog 53 #[.int .i64 n, Tb.specV k p q] w (NewP (mdNew n k p) w) := by
  have h := okS hok
  have HS := Lib.hid (fun w => Tb.size_any n k p q w)
  rw [hok] at HS
  generalize Tb.tbN n k p q = sz at *
  clear hok
  by_cases h7 : k = 7
  · subst h7
    obtain ⟨⟨hp0, hp7⟩, _⟩ := h.h7 rfl
    have hsl := sqLo_le p.toNat
    have HN := Lib.hid (fun w => seqNew_any p w)
    rw [sqIs_yes ⟨hp0, hp7⟩, if_pos rfl] at HN
    have hE : mdNew n 7 p = List.replicate (1 + sqLo p.toNat) 0 := rfl
    rw [hE]
    clear h hE
    generalize sqLo p.toNat = a at *
    obtain ⟨iI, ia, ib, ic, id⟩ := info_parts info22
    have HLEN : Hid (((List.replicate a 0).map wU).length = a) := Lib.hid (by simp)
    have HONE := Lib.hid (wU_one (List.replicate a 0))
    have HZ := Lib.hid (zeros_one a)
    unfold Tb.specV at *
    go_enter Tryz.func53, Tryz.ntmps53
    go_wp2_with (first
      | (go_at_call 88; refine (HS.out _).mono ?_; rintro e w1 ⟨rfl, hb⟩; (obtain ⟨⟨k0, k1, k2⟩, hb1, hlt⟩ := spec_down hb); (have HB1 := Lib.hid hb1); (have HO1 : Hid (OwnW (w1.alloc (.cells #[wU 0] 55)) w.heap.size (.slice (some ⟨w1.heap.size, 0, none⟩) 1 1) (List.replicate 1 0)) := Lib.hid (made_own w1 1 w.heap.size _ rfl (by omega) hb1.size)); clear hb hb1)
      | (go_at_call 89; refine (HN.out _).mono ?_; rintro e w2 ⟨v2, rfl, ho2, hb2⟩; (have HO2 : Hid (w2.ownsRow w.heap.size 55 1 (.slice (some ⟨w1.heap.size, 0, none⟩) 1 1) 1 [.int .u64 0]) := Lib.hid (HO1.out.below hb2)); (obtain ⟨ao2, b2, o2, cap2, rfl, hA2, hn2, hc2⟩ := ho2.arg); (have HA2 := Lib.hid hA2); (have HN2 := Lib.hid hn2); (have HC2 : Hid (∀ (j : Nat) (u : Value), ((List.replicate a 0).map wU)[j]? = some u → w2.cell? ⟨b2, o2 + j, none⟩ = some u) := Lib.hid (fun j u hu => by rw [List.getElem?_map] at hu; obtain ⟨x, hx, rfl⟩ := Option.map_eq_some_iff.1 hu; exact hc2 j x hx)); (have hsz2 : w.heap.size ≤ w2.heap.size := by have := hb2.size; simp at this; omega); (have HB2 : Hid (Below w.heap.size w w2) := Lib.hid ((HB1.out.alloc HB1.out.size _).trans (hb2.mono (by have := HB1.out.size; simp; omega)))); clear hb2 ho2 hA2 hn2 hc2)
      | (at_builtin; rw [List.length_replicate] at *; refine append_onto_own rfl _ _ 37 rfl w.heap.size 55 iI (.int .u64 0) 8 Tryz.underlying37 ia ib ic id rfl (by decide) _ 1 _ rfl HO2.out ao2 b2 o2 cap2 a ((List.replicate a 0).map wU) rfl HLEN.out HA2.out HN2.out HC2.out HONE.out (by omega) hsz2 ?_; intro v3 w3 ho3 hb3 _; (have HO3 : Hid (OwnW w3 w.heap.size v3 (List.replicate (1 + a) 0)) := Lib.hid (by unfold OwnW; rw [List.length_replicate, ← HZ.out]; exact ho3)); (have HB3 := Lib.hid (HB2.out.trans hb3)); clear ho3 hb3))
    go_ret2
    exact ⟨_, rfl, HO3.out, HB3.out⟩
  · have hbd := mdLen_bd h h7
    obtain ⟨a, ha⟩ : ∃ a : Nat, mdLen n k p = a := ⟨(mdLen n k p).toNat, by omega⟩
    have hE : mdNew n k p = List.replicate a 0 := by unfold mdNew mdNL; rw [if_neg h7, ha]; rfl
    have HL := Lib.hid (fun w => length_any n k p q h w)
    rw [ha] at HL hbd
    rw [hE]
    have HM := run_mkW a (by omega)
    clear hE ha h
    unfold Tb.specV at *
    go_enter Tryz.func53, Tryz.ntmps53
    go_wp2_with (first
      | (go_at_call 88; refine (HS.out _).mono ?_; rintro e w1 ⟨rfl, hb⟩; (obtain ⟨⟨k0, k1, k2⟩, hb1, hlt⟩ := spec_down hb); (have HB1 := Lib.hid hb1); clear hb hb1)
      | (go_at_call 90; refine (HL.out _).mono ?_; rintro e w2 ⟨rfl, hb2⟩; (have HB2 : Hid (Below w.heap.size w w2) := Lib.hid (HB1.out.trans (hb2.mono HB1.out.size))); clear hb2))
    go_ret2
    exact ⟨_, rfl, made_own w2 a _ _ rfl (by omega) HB2.out.size, HB2.out.alloc HB2.out.size _⟩

/-- there is no such object -/
theorem new_bad (n k p q : Int) (hok : Tb.tbErr n k p q ≠ 0) (w : World) :
    Calls Tryz.prog 53 #[.int .i64 n, Tb.specV k p q] w fun e w' => e = .returned (.tuple #[.slice none 0 0, .int .i64 (Tb.tbErr n k p q)]) ∧ Below w.heap.size w w' := by
  have HS := Lib.hid (fun w => Tb.size_any n k p q w)
  generalize Tb.tbN n k p q = sz at *
  generalize Tb.tbErr n k p q = er at *
  unfold Tb.specV at *
  go_enter Tryz.func53, Tryz.ntmps53
  go_wp2_with (go_at_call 88; refine (HS.out _).mono ?_; rintro e w1 ⟨rfl, hb⟩; (obtain ⟨⟨k0, k1, k2⟩, hb1, hlt⟩ := spec_down hb); (have HB1 := Lib.hid hb1); clear hb hb1)
  go_ret2
  exact ⟨rfl, HB1.out⟩
end
section
open Go.ChangeShapes Go.WideShapes Go.ChangeAt Go.RowKit
set_option linter.unusedVariables false
set_option linter.unusedSimpArgs false
set_option maxRecDepth 100000

theorem argW_tail {w : World} {b o cap : Nat} {x : Nat} {t : List Nat} (hc : ∀ (i y : Nat), (x :: t)[i]? = some y → w.cell? ⟨b, o + i, none⟩ = some (wU y)) : ArgW w (.slice (some ⟨b, o + 1, none⟩) t.length (cap - 1)) t :=
  ⟨_, b, o + 1, _, rfl, fun _ => rfl, (fun h => by cases h), fun i y hy => by
    have := hc (i + 1) y (by simpa using hy)
    rw [show o + 1 + i = o + (i + 1) by omega]
    exact this⟩
theorem argW_none (w : World) (a : Addr) (cap : Nat) : ArgW w (.slice (some a) 0 cap) [] :=
  ⟨_, 0, 0, _, rfl, fun h => absurd h (by simp), (fun h => by cases h), fun i y hy => by simp at hy⟩
theorem mdRight_no {n k p q : Int} (m : List Nat) (h : Tb.tbErr n k p q ≠ 0) : mdRight n k p q m = false := by
  unfold mdRight; rw [decide_eq_false h]; rfl
theorem mdRight_yes {n k p q : Int} (m : List Nat) (h : Tb.tbErr n k p q = 0) : mdRight n k p q m = mdIs n k p m := by
  unfold mdRight; rw [decide_eq_true h]; rfl
theorem mod2 (a : Nat) : ((a : Int).tmod 2 == 0) = decide (a % 2 = 0) := by
  rw [Bool.eq_iff_iff, beq_iff_eq, decide_eq_true_eq]
  rw [Int.tmod_eq_emod_of_nonneg (by omega)]
  omega

set_option maxHeartbeats 1000000 in
theorem mright_any (n k p q : Int) (v : Value) (m : List Nat) (w : World) (ha : ArgW w v m) (hr : Room v) (hl : m.length ≤ 9223372036854775807) :
    Calls Tryz.prog 94 #[.int .i64 n, Tb.specV k p q, v] w fun e w' => e = .returned (.bool (mdRight n k p q m)) ∧ Below w.heap.size w w' := by
  have HS := Lib.hid (fun w => Tb.size_any n k p q w)
  by_cases hok : Tb.tbErr n k p q = 0
  · rw [mdRight_yes m hok]
    have h := okS hok
    rw [hok] at HS
    generalize Tb.tbN n k p q = sz at *
    clear hok
    have hL := length_any n k p q h
    by_cases h7 : k = 7
    · subst h7
      obtain ⟨ao, b, o, cap, rfl, h1, h2, h3⟩ := ha
      cases m with
      | nil =>
        have hm : mdIs n 7 p [] = false := rfl
        rw [hm]
        simp only [List.length_nil] at *
        clear hL h hm h1 h2 h3
        unfold Tb.specV at *
        go_enter Tryz.func94, Tryz.ntmps94
        go_wp2_with (go_at_call 88; refine (HS.out _).mono ?_; rintro e w1 ⟨rfl, hb⟩; (obtain ⟨⟨k0, k1, k2⟩, hb1, hlt⟩ := spec_down hb); (have HB1 := Lib.hid hb1); clear hb hb1)
        go_quiet (fail)
        go_wp2
        go_ret
        exact ⟨rfl, below_drewN HB1.out _⟩
      | cons x t =>
        obtain rfl := h1 (by simp)
        have hcap := hr _ _ _ rfl
        have hm : mdIs n 7 p (x :: t) = sqRight p t := by unfold mdIs; rw [if_pos rfl]; simp
        have HQ : Hid (∀ v W, ArgW W v t → Calls Tryz.prog 111 #[.int .i64 p, v] W fun e w' => e = .returned (.bool (sqRight p t)) ∧ Below W.heap.size W w') := Lib.hid (fun v W h => seqRight_any p v t W h (by simp at hl; omega))
        have hbl : b < w.heap.size := World.block_lt_of_cell? w _ (h3 0 x rfl)
        rw [hm]
        have HC := Lib.hid h3
        generalize sqRight p t = bb at *
        have hlen : (x :: t).length = t.length + 1 := rfl
        rw [hlen] at hcap hl ⊢
        clear hL h hm h1 h2 h3 hr hlen
        unfold Tb.specV at *
        have hd : decide ((0 : Int) < (t.length : Int) + 1) = true := decide_eq_true (by omega)
        by_cases hc1 : cap = 1
        · subst hc1
          have ht0 : t = [] := List.length_eq_zero_iff.1 (by omega)
          subst ht0
          simp only [List.length_nil, Nat.zero_add] at *
          go_enter Tryz.func94, Tryz.ntmps94
          go_wp2_with (go_at_call 88; refine (HS.out _).mono ?_; rintro e w1 ⟨rfl, hb⟩; (obtain ⟨⟨k0, k1, k2⟩, hb1, hlt⟩ := spec_down hb); (have HB1 := Lib.hid hb1); clear hb hb1)
          have l1 : ∀ p' : BW w1.heap.size w1, p'.v.cell? ⟨w.heap.size, 1, none⟩ = some (.int .i64 p) := fun p' => p'.cell hlt k1
          refine wp_region_low (B := w1.heap.size) (w := w1) (by kernel_rfl) (by kernel_rfl) ?_
          repeat (go_big_quiet_step ((go_at_call 111; exact low_call (HQ.out _ _ (argW_none _ _ _)) (Nat.le_refl _))))
          refine wpQuiet_nil ?_
          intro _ hw'
          obtain ⟨⟨w2, hb2⟩, rfl⟩ := hw'
          go_wp2
          go_ret
          exact ⟨rfl, HB1.out.trans (hb2.mono HB1.out.size)⟩
        · have h1c : 1 < cap := by omega
          go_enter Tryz.func94, Tryz.ntmps94
          go_wp2_with (go_at_call 88; refine (HS.out _).mono ?_; rintro e w1 ⟨rfl, hb⟩; (obtain ⟨⟨k0, k1, k2⟩, hb1, hlt⟩ := spec_down hb); (have HB1 := Lib.hid hb1); clear hb hb1)
          have l1 : ∀ p' : BW w1.heap.size w1, p'.v.cell? ⟨w.heap.size, 1, none⟩ = some (.int .i64 p) := fun p' => p'.cell hlt k1
          have HAT : Hid (∀ p' : BW w1.heap.size w1, ArgW p'.v (.slice (some ⟨b, o + 1, none⟩) t.length (cap - 1)) t) := Lib.hid (fun p' => argW_tail (x := x) (fun i y hy => p'.cell (by show b < _; have := HB1.out.size; omega) ((HB1.out.cell (p := ⟨b, _, none⟩) hbl).trans (HC.out i y hy))))
          refine wp_region_low (B := w1.heap.size) (w := w1) (by kernel_rfl) (by kernel_rfl) ?_
          repeat (go_big_quiet_step ((go_at_call 111; exact low_call (HQ.out _ _ (HAT.out _)) (Nat.le_refl _))))
          refine wpQuiet_nil ?_
          intro _ hw'
          obtain ⟨⟨w2, hb2⟩, rfl⟩ := hw'
          go_wp2
          go_ret
          exact ⟨rfl, HB1.out.trans (hb2.mono HB1.out.size)⟩
    · obtain ⟨ao, cap, rfl⟩ := ha.isSlice
      by_cases h8 : k = 8
      · subst h8
        have hm : mdIs n 8 p m = decide (m.length % 2 = 0) := by unfold mdIs; rw [if_neg (by decide), if_pos rfl]
        rw [hm]
        clear hL h hm ha
        unfold Tb.specV at *
        go_enter Tryz.func94, Tryz.ntmps94
        go_wp2_with (go_at_call 88; refine (HS.out _).mono ?_; rintro e w1 ⟨rfl, hb⟩; (obtain ⟨⟨k0, k1, k2⟩, hb1, hlt⟩ := spec_down hb); (have HB1 := Lib.hid hb1); clear hb hb1)
        go_ret
        exact ⟨ret_bool (mod2 _), HB1.out⟩
      · have hm : mdIs n k p m = decide ((m.length : Int) = mdLen n k p) := by unfold mdIs; rw [if_neg h7, if_neg h8]
        rw [hm]
        have HL := Lib.hid hL
        generalize mdLen n k p = ln at *
        clear hL h hm ha
        unfold Tb.specV at *
        go_enter Tryz.func94, Tryz.ntmps94
        go_wp2_with (first
          | (go_at_call 88; refine (HS.out _).mono ?_; rintro e w1 ⟨rfl, hb⟩; (obtain ⟨⟨k0, k1, k2⟩, hb1, hlt⟩ := spec_down hb); (have HB1 := Lib.hid hb1); clear hb hb1)
          | (go_at_call 90; refine (HL.out _).mono ?_; rintro e w2 ⟨rfl, hb2⟩; (have HB2 : Hid (Below w.heap.size w w2) := Lib.hid (HB1.out.trans (hb2.mono HB1.out.size))); clear hb2))
        go_ret
        exact ⟨ret_bool (by first | rfl | (rw [Bool.eq_iff_iff, beq_iff_eq, decide_eq_true_eq])), HB2.out⟩
  · rw [mdRight_no m hok]
    generalize Tb.tbN n k p q = sz at *
    generalize Tb.tbErr n k p q = er at *
    obtain ⟨ao, cap, rfl⟩ := ha.isSlice
    clear ha
    unfold Tb.specV at *
    go_enter Tryz.func94, Tryz.ntmps94
    go_wp2_with (go_at_call 88; refine (HS.out _).mono ?_; rintro e w1 ⟨rfl, hb⟩; (obtain ⟨⟨k0, k1, k2⟩, hb1, hlt⟩ := spec_down hb); (have HB1 := Lib.hid hb1); clear hb hb1)
    go_ret
    exact ⟨rfl, HB1.out⟩

theorem GivesN_mk (w : World) (k p q : Int) (a : Nat) (h : ArgW ((w.alloc (Tb.specO k p q)).alloc (.cells (Array.replicate a (wU 0)) 55)) (.slice (some ⟨w.heap.size + 1, 0, none⟩) a a) (List.replicate a 0)) (hb : Below w.heap.size w ((w.alloc (Tb.specO k p q)).alloc (.cells (Array.replicate a (wU 0)) 55))) :
    GivesN (List.replicate a 0) w (.returned (.slice (some ⟨w.heap.size + 1, 0, none⟩) a a)) ((w.alloc (Tb.specO k p q)).alloc (.cells (Array.replicate a (wU 0)) 55)) := ⟨_, rfl, h, hb⟩
set_option maxHeartbeats 1000000 in
theorem rnew_any (n k p q : Int) (hok : Tb.tbErr n k p q = 0) (w : World) :
    Calls Tryz.prog 34 #[.int .i64 n, Tb.specV k p q] w (GivesN (mdNew n k p) w) := by
  have h := okS hok
  clear hok
  have hn1 := h.n1
  have hn2 := h.n16
  have hSP : ∀ w : World, (w.alloc (Tb.specO k p q)).heap.size = w.heap.size + 1 := fun w => World.size_alloc _ _
  by_cases h7 : k = 7
  · subst h7
    obtain ⟨⟨hp0, hp7⟩, _⟩ := h.h7 rfl
    have hsl := sqLo_le p.toNat
    have HN := Lib.hid (fun w => refNew_any p w)
    rw [sqIs_yes ⟨hp0, hp7⟩, if_pos rfl] at HN
    have hE : mdNew n 7 p = List.replicate (1 + sqLo p.toNat) 0 := rfl
    rw [hE]
    clear h hE
    generalize sqLo p.toNat = a at *
    obtain ⟨iI, ia, ib, ic, id⟩ := info_parts info22
    have HLEN : Hid (((List.replicate a 0).map wU).length = a) := Lib.hid (by simp)
    have HONE := Lib.hid (wU_one (List.replicate a 0))
    have HZ := Lib.hid (zeros_one a)
    have HO1 : Hid (OwnW ((w.alloc (Tb.specO 7 p q)).alloc (.cells #[wU 0] 55)) w.heap.size (.slice (some ⟨w.heap.size + 1, 0, none⟩) 1 1) (List.replicate 1 0)) := Lib.hid (made_own (w.alloc (Tb.specO 7 p q)) 1 w.heap.size _ (hSP w).symm (by omega) (by rw [hSP]; omega))
    unfold Tb.specV at *
    go_enter Tryz.func34, Tryz.ntmps34
    go_wp2_with (first
      | (go_at_call 60; refine (HN.out _).mono ?_; rintro e w2 ⟨v2, rfl, ho2, hb2⟩; (have HO2 : Hid (w2.ownsRow w.heap.size 55 1 (.slice (some ⟨w.heap.size + 1, 0, none⟩) 1 1) 1 [.int .u64 0]) := Lib.hid (HO1.out.below hb2)); (obtain ⟨ao2, b2, o2, cap2, rfl, hA2, hn2', hc2⟩ := ho2); (have HA2 := Lib.hid hA2); (have HN2 := Lib.hid hn2'); (have HC2 : Hid (∀ (j : Nat) (u : Value), ((List.replicate a 0).map wU)[j]? = some u → w2.cell? ⟨b2, o2 + j, none⟩ = some u) := Lib.hid (fun j u hu => by rw [List.getElem?_map] at hu; obtain ⟨x, hx, rfl⟩ := Option.map_eq_some_iff.1 hu; exact hc2 j x hx)); (have hsz2 : w.heap.size ≤ w2.heap.size := by have := hb2.size; simp at this; omega); (have HB2 : Hid (Below w.heap.size w w2) := Lib.hid ((((Below.refl _ _).alloc (Nat.le_refl _) _).alloc (by simp) _).trans (hb2.mono (by simp; omega)))); clear hb2 hA2 hn2' hc2)
      | (at_builtin; rw [List.length_replicate] at *; refine append_onto_own rfl _ _ 37 rfl w.heap.size 55 iI (.int .u64 0) 8 Tryz.underlying37 ia ib ic id rfl (by decide) _ 1 _ rfl HO2.out ao2 b2 o2 cap2 a ((List.replicate a 0).map wU) rfl HLEN.out HA2.out HN2.out HC2.out HONE.out (by omega) hsz2 ?_; intro v3 w3 ho3 hb3 _; (have HO3 : Hid (OwnW w3 w.heap.size v3 (List.replicate (1 + a) 0)) := Lib.hid (by unfold OwnW; rw [List.length_replicate, ← HZ.out]; exact ho3)); (have HB3 := Lib.hid (HB2.out.trans hb3)); clear ho3 hb3))
    go_ret
    exact ⟨_, rfl, HO3.out.arg, HB3.out⟩
  · have hbd := mdLen_bd h h7
    by_cases h1 : k = 8
    · subst h1
      clear h hbd
      unfold Tb.specV at *
      go_enter Tryz.func34, Tryz.ntmps34
      go_wp2_with fail
      go_ret
      exact ⟨_, rfl, ArgW.nil _, (Below.refl _ _).alloc (Nat.le_refl _) _⟩
    by_cases h2 : k = 0 ∨ k = 9 ∨ k = 5 ∨ k = 6
    · obtain ⟨a, ha⟩ : ∃ a : Nat, mdLen n k p = a := ⟨(mdLen n k p).toNat, by omega⟩
      have hE : mdNew n k p = List.replicate a 0 := by unfold mdNew mdNL; rw [if_neg h7, ha]; rfl
      rw [hE]
      rw [ha] at hbd
      have HM := run_mkW a (by omega)
      have HE : ∀ w : World, Below w.heap.size w ((w.alloc (Tb.specO k p q)).alloc (.cells (Array.replicate a (wU 0)) 55)) := fun w => ((Below.refl _ _).alloc (Nat.le_refl _) _).alloc (by simp) _
      have HO : ∀ w : World, ArgW ((w.alloc (Tb.specO k p q)).alloc (.cells (Array.replicate a (wU 0)) 55)) (.slice (some ⟨w.heap.size + 1, 0, none⟩) a a) (List.replicate a 0) := fun w => (made_own (w.alloc (Tb.specO k p q)) a 0 _ (hSP w).symm (by omega) (by omega)).arg
      have HX := Lib.hid (fun w => GivesN_mk w k p q a (HO w) (HE w))
      clear hE h
      rcases h2 with rfl | rfl | rfl | rfl
      · have e : p = a := ha
        subst e
        clear ha
        unfold Tb.specV at *
        go_enter Tryz.func34, Tryz.ntmps34
        go_wp2_with fail
        go_ret
        exact HX.out w
      · have e : p = a := ha
        subst e
        clear ha
        unfold Tb.specV at *
        go_enter Tryz.func34, Tryz.ntmps34
        go_wp2_with fail
        go_ret
        exact HX.out w
      · have e : 2 * n = a := ha
        clear ha
        unfold Tb.specV at *
        go_enter Tryz.func34, Tryz.ntmps34
        go_wp2_with fail
        go_ret
        exact HX.out w
      · have e : p + n = a := ha
        clear ha
        unfold Tb.specV at *
        go_enter Tryz.func34, Tryz.ntmps34
        go_wp2_with fail
        go_ret
        exact HX.out w
    · have hm : mdNew n k p = [0] := by unfold mdNew mdNL mdLen; rw [if_neg h7, if_neg (by omega), if_neg (by omega), if_neg (by omega), if_neg h1]; rfl
      rw [hm]
      have n0 : ¬ k = 0 := by omega
      have n9 : ¬ k = 9 := by omega
      have n5 : ¬ k = 5 := by omega
      have n6 : ¬ k = 6 := by omega
      clear h hm h2
      unfold Tb.specV at *
      go_enter Tryz.func34, Tryz.ntmps34
      go_wp2_with fail
      go_ret
      exact ⟨_, rfl, (made_own (w.alloc (Tb.specO k p q)) 1 0 _ (hSP w).symm (by omega) (by omega)).arg, ((Below.refl _ _).alloc (Nat.le_refl _) _).alloc (by simp) _⟩
end
section
open Go.ChangeShapes Go.WideShapes Go.ChangeAt Go.RowKit
set_option linter.unusedVariables false
set_option linter.unusedSimpArgs false
set_option maxRecDepth 100000

theorem take_all_eq {l1 l2 : List Nat} (hl : l1.length = l2.length) (h : l1.take l1.length = l2.take l1.length) : l1 = l2 := by
  rw [List.take_length, hl, List.take_length] at h; exact h
theorem take_ne {l1 l2 : List Nat} {j x y : Nat} (h1 : l1[j]? = some x) (h2 : l2[j]? = some y) (h : x ≠ y) : l1 ≠ l2 := by
  intro e; subst e; rw [h1] at h2; cases h2; exact h rfl

set_option maxHeartbeats 1000000 in
theorem same_any (v1 v2 : Value) (l1 l2 : List Nat) (w : World) (hl1 : l1.length ≤ 4611686018427387904) (hl2 : l2.length ≤ 4611686018427387904) (h1 : ArgW w v1 l1) (h2 : ArgW w v2 l2) :
    Calls Tryz.prog 20 #[v1, v2] w fun e w' => e = .returned (.bool (decide (l1 = l2))) ∧ ∃ m, w' = w.drewN m := by
  obtain ⟨ao1, b1, o1, c1, rfl, ha1, hn1, hc1⟩ := h1
  obtain ⟨ao2, b2, o2, c2, rfl, ha2, hn2, hc2⟩ := h2
  by_cases hle : l1.length = l2.length
  · unfold wU at hc1 hc2
    have HA1 := Lib.hid ha1
    have HA2 := Lib.hid ha2
    have HC1 := Lib.hid hc1
    have HC2 := Lib.hid hc2
    have HT := Lib.hid (take_all_eq hle)
    have HLE := Lib.hid hle
    clear ha1 ha2 hc1 hc2 hn1 hn2
    rw [← hle] at hl2 HA2 ⊢
    clear hle
    go_enter Tryz.func20, Tryz.ntmps20
    go_wp2
    go_loopw [13] (fun k wr => ∃ j m : Nat, j ≤ l1.length ∧ k = .int .i64 j ∧ Hid (l1.take j = l2.take j) ∧ wr = w.drewN m) (fun k _ => l1.length - (intOf k).toNat)
    case atStart => exact ⟨0, 0, Nat.zero_le _, rfl, Lib.hid (by simp), rfl⟩
    case round =>
      obtain ⟨j, m, hj, rfl, hp, rfl⟩ := hrel
      by_cases hlt : j < l1.length
      · obtain rfl := HA1.out (by omega)
        obtain rfl := HA2.out (by omega)
        obtain ⟨x, hx⟩ : ∃ x, l1[j]? = some x := ⟨l1[j], List.getElem?_eq_getElem hlt⟩
        obtain ⟨y, hy⟩ : ∃ y, l2[j]? = some y := ⟨l2[j]'(by rw [← HLE.out]; exact hlt), List.getElem?_eq_getElem _⟩
        have d1 := HC1.out j x hx
        have d2 := HC2.out j y hy
        by_cases hxy : x = y
        · subst hxy
          have HN : Hid (l1.take (j + 1) = l2.take (j + 1)) := Lib.hid (by rw [take_snoc hx, take_snoc hy, hp.out])
          clear hx hy
          go_wp2_with fail
          go_quiet (fail)
          go_wp2
          go_roundw
          case rel => exact ⟨j + 1, _, by omega, by go_num, HN, rfl⟩
          case measure => simp [intOf]; omega
        · have HR : Hid (decide (l1 = l2) = false) := Lib.hid (decide_eq_false (take_ne hx hy hxy))
          have hd : decide ((x : Int) = (y : Int)) = false := decide_eq_false (by omega)
          have hd2 : ((x : Int) == (y : Int)) = false := by rw [beq_eq_false_iff_ne]; omega
          clear hx hy
          go_wp2_with fail
          go_quiet (fail)
          go_wp2
          go_ret
          exact ⟨ret_bool HR.out.symm, _, by rw [World.drewN_drewN]⟩
      · have : j = l1.length := by omega
        subst this
        have HR : Hid (decide (l1 = l2) = true) := Lib.hid (decide_eq_true (HT.out hp.out))
        go_wp2
        go_ret
        exact ⟨ret_bool HR.out.symm, _, rfl⟩
  · have HR : Hid (decide (l1 = l2) = false) := Lib.hid (decide_eq_false (fun e => hle (by rw [e])))
    have hd : ((l1.length : Int) == (l2.length : Int)) = false := by rw [beq_eq_false_iff_ne]; omega
    have hd2 : decide ((l1.length : Int) = (l2.length : Int)) = false := decide_eq_false (by omega)
    clear hle ha1 ha2 hc1 hc2
    go_enter Tryz.func20, Tryz.ntmps20
    go_wp2
    go_ret
    exact ⟨ret_bool HR.out.symm, 0, rfl⟩

set_option maxHeartbeats 1000000 in
theorem equal_any (v1 v2 : Value) (l1 l2 : List Nat) (w : World) (hl1 : l1.length ≤ 4611686018427387904) (hl2 : l2.length ≤ 4611686018427387904) (h1 : ArgW w v1 l1) (h2 : ArgW w v2 l2) :
    Calls Tryz.prog 110 #[v1, v2] w fun e w' => e = .returned (.bool (decide (l1 = l2))) ∧ ∃ m, w' = w.drewN m := by
  obtain ⟨ao1, b1, o1, c1, rfl, ha1, hn1, hc1⟩ := h1
  obtain ⟨ao2, b2, o2, c2, rfl, ha2, hn2, hc2⟩ := h2
  by_cases hle : l1.length = l2.length
  · unfold wU at hc1 hc2
    have HA1 := Lib.hid ha1
    have HA2 := Lib.hid ha2
    have HC1 := Lib.hid hc1
    have HC2 := Lib.hid hc2
    have HT := Lib.hid (take_all_eq hle)
    have HLE := Lib.hid hle
    clear ha1 ha2 hc1 hc2 hn1 hn2
    rw [← hle] at hl2 HA2 ⊢
    clear hle
    go_enter Tryz.func110, Tryz.ntmps110
    go_wp2
    go_loopw [13] (fun k wr => ∃ j m : Nat, j ≤ l1.length ∧ k = .int .i64 j ∧ Hid (l1.take j = l2.take j) ∧ wr = w.drewN m) (fun k _ => l1.length - (intOf k).toNat)
    case atStart => exact ⟨0, 0, Nat.zero_le _, rfl, Lib.hid (by simp), rfl⟩
    case round =>
      obtain ⟨j, m, hj, rfl, hp, rfl⟩ := hrel
      by_cases hlt : j < l1.length
      · obtain rfl := HA1.out (by omega)
        obtain rfl := HA2.out (by omega)
        obtain ⟨x, hx⟩ : ∃ x, l1[j]? = some x := ⟨l1[j], List.getElem?_eq_getElem hlt⟩
        obtain ⟨y, hy⟩ : ∃ y, l2[j]? = some y := ⟨l2[j]'(by rw [← HLE.out]; exact hlt), List.getElem?_eq_getElem _⟩
        have d1 := HC1.out j x hx
        have d2 := HC2.out j y hy
        by_cases hxy : x = y
        · subst hxy
          have HN : Hid (l1.take (j + 1) = l2.take (j + 1)) := Lib.hid (by rw [take_snoc hx, take_snoc hy, hp.out])
          clear hx hy
          go_wp2_with fail
          go_quiet (fail)
          go_wp2
          go_roundw
          case rel => exact ⟨j + 1, _, by omega, by go_num, HN, rfl⟩
          case measure => simp [intOf]; omega
        · have HR : Hid (decide (l1 = l2) = false) := Lib.hid (decide_eq_false (take_ne hx hy hxy))
          have hd : decide ((x : Int) = (y : Int)) = false := decide_eq_false (by omega)
          have hd2 : ((x : Int) == (y : Int)) = false := by rw [beq_eq_false_iff_ne]; omega
          clear hx hy
          go_wp2_with fail
          go_quiet (fail)
          go_wp2
          go_ret
          exact ⟨ret_bool HR.out.symm, _, by rw [World.drewN_drewN]⟩
      · have : j = l1.length := by omega
        subst this
        have HR : Hid (decide (l1 = l2) = true) := Lib.hid (decide_eq_true (HT.out hp.out))
        go_wp2
        go_ret
        exact ⟨ret_bool HR.out.symm, _, rfl⟩
  · have HR : Hid (decide (l1 = l2) = false) := Lib.hid (decide_eq_false (fun e => hle (by rw [e])))
    have hd : ((l1.length : Int) == (l2.length : Int)) = false := by rw [beq_eq_false_iff_ne]; omega
    have hd2 : decide ((l1.length : Int) = (l2.length : Int)) = false := decide_eq_false (by omega)
    clear hle ha1 ha2 hc1 hc2
    go_enter Tryz.func110, Tryz.ntmps110
    go_wp2
    go_ret
    exact ⟨ret_bool HR.out.symm, 0, rfl⟩

abbrev ansV (er val : Int) (lv : Value) : Value := .agg #[.int .i64 er, .int .u64 val, lv]
abbrev ansC (er val : Int) (lv : Value) : Obj := .cells #[.int .i64 er, .int .u64 val, lv] 57
/-- are two answers alike -/
def ansEq (e1 : Int) (v1 : Nat) (l1 : List Nat) (e2 : Int) (v2 : Nat) (l2 : List Nat) : Bool := decide (e1 = e2) && (decide (v1 = v2) && decide (l1 = l2))
set_option maxHeartbeats 1000000 in
theorem isSame_any (e1 e2 : Int) (a1 a2 : Nat) (v1 v2 : Value) (l1 l2 : List Nat) (w : World) (hl1 : l1.length ≤ 4611686018427387904) (hl2 : l2.length ≤ 4611686018427387904) (h1 : ArgW w v1 l1) (h2 : ArgW w v2 l2) :
    Calls Tryz.prog 91 #[ansV e1 a1 v1, ansV e2 a2 v2] w fun e w' => e = .returned (.bool (ansEq e1 a1 l1 e2 a2 l2)) ∧ Below w.heap.size w w' := by
  have HE : Hid (Calls Tryz.prog 110 #[v1, v2] ((w.alloc (ansC e1 a1 v1)).alloc (ansC e2 a2 v2)) fun e w' => e = .returned (.bool (decide (l1 = l2))) ∧ ∃ m, w' = ((w.alloc (ansC e1 a1 v1)).alloc (ansC e2 a2 v2)).drewN m) :=
    Lib.hid (equal_any v1 v2 l1 l2 _ hl1 hl2 ((h1.alloc _).alloc _) ((h2.alloc _).alloc _))
  obtain ⟨ao1, c1, rfl⟩ := h1.isSlice
  obtain ⟨ao2, c2, rfl⟩ := h2.isSlice
  have HB : Hid (Below w.heap.size w ((w.alloc (ansC e1 a1 (.slice ao1 l1.length c1))).alloc (ansC e2 a2 (.slice ao2 l2.length c2)))) := Lib.hid (((Below.refl _ _).alloc (Nat.le_refl _) _).alloc (by simp) _)
  clear h1 h2
  unfold ansEq
  generalize decide (l1 = l2) = d3 at *
  by_cases he : e1 = e2
  · subst he
    rw [decide_eq_true rfl]
    by_cases hv : a1 = a2
    · subst hv
      rw [decide_eq_true rfl]
      go_enter Tryz.func91, Tryz.ntmps91
      go_wp2_with (go_at_call 110; refine HE.out.mono ?_; rintro e w5 ⟨rfl, m, rfl⟩)
      go_ret
      exact ⟨ret_bool (by cases d3 <;> rfl), below_drewN HB.out _⟩
    · rw [decide_eq_false hv]
      have hd2 : ((a1 : Int) == (a2 : Int)) = false := by rw [beq_eq_false_iff_ne]; omega
      have hd3 : decide ((a1 : Int) = (a2 : Int)) = false := decide_eq_false (by omega)
      go_enter Tryz.func91, Tryz.ntmps91
      go_wp2_with fail
      go_ret
      exact ⟨rfl, HB.out⟩
  · rw [decide_eq_false he]
    have hd2 : (e1 == e2) = false := by rw [beq_eq_false_iff_ne]; exact he
    go_enter Tryz.func91, Tryz.ntmps91
    go_wp2_with fail
    go_ret
    exact ⟨rfl, HB.out⟩

/-- how many values of a queue a thread put there -/
def mdOwn (t : Nat) : List Nat → Nat
  | x :: _ :: r => (if x = t then 1 else 0) + mdOwn t r
  | _ => 0
theorem mdOwn_le (t : Nat) : ∀ m : List Nat, mdOwn t m ≤ m.length
  | x :: _ :: r => by unfold mdOwn; have := mdOwn_le t r; simp only [List.length_cons]; split <;> omega
  | [x] => by simp [mdOwn]
  | [] => by simp [mdOwn]
theorem mdOwn_step {t j x : Nat} {m : List Nat} (hx : m[j]? = some x) (hj : j + 1 < m.length) : mdOwn t (m.drop j) = (if x = t then 1 else 0) + mdOwn t (m.drop (j + 2)) := by
  obtain ⟨y, hy⟩ : ∃ y, m[j + 1]? = some y := ⟨m[j + 1], List.getElem?_eq_getElem hj⟩
  have e1 : m.drop j = x :: m.drop (j + 1) := by
    have h := (List.getElem?_eq_some_iff.1 hx)
    obtain ⟨h1, h2⟩ := h
    rw [← h2]; exact List.drop_eq_getElem_cons h1
  have e2 : m.drop (j + 1) = y :: m.drop (j + 2) := by
    have h := (List.getElem?_eq_some_iff.1 hy)
    obtain ⟨h1, h2⟩ := h
    rw [← h2]; exact List.drop_eq_getElem_cons h1
  rw [e1, e2]; rfl
/-- may a queue be full for a thread -/
def mdLack (n p : Int) (m : List Nat) (t : Nat) : Bool := decide (p - n - 1 ≤ (mdOwn t m : Int))
set_option maxHeartbeats 1000000 in
theorem lack_not (n k p q : Int) (t ob kd a b c : Int) (v : Value) (m : List Nat) (w : World) (h1 : ArgW w v m) (h : k ≠ 8 ∨ kd ≠ 0) :
    Calls Tryz.prog 93 #[.int .i64 n, Tb.specV k p q, v, callV t ob kd a b c] w fun e w' => e = .returned (.bool false) ∧ Below w.heap.size w w' := by
  obtain ⟨ao1, c1, rfl⟩ := h1.isSlice
  have HB : Hid (Below w.heap.size w ((w.alloc (Tb.specO k p q)).alloc (callO t ob kd a b c))) := Lib.hid (((Below.refl _ _).alloc (Nat.le_refl _) _).alloc (by simp) _)
  clear h1
  unfold Tb.specV at *
  by_cases h8 : k = 8
  · have h0 : ¬ kd = 0 := by omega
    subst h8
    clear h
    go_enter Tryz.func93, Tryz.ntmps93
    go_wp2_with fail
    go_ret
    exact ⟨rfl, HB.out⟩
  · clear h
    go_enter Tryz.func93, Tryz.ntmps93
    go_wp2_with fail
    go_ret
    exact ⟨rfl, HB.out⟩

set_option maxHeartbeats 2000000 in
theorem lack_any (n p q : Int) (t : Nat) (ob a b c : Int) (v : Value) (m : List Nat) (w : World) (h1 : ArgW w v m) (hn : 1 ≤ n ∧ n ≤ 16) (hp : 1 ≤ p ∧ p ≤ 32) (ht : t < 16) (hl : m.length ≤ 4000000) (he : m.length % 2 = 0) :
    Calls Tryz.prog 93 #[.int .i64 n, Tb.specV 8 p q, v, callV (t : Int) ob 0 a b c] w fun e w' => e = .returned (.bool (mdLack n p m t)) ∧ Below w.heap.size w w' := by
  have hcb : ((w.alloc (Tb.specO 8 p q)).alloc (callO (t : Int) ob 0 a b c)).heap[w.heap.size + 1]? = some (callO (t : Int) ob 0 a b c) := by
    have := heap_alloc_new (w.alloc (Tb.specO 8 p q)) (callO (t : Int) ob 0 a b c)
    rw [World.size_alloc] at this; exact this
  have hsb : ((w.alloc (Tb.specO 8 p q)).alloc (callO (t : Int) ob 0 a b c)).heap[w.heap.size]? = some (Tb.specO 8 p q) := (Below.heap_alloc _ _ _ (by simp)).trans (heap_alloc_new _ _)
  have HB : Hid (Below w.heap.size w ((w.alloc (Tb.specO 8 p q)).alloc (callO (t : Int) ob 0 a b c))) := Lib.hid (((Below.refl _ _).alloc (Nat.le_refl _) _).alloc (by simp) _)
  have h1' := (h1.alloc (Tb.specO 8 p q)).alloc (callO (t : Int) ob 0 a b c)
  obtain ⟨ao, b1, o1, cap, rfl, ha1, hn1, hc1⟩ := h1'
  have c0 : ((w.alloc (Tb.specO 8 p q)).alloc (callO (t : Int) ob 0 a b c)).cell? ⟨w.heap.size + 1, 0, none⟩ = some (.int .i64 (t : Int)) := Tb.cell_of_blkT hcb rfl
  have s1 : ((w.alloc (Tb.specO 8 p q)).alloc (callO (t : Int) ob 0 a b c)).cell? ⟨w.heap.size, 1, none⟩ = some (.int .i64 p) := Tb.cell_of_blkT hsb rfl
  have s0 : ((w.alloc (Tb.specO 8 p q)).alloc (callO (t : Int) ob 0 a b c)).cell? ⟨w.heap.size, 0, none⟩ = some (.int .i64 8) := Tb.cell_of_blkT hsb rfl
  have c2 : ((w.alloc (Tb.specO 8 p q)).alloc (callO (t : Int) ob 0 a b c)).cell? ⟨w.heap.size + 1, 2, none⟩ = some (.int .i64 0) := Tb.cell_of_blkT hcb rfl
  unfold wU at hc1
  have HA := Lib.hid ha1
  have HC := Lib.hid hc1
  have HO := Lib.hid (mdOwn_le t)
  have hp1 := hp.1; have hp2 := hp.2; have hn1' := hn.1; have hn2' := hn.2
  unfold Tb.specV at *
  generalize hw0 : (w.alloc (Tb.specO 8 p q)).alloc (callO (t : Int) ob 0 a b c) = w0 at *
  unfold Tb.specO at hw0
  clear h1 ha1 hc1 hn1 hcb hsb hp hn
  go_enter Tryz.func93, Tryz.ntmps93
  go_wp2
  go_loopw [9, 10] (fun o i wr => ∃ j oc k : Nat, j ≤ m.length ∧ i = .int .i64 j ∧ o = .int .i64 oc ∧ j % 2 = 0 ∧ oc ≤ j ∧ Hid (oc + mdOwn t (m.drop j) = mdOwn t m) ∧ wr = w0.drewN k) (fun _ i _ => m.length - (intOf i).toNat)
  case atStart => exact ⟨0, 0, 0, Nat.zero_le _, rfl, rfl, rfl, Nat.le_refl _, Lib.hid (by simp), rfl⟩
  case round =>
    obtain ⟨j, oc, k, hj, rfl, rfl, hj2, hoj, hp, rfl⟩ := hrel
    by_cases hlt : j < m.length
    · obtain rfl := HA.out (by omega)
      obtain ⟨x, hx⟩ : ∃ x, m[j]? = some x := ⟨m[j], List.getElem?_eq_getElem hlt⟩
      have d1 := HC.out j x hx
      have HS := Lib.hid (mdOwn_step (t := t) hx (by omega))
      clear hx
      by_cases hxt : x = t
      · subst hxt
        have HN : Hid (oc + 1 + mdOwn x (m.drop (j + 2)) = mdOwn x m) := Lib.hid (by rw [← hp.out, HS.out, if_pos rfl]; omega)
        clear HS
        go_wp2_with fail
        go_quiet (fail)
        go_wp2
        go_roundw
        case rel => exact ⟨j + 2, oc + 1, _, by omega, by go_num, by go_num, by omega, by omega, HN, rfl⟩
        case measure => simp [intOf]; omega
      · have HN : Hid (oc + mdOwn t (m.drop (j + 2)) = mdOwn t m) := Lib.hid (by rw [← hp.out, HS.out, if_neg hxt]; omega)
        have hd2 : ((x : Int) == (t : Int)) = false := by rw [beq_eq_false_iff_ne]; omega
        have hd3 : decide ((x : Int) = (t : Int)) = false := decide_eq_false (by omega)
        clear HS
        go_wp2_with fail
        go_quiet (fail)
        go_wp2
        go_roundw
        case rel => exact ⟨j + 2, oc, _, by omega, by go_num, rfl, by omega, by omega, HN, rfl⟩
        case measure => simp [intOf]; omega
    · have : j = m.length := by omega
      subst this
      have HE : Hid (oc = mdOwn t m) := Lib.hid (by rw [← hp.out, List.drop_length]; rfl)
      have HR : Hid (mdLack n p m t = decide (p - n - 1 ≤ (oc : Int))) := Lib.hid (by unfold mdLack; rw [HE.out])
      go_wp2
      go_ret
      exact ⟨ret_bool HR.out.symm, below_drewN HB.out _⟩
end
end Go.Proofs.YtjjleghalajidaaGreat
