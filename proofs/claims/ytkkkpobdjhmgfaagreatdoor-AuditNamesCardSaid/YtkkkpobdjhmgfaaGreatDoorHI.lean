/- history: Right, plainly: what its rounds hold; the map of the next event of each thread. -/
import Derived.Test.YtkkkpobdjhmgfaaGreatDoorHH
import Derived.Maps.OwnIn
import Derived.Maps.Views
namespace Go.Proofs.YtkkkpobdjhmgfaaGreatDoor
set_option maxRecDepth 100000
open Go.RowKit Go.Shelf Go.Maps
set_option linter.unusedVariables false
set_option linter.unusedSimpArgs false

/-- the event of a thread that came last -/
def gOf (ts : List Int) (l : List EvL) (pre : List (Fin l.length)) (t : Int) : Option Nat := (pre.reverse.find? fun i => thr ts (evAt l i) == some t).map Fin.val
theorem gOf_snoc (ts : List Int) (l : List EvL) (pre : List (Fin l.length)) (i : Fin l.length) (t : Int) : gOf ts l (pre ++ [i]) t = if thr ts (evAt l i) = some t then some i.val else gOf ts l pre t := by
  unfold gOf
  rw [List.reverse_append, List.reverse_singleton, List.singleton_append, List.find?_cons]
  by_cases h : thr ts (evAt l i) = some t
  · simp [h]
  · have h2 : (thr ts (evAt l i) == some t) = false := by simpa using h
    simp [h2, h]
theorem gOf_lt {ts : List Int} {l : List EvL} {pre : List (Fin l.length)} {t : Int} {k : Nat} (h : gOf ts l pre t = some k) : k < l.length := by
  unfold gOf at h
  rw [Option.map_eq_some_iff] at h
  obtain ⟨i, _, rfl⟩ := h
  exact i.isLt

/-- what a round asks -/
def okN (l : List EvL) (i : Nat) (x : EvL) : Bool := match l[i + 1]? with | none => true | some y => decide (x.iv < y.iv)
def okG (l : List EvL) (x : EvL) : Option Nat → Bool
  | none => true
  | some j => match l[j]? with | none => false | some y => ahd x y && decide (x.ca < y.ca)
def okS (n : Int) (ts : List Int) (l : List EvL) (k : Int) (pre : List (Fin l.length)) (i : Fin l.length) : Bool :=
  match thr ts (evAt l i) with
  | none => false
  | some t => decide (0 ≤ t) && decide (t < n) && timely (evAt l i) k && okN l i.val (evAt l i) && okG l (evAt l i) (gOf ts l pre t)
def allOk (n : Int) (ts : List Int) (l : List EvL) (k : Int) (pre : List (Fin l.length)) : Prop := ∀ (j : Nat) (i : Fin l.length), pre[j]? = some i → okS n ts l k (pre.take j) i = true
theorem allOk.snoc {n : Int} {ts : List Int} {l : List EvL} {k : Int} {pre : List (Fin l.length)} {i : Fin l.length} (h : allOk n ts l k pre) (hi : okS n ts l k pre i = true) : allOk n ts l k (pre ++ [i]) := by
  intro j x hx
  by_cases hj : j < pre.length
  · rw [List.getElem?_append_left hj] at hx
    rw [List.take_append_of_le_length (by omega)]
    exact h j x hx
  · rw [List.getElem?_append_right (by omega)] at hx
    have hj2 : j = pre.length := by
      have := (List.getElem?_eq_some_iff.1 hx).1
      simp at this; omega
    subst hj2
    rw [Nat.sub_self] at hx
    simp at hx
    subst hx
    rw [List.take_left]
    exact hi
theorem allOk.nil {n : Int} {ts : List Int} {l : List EvL} {k : Int} : allOk n ts l k [] := fun j i h => by simp at h
/-- what Right answers -/
def rgt (n : Int) (ts : List Int) (l : List EvL) (k : Int) : Bool := (List.range l.length).all fun j => if h : j < l.length then okS n ts l k (dn l.length j) ⟨l.length - 1 - j, by omega⟩ else true
theorem dn_take {m : Nat} : ∀ {k : Nat}, k ≤ m → ∀ j, j ≤ k → (dn m k).take j = dn m j
  | 0, _, j, h => by rw [show j = 0 by omega]; rfl
  | k + 1, hk, j, h => by
    rw [dn_succ (by omega) (i := ⟨m - 1 - k, by omega⟩) rfl]
    by_cases hj : j = k + 1
    · subst hj
      rw [List.take_of_length_le (by rw [List.length_append, dn_len (by omega)]; simp), dn_succ (by omega) (i := ⟨m - 1 - k, by omega⟩) rfl]
    · rw [List.take_append_of_le_length (by rw [dn_len (by omega)]; omega)]
      exact dn_take (by omega) j (by omega)
theorem dn_get {m k j : Nat} (hk : k ≤ m) (hj : j < k) : (dn m k)[j]? = some ⟨m - 1 - j, by omega⟩ := by
  have h : (dn m k)[j]? = ((dn m k).take (j + 1))[j]? := by rw [List.getElem?_take]; simp
  rw [h, dn_take hk (j + 1) (by omega), dn_succ (by omega) (i := ⟨m - 1 - j, by omega⟩) rfl, List.getElem?_append_right (by rw [dn_len (by omega)]; exact Nat.le_refl _), dn_len (by omega)]
  simp
theorem rgt_yes {n : Int} {ts : List Int} {l : List EvL} {k : Int} (h : allOk n ts l k (dn l.length l.length)) : rgt n ts l k = true := by
  unfold rgt
  rw [List.all_eq_true]
  intro j hj
  have hj' : j < l.length := by simpa using hj
  rw [dif_pos hj']
  have := h j _ (dn_get (Nat.le_refl _) hj')
  rwa [dn_take (Nat.le_refl _) j (by omega)] at this
theorem rgt_no {n : Int} {ts : List Int} {l : List EvL} {k : Int} {q : Nat} (hq : q ≤ l.length) {pre : List (Fin l.length)} {i : Fin l.length} (h : pre ++ [i] = dn l.length q) (hi : okS n ts l k pre i = false) : rgt n ts l k = false := by
  have hlen : pre.length + 1 = q := by
    have := congrArg List.length h
    rw [List.length_append, dn_len hq] at this
    simpa using this
  have hlt : pre.length < l.length := by omega
  subst hlen
  rw [dn_succ hlt (i := ⟨l.length - 1 - pre.length, by omega⟩) rfl] at h
  obtain ⟨h1, h2⟩ := List.append_inj h (by rw [dn_len (by omega)])
  simp only [List.cons.injEq, and_true] at h2
  cases hr : rgt n ts l k with
  | false => rfl
  | true =>
    unfold rgt at hr
    rw [List.all_eq_true] at hr
    have := hr pre.length (by simpa using hlt)
    rw [dif_pos hlt, ← h2, ← h1, hi] at this
    cases this

/-- block b is a map of at most m entries: of each thread the number that g tells -/
def NextIs (w : World) (b m : Nat) (g : Int → Option Nat) : Prop :=
  ∃ D : DataW Value, w.ownsMap Tryz.prog 3 (plainElem Tryz.prog 3) b m D ∧ ∀ t, Maps.has D (.int .i64 t) = (g t).isSome ∧ D.atKey (.int .i64 t) (.lit (.int .i64 0)) = .lit (.int .i64 (((g t).getD 0 : Nat) : Int))
theorem NextIs.made (w : World) : NextIs (w.alloc (.map #[] 0)) w.heap.size 0 (fun _ => none) :=
  ⟨.map [], World.ownsMap_made w Tryz.prog 3 _, fun t => ⟨by simp [Maps.has], rfl⟩⟩
theorem NextIs.same {w w' : World} {b m : Nat} {g : Int → Option Nat} (h : NextIs w b m g) (hb : w'.heap[b]? = w.heap[b]?) : NextIs w' b m g := by
  obtain ⟨D, ⟨es, c, h0, h1⟩, h2⟩ := h
  exact ⟨D, ⟨es, c, hb.trans h0, h1⟩, h2⟩
theorem NextIs.lt {w : World} {b m : Nat} {g : Int → Option Nat} (h : NextIs w b m g) : b < w.heap.size := by obtain ⟨D, h, _⟩ := h; exact h.lt

/-- the boxes of one activation of Right, and the event of one round -/
structure RS (B0 Bx : Nat) (n : Int) (aT : Option Addr) (cT nT : Nat) (ao : Option Addr) (c nl : Nat) (k : Int) (x : EvL) (W : World) : Prop where
  hN : W.cell? ⟨B0, 0, none⟩ = some (.int .i64 n)
  hT : W.cell? ⟨B0 + 1, 0, none⟩ = some (.slice aT nT cT)
  hL : W.cell? ⟨B0 + 1 + 1, 0, none⟩ = some (.slice ao nl c)
  hK : W.cell? ⟨B0 + 1 + 1 + 1, 0, none⟩ = some (.int .i64 k)
  hR : W.cell? ⟨B0 + 1 + 1 + 1 + 1, 0, none⟩ = some (.bool false)
  hF : W.frozen? ⟨B0 + 1 + 1 + 1 + 1, 0, none⟩ = false
  hM : W.cell? ⟨B0 + 1 + 1 + 1 + 1 + 1 + 1, 0, none⟩ = some (.map (some (B0 + 1 + 1 + 1 + 1 + 1)))
  e0 : W.cell? ⟨Bx, 0, none⟩ = some (.int .i64 x.ca)
  e1 : W.cell? ⟨Bx, 1, none⟩ = some (.int .i64 x.iv)
  e2 : W.cell? ⟨Bx, 2, none⟩ = some (.int .i64 x.rs)
  e3 : W.cell? ⟨Bx, 3, none⟩ = some (.int .i64 x.st)
  e4 : W.cell? ⟨Bx, 4, none⟩ = some (.int .i64 x.er)
  e5 : W.cell? ⟨Bx, 5, none⟩ = some (.int .u64 (x.vl : Int))
  e6 : W.cell? ⟨Bx, 6, none⟩ = some (.slice x.la x.nl x.cl)
  e7 : W.cell? ⟨Bx, 7, none⟩ = some (.slice x.ka x.nk x.ck)
theorem frozen_same {W W' : World} {b i : Nat} (h : W'.heap[b]? = W.heap[b]?) : W'.frozen? ⟨b, i, none⟩ = W.frozen? ⟨b, i, none⟩ := by unfold World.frozen?; rw [h]
theorem RS.below {B0 Bx : Nat} {n : Int} {aT : Option Addr} {cT nT : Nat} {ao : Option Addr} {c nl : Nat} {k : Int} {x : EvL} {W W' : World} (h : RS B0 Bx n aT cT nT ao c nl k x W) (hb : Below W.heap.size W W') : RS B0 Bx n aT cT nT ao c nl k x W' := by
  have g : ∀ {b i : Nat} {v : Value}, W.cell? ⟨b, i, none⟩ = some v → W'.cell? ⟨b, i, none⟩ = some v := fun hv => (hb.cell (World.block_lt_of_cell? W _ hv)).trans hv
  exact ⟨g h.hN, g h.hT, g h.hL, g h.hK, g h.hR, (frozen_same (hb.block _ (World.block_lt_of_cell? W _ h.hR))).trans h.hF, g h.hM, g h.e0, g h.e1, g h.e2, g h.e3, g h.e4, g h.e5, g h.e6, g h.e7⟩
theorem keeps_below {B : Nat} {W W' : World} (h : Below W.heap.size W W') : KeepsFrom B W W' := ⟨h.size, fun k o _ hk ho => (h.block k (Array.getElem?_eq_some_iff.1 hk).1).trans hk⟩

/-- between two rounds: what lay when the loop began lies as it lay, but for the map -/
structure RI (w w0 : World) (bm : Nat) (n : Int) (ts : List Int) (l : List EvL) (k : Int) (pre : List (Fin l.length)) (W : World) : Prop where
  same : ∀ q, q < w0.heap.size → q ≠ bm → W.heap[q]? = w0.heap[q]?
  size : w0.heap.size ≤ W.heap.size
  bel : Below w.heap.size w W
  map : NextIs W bm pre.length (gOf ts l pre)
  ok : allOk n ts l k pre
theorem RI.own {w w0 : World} {bm : Nat} {n : Int} {ts : List Int} {l : List EvL} {k : Int} (hw : w.heap.size ≤ w0.heap.size) (hm : bm < w0.heap.size) : OwnFrom w0.heap.size (RI w w0 bm n ts l k) := by
  intro s A B row hs hg hr
  have hq : ∀ q, q < w0.heap.size → B.heap[q]? = A.heap[q]? := fun q hq => hg.block q (Nat.lt_of_lt_of_le hq hs.size) (fun e => by have := (hr q e.symm).1; omega)
  exact ⟨fun q h1 h2 => (hq q h1).trans (hs.same q h1 h2), Nat.le_trans hs.size hg.size, hs.bel.grown hg (Nat.le_trans hw hs.size) (fun j e => Nat.le_trans hw (hr j e).1), hs.map.same (hq bm hm), hs.ok⟩
/-- a round has answered no -/
structure RX (w w0 : World) (br : Nat) (n : Int) (ts : List Int) (l : List EvL) (k : Int) (c : Code) (pre : List (Fin l.length)) (W : World) : Prop where
  ret : c = .ret
  bad : ∃ p i, pre = p ++ [i] ∧ okS n ts l k p i = false
  res : W.cell? ⟨br, 0, none⟩ = some (.bool false)
  size : w0.heap.size ≤ W.heap.size
  bel : Below w.heap.size w W
theorem RX.own {w w0 : World} {br : Nat} {n : Int} {ts : List Int} {l : List EvL} {k : Int} (c : Code) (hw : w.heap.size ≤ w0.heap.size) (hm : br < w0.heap.size) : OwnFrom w0.heap.size (RX w w0 br n ts l k c) := by
  intro s A B row hs hg hr
  have hq : ∀ q, q < w0.heap.size → B.heap[q]? = A.heap[q]? := fun q hq => hg.block q (Nat.lt_of_lt_of_le hq hs.size) (fun e => by have := (hr q e.symm).1; omega)
  exact ⟨hs.ret, hs.bad, (cell_same (hq br hm)).trans hs.res, Nat.le_trans hs.size hg.size, hs.bel.grown hg (Nat.le_trans hw hs.size) (fun j e => Nat.le_trans hw (hr j e).1)⟩
def w_ev (W : World) (Bx : Nat) (cs : Array Value) (t : TypeId) : Prop := W.heap[Bx]? = some (.cells cs t (0, 0))
/-- a round's event lies in a block of its own -/
theorem evx_own (B Bx : Nat) (cs : Array Value) (t : TypeId) {p : Prop} : OwnFrom B (fun (_ : Unit) W => w_ev W Bx cs t ∧ p) := by
  intro s A B' row hs hg hr
  refine ⟨?_, hs.2⟩
  have hlt : Bx < A.heap.size := (Array.getElem?_eq_some_iff.1 hs.1).1
  refine (hg.block Bx hlt (fun e => ?_)).trans hs.1
  obtain ⟨_, o, ho, hc⟩ := hr Bx e.symm
  rw [show A.heap[Bx]? = _ from hs.1] at ho
  cases ho
  cases hc

theorem owns_map_same {w w' : World} {P : Program} {k : TypeId} {R : Value → Option (DataW Value × List MemPlace)} {b m : Nat} {D : DataW Value} (h : w.ownsMap P k R b m D) (hb : w'.heap[b]? = w.heap[b]?) : w'.ownsMap P k R b m D := by
  obtain ⟨es, c, h0, h1⟩ := h
  exact ⟨es, c, hb.trans h0, h1⟩
theorem wf_of {t : Int} (h : -9223372036854775808 ≤ t ∧ t ≤ 9223372036854775807) : (Lit.int .i64 t).wf = true := WalkArith.wf_i64 h
theorem look_is {x : DataW Value} {c d : Int} (h : x = .lit (.int .i64 c)) (h2 : x = .lit (.int .i64 d)) : c = d := by rw [h2] at h; cases h; rfl
theorem thr_wf {w : World} {b o : Nat} {ts : List Int} {x : EvL} {t : Int} (hc : ThsAt w b o ts) (h : thr ts x = some t) : -9223372036854775808 ≤ t ∧ t ≤ 9223372036854775807 := by
  unfold thr at h
  split at h
  · exact (hc _ _ h).2
  · cases h
/-- a round that answers no -/
theorem leaf_no {w w0 W Wi : World} {bm br : Nat} {n : Int} {ts : List Int} {l : List EvL} {k : Int} {pre : List (Fin l.length)} {x : Fin l.length} (hw : w.heap.size ≤ w0.heap.size) (hbr : w.heap.size ≤ br) (hI : RI w w0 bm n ts l k pre W) (hb : Below W.heap.size W Wi)
    (hres : Wi.cell? ⟨br, 0, none⟩ = some (.bool false)) (hbad : okS n ts l k pre x = false) :
    KeepsFrom w0.heap.size W (Wi.setCell ⟨br, 0, none⟩ (.bool false)) ∧ RX w w0 br n ts l k .ret (pre ++ [x]) (Wi.setCell ⟨br, 0, none⟩ (.bool false)) :=
  ⟨(keeps_below hb).trans ((KeepsOthers.setCell _ _ _).from _), rfl, ⟨pre, x, rfl, hbad⟩, World.cell?_setCell_same' _ _ _ (by rw [hres]; rfl), Nat.le_trans hI.size (Nat.le_trans hb.size (KeepsOthers.setCell Wi ⟨br, 0, none⟩ (.bool false)).size),
    (hI.bel.trans (hb.mono (Nat.le_trans hw hI.size))).setCell (p := ⟨br, 0, none⟩) hbr _⟩
/-- a round that goes on -/
theorem leaf_yes {w w0 W W4 W5 : World} {bm Bs : Nat} {n : Int} {ts : List Int} {l : List EvL} {k : Int} {pre : List (Fin l.length)} {x : Fin l.length} {t : Int} {D : DataW Value} (hw : w.heap.size ≤ w0.heap.size) (hbm : w.heap.size ≤ bm) (hbm0 : bm < w0.heap.size) (hBs : Bs < w0.heap.size) (hne : Bs ≠ bm)
    (hI : RI w w0 bm n ts l k pre W) (hb : Below W.heap.size W W4) (hg : W4.grownBy W5 (some bm)) (ht : thr ts (evAt l x) = some t)
    (hD : ∀ t, Maps.has D (.int .i64 t) = (gOf ts l pre t).isSome ∧ D.atKey (.int .i64 t) (.lit (.int .i64 0)) = .lit (.int .i64 (((gOf ts l pre t).getD 0 : Nat) : Int))) (hm : IsMap D)
    (hown : W5.ownsMap Tryz.prog 3 (plainElem Tryz.prog 3) bm (pre.length + 1) (D.put (.int .i64 t) (.lit (.int .i64 (x.val : Int))))) (hok : okS n ts l k pre x = true) :
    KeepsFrom w0.heap.size W W5 ∧ KpB w.heap.size Bs W W5 ∧ RI w w0 bm n ts l k (pre ++ [x]) W5 := by
  have hq : ∀ q, q < W.heap.size → q ≠ bm → W5.heap[q]? = W.heap[q]? := fun q h1 h2 => (hg.block q (Nat.lt_of_lt_of_le h1 hb.size) (fun e => h2 (by cases e; rfl))).trans (hb.block q h1)
  have hbel : Below w.heap.size W W5 := (hb.mono (Nat.le_trans hw hI.size)).grown hg (Nat.le_trans hw (Nat.le_trans hI.size hb.size)) (fun j e => by cases e; exact hbm)
  refine ⟨(keeps_below hb).trans (KeepsFrom.of_grownBy hg (fun j e => by cases e; exact hbm0)), ⟨hbel, hq Bs (Nat.lt_of_lt_of_le hBs hI.size) hne⟩, fun q h1 h2 => (hq q (Nat.lt_of_lt_of_le h1 hI.size) h2).trans (hI.same q h1 h2), Nat.le_trans hI.size (Nat.le_trans hb.size hg.size), hI.bel.trans hbel, ?_, hI.ok.snoc hok⟩
  rw [List.length_append]
  refine ⟨_, hown, fun u => ?_⟩
  rw [gOf_snoc, ht]
  have hkey : WideAt.IsKeyLit (.int .i64 t) := by simp [WideAt.IsKeyLit]
  by_cases hu : t = u
  · subst hu
    rw [if_pos rfl, has_put_same hm hkey, atKey_put_same hm hkey]
    exact ⟨rfl, rfl⟩
  · have hne2 : (Lit.int .i64 u) ≠ (Lit.int .i64 t) := fun e => hu (by cases e; rfl)
    rw [if_neg (fun e => hu (Option.some.inj e)), has_put_other hne2, atKey_put_other hne2]
    exact hD u
end Go.Proofs.YtkkkpobdjhmgfaaGreatDoor
