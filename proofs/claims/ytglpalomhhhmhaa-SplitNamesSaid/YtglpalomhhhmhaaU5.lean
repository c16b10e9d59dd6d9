/- Walk of pick: New. -/
import Derived.Test.YtglpalomhhhmhaaU4
namespace Go.Proofs.Ytglpalomhhhmhaa
open Go.RowKit

/-- append of one number, where it must be known in which block what comes of it lies -/
theorem step_append_at {P : Program} {w : World} {ops : Array Oper} {o : Oper} {a : Act} {K : Act → World → Prop} {Q : Exit → Act → World → Prop} {E : Prop} (hgd : o.guard = none) (s x : Operand) (t : TypeId)
    (ho : o.op = .call { callee := .builtin .append, args := #[s, x], argTypes := #[t, t] })
    (base : Nat) (e : TypeId) (i : TypeInfo) (z : Value) (ht : P.underlying t = some (.slice e)) (hi : P.info? e = some i) (hz : i.zero = some z)
    (hsize : i.size = 1) (hby : i.bytes = 8) (hzs : z.cells.size = 1)
    (v : Value) (n : Nat) (xs : List Value) (hs : a.eval s = v) (hown : w.ownsRow base e 1 v n xs)
    (u : Value) (bx : Nat) (hx : a.eval x = .slice (some ⟨bx, 0, none⟩) 1 1) (hc : w.cell? ⟨bx, 0, none⟩ = some u) (h1 : u.oneCell' = true)
    (hn : n ≤ 4294967296) (hbase : base ≤ w.heap.size)
    (h : ∀ v' w', w'.ownsRow base e 1 v' (n + 1) (xs ++ [u]) → w.grownBy w' v.ownBlock → (v'.ownBlock = v.ownBlock ∨ v'.ownBlock = some w.heap.size) → K (a.put o.dst v') w') :
    if Region.wanted o (yielded ops a.tmps) = true then Oper.wp P o a w K Q else E := by
  have hw : Region.wanted o (yielded ops a.tmps) = true := by simp [Region.wanted, hgd]
  rw [if_pos hw]
  obtain ⟨v', w', hr, h2, h3, _, h5⟩ := run_append_own_at (P := P) w base t o.type e i z 1 8 ht hi hz hsize hby hzs (by omega) v n xs hown ⟨bx, 0, none⟩ 1 1 [u] rfl
    (fun j y hj => by
      match j, hj with
      | 0, hj => simp at hj; subst hj; simpa [Addr.add] using hc) (by simpa using h1) (by unfold maxLen; omega) (by omega) hbase
  unfold Oper.wp execOp
  simp only [ho, resolve, invoke, builtin, Sem.run_bind, Sem.run_pure, Result.andThen_ok, List.map_toArray, List.map_cons, List.map_nil, hs, hx, hr]
  exact h v' w' h2 h3 h5

/-- the rows of a line that is being made: each of its own block -/
def nums (l : List Nat) : List Value := l.map fun x : Nat => Value.int .i64 (x : Int)
theorem nums_len (l : List Nat) : (nums l).length = l.length := by unfold nums; simp
structure RowsIs (w : World) (B : Nat) (f : Int → Value) (own : Int → List Nat) : Prop where
  row : ∀ p, w.ownsRow B 3 1 (f p) (own p).length (nums (own p))
  apart : ∀ p q, p ≠ q → (f p).ownBlock = none ∨ (f p).ownBlock ≠ (f q).ownBlock

theorem RowsIs.kept {w w' : World} {B : Nat} {f : Int → Value} {own : Int → List Nat} (h : RowsIs w B f own) {row : Option Nat} (hg : w.grownBy w' row) (hr : ∀ k, row = some k → k < B ∨ w.heap.size ≤ k) : RowsIs w' B f own := by
  refine ⟨fun p => (h.row p).kept hg ?_, h.apart⟩
  cases hb : (f p).ownBlock with
  | none => exact .inl rfl
  | some g =>
    right
    intro e
    have := (h.row p).lt g hb
    have := hr g e.symm
    omega
theorem RowsIs.alloc {w : World} {B : Nat} {f : Int → Value} {own : Int → List Nat} (h : RowsIs w B f own) (o : Obj) : RowsIs (w.alloc o) B f own := h.kept (World.grownBy_alloc w o none) (fun k hk => by cases hk)
theorem RowsIs.drew {w : World} {B : Nat} {f : Int → Value} {own : Int → List Nat} (h : RowsIs w B f own) : RowsIs w.drew B f own := ⟨h.row, h.apart⟩
theorem below_drew {B : Nat} {a w : World} (h : Below B a w) : Below B a w.drew := ⟨h.os, h.tape, h.output, h.size, h.block⟩
theorem RowsIs.put {w w1 : World} {B : Nat} {f : Int → Value} {own : Int → List Nat} (h : RowsIs w B f own) {p : Int} {v : Value} {i : Nat} (hg : w.grownBy w1 (f p).ownBlock) (hv : w1.ownsRow B 3 1 v ((own p).length + 1) (nums (own p) ++ [.int .i64 (i : Int)]))
    (hb : v.ownBlock = (f p).ownBlock ∨ v.ownBlock = some w.heap.size) : RowsIs w1 B (updF f p v) (updF own p (own p ++ [i])) := by
  have hq : ∀ q, q ≠ p → (f q).ownBlock = none ∨ (f q).ownBlock ≠ v.ownBlock := by
    intro q hq
    rcases hb with hb | hb
    · rw [hb]; exact h.apart q p hq
    · cases hg : (f q).ownBlock with
      | none => exact .inl rfl
      | some g =>
        right
        intro e
        rw [hb] at e
        cases e
        have := ((h.row q).lt _ hg).2
        omega
  refine ⟨fun q => ?_, fun q r hqr => ?_⟩
  · by_cases hqp : q = p
    · subst hqp
      rw [updF_same, updF_same]
      have e : nums (own q ++ [i]) = nums (own q) ++ [.int .i64 (i : Int)] := by unfold nums; simp
      rw [e, List.length_append]
      exact hv
    · rw [updF_other _ _ hqp, updF_other _ _ hqp]
      exact (h.row q).kept hg (h.apart q p hqp)
  · by_cases hqp : q = p
    · subst hqp
      rw [updF_same, updF_other _ _ (fun e => hqr e.symm)]
      rcases hq r (fun e => hqr e.symm) with h1 | h1
      · cases hv' : v.ownBlock with
        | none => exact .inl rfl
        | some g => right; rw [h1]; exact fun e => by cases e
      · exact .inr (fun e => h1 e.symm)
    · rw [updF_other _ _ hqp]
      by_cases hrp : r = p
      · subst hrp; rw [updF_same]; exact hq q hqp
      · rw [updF_other _ _ hrp]; exact h.apart q r hqr

theorem RowsIs.nums {w : World} {B top : Nat} {f : Int → Value} {own : Int → List Nat} (h : RowsIs w B f own) (ht : w.heap.size ≤ top) (p : Int) : NumsAt w top (f p) (own p) := by
  have hrow := h.row p
  obtain ⟨_, ⟨hv, h0⟩ | ⟨g, cap, cur, hv, hg, hh, hc, hm, hs, htk⟩⟩ := hrow
  · rw [hv, List.eq_nil_of_length_eq_zero h0]; exact NumsAt.nil _ _
  · have hcell := World.ownsRow.cells (g := g) (h.row p) (by rw [hv]; rfl)
    refine ⟨_, g, 0, cap, hv, fun _ => ⟨rfl, ?_⟩, hc, by unfold maxLen at hm; omega, fun i x hx => ?_⟩
    · have := ((h.row p).lt g (by rw [hv]; rfl)).2
      omega
    · have := hcell i (.int .i64 (x : Int)) (by unfold Go.Proofs.Ytglpalomhhhmhaa.nums; rw [List.getElem?_map, hx]; rfl)
      rw [addr_add _ i g 0 rfl] at this
      exact this

/-- what New gives -/
def LinePost (n : Int) (cs : List CallV) (w : World) (e : Ending) (w' : World) : Prop :=
  (wrongL n (thr cs) ≠ 0 → e = .returned (.tuple #[.pointer none, .int .i64 (wrongL n (thr cs) : Nat)])) ∧
  (wrongL n (thr cs) = 0 → ∃ lb mb f, e = .returned (.tuple #[.pointer (some ⟨lb, 0, none⟩), .int .i64 0]) ∧ w.heap.size ≤ lb ∧ w.heap.size ≤ mb ∧ LineIs w' w'.heap.size lb mb cs.length f (ownL (thr cs) (List.replicate cs.length false))) ∧ Below w.heap.size w w'

theorem new_wrong {n : Int} {cs : List CallV} {w w' : World} {k : Nat} (h : wrongL n (thr cs) = k) (hk : k ≠ 0) (hb : Below w.heap.size w w') : LinePost n cs w (.returned (.tuple #[.pointer none, .int .i64 (k : Nat)])) w' :=
  ⟨fun _ => by rw [h], fun h0 => absurd (h.symm.trans h0) hk, hb⟩

theorem infoIu : (Try.prog.info? 3).map (fun i => (i.zero, i.size, i.bytes)) = some (some (.int .i64 0), 1, 8) := by kernel_rfl

set_option maxRecDepth 20000 in
set_option maxHeartbeats 2000000 in
theorem new_any (n : Int) (ao : Option Addr) (b o cap : Nat) (cs : List CallV) (w : World) (ha : 0 < cs.length → ao = some ⟨b, o, none⟩) (hb : 0 < cs.length → b < w.heap.size) (hc : CallsAt w b o cs) :
    Calls Try.prog 23 #[.int .i64 n, .slice ao cs.length cap] w (LinePost n cs w) := by
  have HC := Lib.hid hc
  have HA := Lib.hid ha
  have HB := Lib.hid hb
  clear hc ha hb
  by_cases hn : n < 1 ∨ 16 < n
  · have HR := Lib.hid (wrongL_n (ts := thr cs) hn)
    have HE := Lib.hid (new_wrong (w := w) HR.out (by omega) (Below.refl _ _))
    go_enter Try.func23, Try.ntmps23
    by_cases h1 : n < 1
    · go_wp2
      go_ret2
      exact HE.out
    · have h2 : 16 < n := by omega
      go_wp2
      go_ret2
      exact HE.out
  · have h1 : ¬ n < 1 := by omega
    have h2 : ¬ 16 < n := by omega
    have HN := Lib.hid hn
    clear hn
    by_cases h3 : 1000 < cs.length
    · have HR := Lib.hid (wrongL_long HN.out (ts := thr cs) (by rw [thr_len]; exact h3))
      have HE := Lib.hid (new_wrong (w := w) HR.out (by omega) (Below.refl _ _))
      go_enter Try.func23, Try.ntmps23
      go_wp2
      go_ret2
      exact HE.out
    · obtain ⟨iI, ia, ib, ic, id⟩ := info_parts infoIu
      have hmm := @run_makeMap Try.prog
      go_enter Try.func23, Try.ntmps23
      go_wp2
      go_loopw [21] (fun k wr => ∃ (j : Nat) (f : Int → Value), j ≤ cs.length ∧ k = .int .i64 j ∧ Hid (∀ (i : Nat) (x : CallV), i < j → cs[i]? = some x → 0 ≤ x.t ∧ x.t < n) ∧ Hid (MapIs Try.prog 3 wr w.heap.size j (.slice none 0 0) f) ∧
        Hid (RowsIs wr (w.heap.size + 1) f (ownU (thr cs) j)) ∧ Hid (Below w.heap.size w wr) ∧ w.heap.size + 1 ≤ wr.heap.size) (fun k _ => cs.length - (intOf k).toNat)
      case atStart => exact ⟨0, fun _ => .slice none 0 0, Nat.zero_le _, rfl, Lib.hid (fun i x h => absurd h (by omega)), Lib.hid (MapIs.made _ _ _ _), Lib.hid ⟨fun p => World.ownsRow_nil _ _ _ _, fun p q _ => .inl rfl⟩, Lib.hid ((Below.refl _ _).alloc (Nat.le_refl _) _), by simp⟩
      case round =>
        obtain ⟨j, f, hj, rfl, hp, hM, hRw, hBl, hsz⟩ := hrel
        by_cases hlt : j < cs.length
        · obtain rfl := HA.out (by omega)
          obtain ⟨x, hx⟩ : ∃ x, cs[j]? = some x := ⟨cs[j], List.getElem?_eq_getElem (by omega)⟩
          obtain ⟨c0, c1, c2, c3, c4, c5, hxt, _⟩ := (HC.out.stays hBl.out HB.out) j _ hx
          have HX := Lib.hid hx
          clear hx
          by_cases h4 : x.t < 0
          · have HR := Lib.hid (wrongL_bad HN.out (ts := thr cs) (by rw [thr_len]; exact h3) (thr_get HX.out) (.inl h4))
            go_wp2
            go_ret2
            exact new_wrong (k := 1) HR.out (by decide) (hBl.out.alloc (by omega) _)
          · by_cases h5 : n ≤ x.t
            · have HR := Lib.hid (wrongL_bad HN.out (ts := thr cs) (by rw [thr_len]; exact h3) (thr_get HX.out) (.inr h5))
              go_wp2
              go_ret2
              exact new_wrong (k := 1) HR.out (by decide) (hBl.out.alloc (by omega) _)
            · have HP : Hid (∀ (i : Nat) (x : CallV), i < j + 1 → cs[i]? = some x → 0 ≤ x.t ∧ x.t < n) := Lib.hid (fun i y hi hy => by
                by_cases he : i = j
                · subst he
                  rw [HX.out] at hy
                  cases hy
                  omega
                · exact hp.out i y (by omega) hy)
              have hxt0 : 0 ≤ x.t ∧ x.t < 16 := by omega
              go_wp2
              have HMa : Hid (MapIs Try.prog 3 (wr.alloc (.cells #[.int .i64 x.t, .int .i64 x.o, .int .i64 x.k, .int .u64 x.a, .int .u64 x.b, .int .u64 x.c] 43)) w.heap.size j (.slice none 0 0) f) := Lib.hid (hM.out.alloc _)
              have HRa : Hid (RowsIs (wr.alloc (.cells #[.int .i64 x.t, .int .i64 x.o, .int .i64 x.k, .int .u64 x.a, .int .u64 x.b, .int .u64 x.c] 43)) (w.heap.size + 1) f (ownU (thr cs) j)) := Lib.hid (hRw.out.alloc _)
              have HBa : Hid (Below w.heap.size w (wr.alloc (.cells #[.int .i64 x.t, .int .i64 x.o, .int .i64 x.k, .int .u64 x.a, .int .u64 x.b, .int .u64 x.c] 43))) := Lib.hid (hBl.out.alloc (by omega) _)
              have hcx : (wr.alloc (.cells #[.int .i64 x.t, .int .i64 x.o, .int .i64 x.k, .int .u64 x.a, .int .u64 x.b, .int .u64 x.c] 43)).drew.cell? ⟨wr.heap.size, 0, none⟩ = some (.int .i64 x.t) := by
                show (wr.alloc _).cell? _ = _
                rw [World.cell?_alloc_at _ _ _ _ rfl]; rfl
              have hsa : w.heap.size + 1 ≤ (wr.alloc (.cells #[.int .i64 x.t, .int .i64 x.o, .int .i64 x.k, .int .u64 x.a, .int .u64 x.b, .int .u64 x.c] 43)).heap.size := by simp; omega
              have hsb : wr.heap.size < (wr.alloc (.cells #[.int .i64 x.t, .int .i64 x.o, .int .i64 x.k, .int .u64 x.a, .int .u64 x.b, .int .u64 x.c] 43)).heap.size := by simp
              have HFB : Hid (∀ g, (f x.t).ownBlock = some g → g < wr.heap.size) := Lib.hid (fun g hg => ((hRw.out.row x.t).lt g hg).2)
              clear c0 c1 c2 c3 c4 c5 hM hRw hBl hsz
              generalize wr.alloc (.cells #[.int .i64 x.t, .int .i64 x.o, .int .i64 x.k, .int .u64 x.a, .int .u64 x.b, .int .u64 x.c] 43) = W1 at HMa HRa HBa hcx hsa hsb ⊢
              have hcx0 : W1.cell? ⟨wr.heap.size, 0, none⟩ = some (.int .i64 x.t) := hcx
              have hlk1 := HMa.out.drew.look (t := 94) (e := 23) (a := x.t) Try.underlying3 Try.underlying94 (zeroSl _) (WalkArith.wf_i64 hxt)
              have HMb : Hid (MapIs Try.prog 3 (W1.alloc (.cells #[.int .i64 (j : Int)] 3)).drew w.heap.size j (.slice none 0 0) f) := Lib.hid (HMa.out.alloc _).drew
              have hlk2 := HMb.out.look (t := 94) (e := 23) (a := x.t) Try.underlying3 Try.underlying94 (zeroSl _) (WalkArith.wf_i64 hxt)
              have HRb : Hid (RowsIs (W1.alloc (.cells #[.int .i64 (j : Int)] 3)).drew (w.heap.size + 1) f (ownU (thr cs) j)) := Lib.hid (HRa.out.alloc _).drew
              have HBb : Hid (Below w.heap.size w (W1.alloc (.cells #[.int .i64 (j : Int)] 3)).drew) := Lib.hid (below_drew (HBa.out.alloc (by omega) _))
              have hcb : (W1.alloc (.cells #[.int .i64 (j : Int)] 3)).drew.cell? ⟨W1.heap.size, 0, none⟩ = some (.int .i64 (j : Int)) := by
                show (W1.alloc _).cell? _ = _
                rw [World.cell?_alloc_at _ _ _ _ rfl]; rfl
              have hsc : w.heap.size + 1 ≤ (W1.alloc (.cells #[.int .i64 (j : Int)] 3)).drew.heap.size := by
                show w.heap.size + 1 ≤ (W1.alloc _).heap.size
                simp; omega
              have HU := Lib.hid (ownU_succ (thr_get HX.out))
              have hol : (ownU (thr cs) j x.t).length ≤ 4294967296 := by have := ownU_len (thr cs) j x.t; omega
              have hjm : j < maxLen := by unfold maxLen; omega
              go_region_law (refine step_append_at rfl _ _ 23 rfl (w.heap.size + 1) 3 iI (.int .i64 0) Try.underlying23 ia ib ic id rfl (f x.t) _ _ rfl (HRb.out.row x.t) (.int .i64 (j : Int)) W1.heap.size rfl hcb rfl hol hsc ?_
                             intro v1 w1 ho1 hg1 hl1
                             have hcx1 : w1.cell? ⟨wr.heap.size, 0, none⟩ = some (.int .i64 x.t) := by
                               have e0 : (W1.alloc (.cells #[.int .i64 (j : Int)] 3)).drew.cell? ⟨wr.heap.size, 0, none⟩ = some (.int .i64 x.t) := by
                                 show (W1.alloc _).cell? _ = _
                                 rw [World.cell?_alloc_past _ _ _ hsb]; exact hcx0
                               rw [← e0]
                               unfold World.cell?
                               rw [hg1.block wr.heap.size (by show wr.heap.size < (W1.alloc _).heap.size; simp; omega) (fun e => by have := HFB.out _ e.symm; omega)]
                             obtain ⟨w2, hst, hM2, hT2⟩ := MapIs.store (HMb.out.kept hg1 (fun e => by have := ((HRb.out.row x.t).lt _ e.symm).1; omega)) (t := 94) (e := 23) Try.underlying3 Try.underlying94 hjm hxt0 v1)
              all_goals
                have HM3 := Lib.hid hM2
                have HR3 : Hid (RowsIs w2 (w.heap.size + 1) (updF f x.t v1) (ownU (thr cs) (j + 1))) := Lib.hid (by
                  rw [HU.out]
                  exact (HRb.out.put hg1 ho1 hl1).kept hT2.grown (fun k hk => by cases hk; omega))
                have hs1 := hg1.size
                have hs2 := hT2.grown.size
                have HB3 : Hid (Below w.heap.size w w2) := Lib.hid ((HBb.out.grown hg1 (by omega) (fun k hk => by have := ((HRb.out.row x.t).lt _ hk).1; omega)).grown hT2.grown (by omega) (fun k hk => by cases hk; omega))
                have hs3 : w.heap.size + 1 ≤ w2.heap.size := by omega
                clear hM2 ho1 hg1 hl1 hT2 hst hs1 hs2 hlk1 hlk2 hcb hsc hcx hcx0 hsa hsb hcx1
                go_wp2
                go_roundw
                case rel => exact ⟨j + 1, updF f x.t v1, by omega, by go_num, HP, HM3, HR3, HB3, hs3⟩
                case measure => simp [intOf]; omega
        · have : j = cs.length := by omega
          subst this
          have HR := Lib.hid (wrongL_ok HN.out (ts := thr cs) (by rw [thr_len]; exact h3) (fun t ht => by
            unfold thr at ht
            obtain ⟨x, hx, rfl⟩ := List.mem_map.1 ht
            obtain ⟨i, hi⟩ := List.mem_iff_getElem?.1 hx
            exact hp.out i x (List.getElem?_eq_some_iff.1 hi).1 hi))
          have HM4 := Lib.hid (hM.out.alloc (.cells #[.map (some w.heap.size)] 96))
          have HR4 := Lib.hid (hRw.out.alloc (.cells #[.map (some w.heap.size)] 96))
          have HB4 := Lib.hid (hBl.out.alloc (by omega) (.cells #[.map (some w.heap.size)] 96))
          have HTS : Hid (∀ t ∈ thr cs, 0 ≤ t ∧ t < n) := Lib.hid (wrongL_inv HR.out).2.2
          go_wp2
          go_ret2
          refine ⟨fun h => absurd HR.out h, fun _ => ⟨wr.heap.size, w.heap.size, f, rfl, by omega, Nat.le_refl _, ⟨?_, HM4.out, fun p => ?_, fun p hp => ?_, by simp, by simp; omega⟩⟩, HB4.out⟩
          · rw [World.cell?_alloc_at _ _ _ _ rfl]; rfl
          · have := HR4.out.nums (Nat.le_refl _) p
            rw [← thr_len, ownU_all, thr_len] at this
            exact this
          · rw [← thr_len, ← ownU_all] at hp
            obtain ⟨i, hi⟩ := List.exists_mem_of_ne_nil _ hp
            unfold ownU at hi
            rw [List.mem_filter, beq_iff_eq] at hi
            have := HTS.out p (List.mem_of_getElem? hi.2)
            omega
end Go.Proofs.Ytglpalomhhhmhaa
