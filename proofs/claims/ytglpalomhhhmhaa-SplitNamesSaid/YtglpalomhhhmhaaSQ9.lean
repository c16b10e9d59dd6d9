/- Walk of the law SplitNames. -/
import Derived.Test.YtglpalomhhhmhaaSQ8
namespace Go.Proofs.Ytglpalomhhhmhaa
open Go.RowKit
set_option linter.unusedVariables false
set_option linter.unusedSimpArgs false
theorem any_snoc {α : Type} (f : α → Bool) {l : List α} {j : Nat} {y : α} (h : l[j]? = some y) : (l.take (j + 1)).any f = ((l.take j).any f || f y) := by
  rw [take_snoc h, List.any_append, List.any_cons, List.any_nil, Bool.or_false]
theorem countP_setB {f : Nat → Bool} {t : Nat} (hf : f t = false) : ∀ n : Nat, (List.range n).countP (setB f t) = (List.range n).countP f + if t < n then 1 else 0
  | 0 => by simp
  | n + 1 => by
    rw [List.range_succ, List.countP_append, List.countP_append, countP_setB hf n, List.countP_singleton, List.countP_singleton]
    by_cases htn : t = n
    · subst htn
      rw [setB_same, hf, if_neg (Nat.lt_irrefl _), if_pos (Nat.lt_succ_self _)]
      simp
    · rw [setB_other f (show n ≠ t from fun h => htn h.symm)]
      by_cases h : t < n
      · rw [if_pos h, if_pos (show t < n + 1 by omega)]; omega
      · rw [if_neg h, if_neg (show ¬ t < n + 1 by omega)]; omega
theorem bgn_skip {cs : List CallV} {l : List EvR} {j : Nat} {x : EvR} {y : CallV} (hx : l[j]? = some x) (hy : cs[x.i]? = some y) (h : ¬ (y.o = 0 ∧ y.k = 0)) : bgn cs (l.take (j + 1)) = bgn cs (l.take j) := by
  funext t
  unfold bgn
  rw [any_snoc _ hx, isSp_some hy, decide_eq_false (fun e => h ⟨e.1, e.2.1⟩), Bool.or_false]
theorem bgn_new {cs : List CallV} {l : List EvR} {j t : Nat} {x : EvR} {y : CallV} (hx : l[j]? = some x) (hy : cs[x.i]? = some y) (h1 : y.o = 0) (h2 : y.k = 0) (ht : y.t = (t : Int)) : bgn cs (l.take (j + 1)) = setB (bgn cs (l.take j)) t := by
  funext u
  show (l.take (j + 1)).any (isSp cs u) = _
  rw [any_snoc _ hx, isSp_some hy]
  by_cases hu : u = t
  · subst hu
    rw [setB_same, decide_eq_true ⟨h1, h2, by omega⟩, Bool.or_true]
  · rw [setB_other _ hu, decide_eq_false (fun e => hu (by omega)), Bool.or_false]; rfl
theorem bgn_old {cs : List CallV} {l : List EvR} {j t : Nat} {x : EvR} {y : CallV} (hx : l[j]? = some x) (hy : cs[x.i]? = some y) (h1 : y.o = 0) (h2 : y.k = 0) (ht : y.t = (t : Int)) (hb : bgn cs (l.take j) t = true) : bgn cs (l.take (j + 1)) = bgn cs (l.take j) := by
  rw [bgn_new hx hy h1 h2 ht]
  funext u
  by_cases hu : u = t
  · subst hu; rw [setB_same, hb]
  · rw [setB_other _ hu]
/-- the names that are given -/
def nmd (cs : List CallV) (l : List EvR) (v : Nat) : Bool := l.any fun x => spDone cs x && x.ans.val == v
theorem nmd_skip {cs : List CallV} {l : List EvR} {j : Nat} {x : EvR} (hx : l[j]? = some x) (h : spDone cs x = false) : nmd cs (l.take (j + 1)) = nmd cs (l.take j) := by
  funext v
  show (l.take (j + 1)).any _ = _
  rw [any_snoc _ hx, h, Bool.false_and, Bool.or_false]; rfl
theorem nmd_new {cs : List CallV} {l : List EvR} {j : Nat} {x : EvR} (hx : l[j]? = some x) (h : spDone cs x = true) : nmd cs (l.take (j + 1)) = setB (nmd cs (l.take j)) x.ans.val := by
  funext v
  show (l.take (j + 1)).any _ = _
  rw [any_snoc _ hx, h, Bool.true_and]
  by_cases hv : v = x.ans.val
  · subst hv; rw [setB_same, beq_self_eq_true, Bool.or_true]
  · rw [setB_other _ hv, show (x.ans.val == v) = false from by rw [beq_eq_false_iff_ne]; exact fun e => hv e.symm, Bool.or_false]; rfl
theorem nmd_free {n : Nat} {cs : List CallV} {l : List EvR} (hN : NamesOk n cs l) {j : Nat} {x : EvR} (hx : l[j]? = some x) (h : spDone cs x = true) : nmd cs (l.take j) x.ans.val = false := by
  rw [Bool.eq_false_iff]
  intro hc
  obtain ⟨u, hu, hd⟩ := List.any_eq_true.1 hc
  obtain ⟨i, hi⟩ := List.mem_iff_getElem?.1 hu
  have hil := (List.getElem?_eq_some_iff.1 hi).1
  rw [List.length_take] at hil
  rw [List.getElem?_take, if_pos (by omega)] at hi
  rw [Bool.and_eq_true, beq_iff_eq] at hd
  exact hN.uniq i j u x (by omega) hi hx hd.1 h hd.2
structure NamA (k : Nat) (cs : List CallV) (w0 : World) (B : Nat) (l : List EvR) (j m : Nat) (wr : World) : Prop where
  below : Below w0.heap.size w0 wr
  base : w0.heap.size ≤ B
  row : RowBlk 4 wr B (prVs k (bgn cs (l.take j)))
  cnt : begunN k cs (l.take j) = m
theorem NamA.same {k : Nat} {cs : List CallV} {w0 : World} {B : Nat} {l : List EvR} {j m : Nat} {wr w' : World} (h : NamA k cs w0 B l j m wr) (e : bgn cs (l.take (j + 1)) = bgn cs (l.take j)) (hb : Below wr.heap.size wr w') : NamA k cs w0 B l (j + 1) m w' :=
  ⟨h.below.trans (hb.mono h.below.size), h.base, by rw [e]; exact h.row.same (hb.block _ h.row.lt), by unfold begunN; rw [e]; exact h.cnt⟩
theorem NamA.new {k : Nat} {cs : List CallV} {w0 : World} {B : Nat} {l : List EvR} {j m t : Nat} {wr w' : World} (h : NamA k cs w0 B l j m wr) (e : bgn cs (l.take (j + 1)) = setB (bgn cs (l.take j)) t) (ht : t < k) (hf : bgn cs (l.take j) t = false) (hb : Below wr.heap.size wr w') : NamA k cs w0 B l (j + 1) (m + 1) (w'.setCell ⟨B, t, none⟩ (.bool true)) :=
  ⟨(h.below.trans (hb.mono h.below.size)).setCell h.base _, h.base, by rw [e, ← prVs_put ht]; exact (h.row.same (hb.block _ h.row.lt)).put t _, by unfold begunN; rw [e, countP_setB hf, if_pos ht]; have := h.cnt; unfold begunN at this; omega⟩
theorem NamA.grow {k : Nat} {cs : List CallV} {w0 : World} {B : Nat} {l : List EvR} {j m : Nat} {wr w' : World} (h : NamA k cs w0 B l j m wr) (hb : Below wr.heap.size wr w') : NamA k cs w0 B l j m w' :=
  ⟨h.below.trans (hb.mono h.below.size), h.base, h.row.same (hb.block _ h.row.lt), h.cnt⟩
structure NamB (T : Nat) (cs : List CallV) (w0 : World) (B : Nat) (l : List EvR) (j : Nat) (wr : World) : Prop where
  below : Below w0.heap.size w0 wr
  base : w0.heap.size ≤ B
  row : RowBlk 4 wr B (prVs T (nmd cs (l.take j)))
theorem NamB.same {T : Nat} {cs : List CallV} {w0 : World} {B : Nat} {l : List EvR} {j : Nat} {wr w' : World} {x : EvR} (h : NamB T cs w0 B l j wr) (hx : l[j]? = some x) (hd : spDone cs x = false) (hb : Below wr.heap.size wr w') : NamB T cs w0 B l (j + 1) w' :=
  ⟨h.below.trans (hb.mono h.below.size), h.base, by rw [nmd_skip hx hd]; exact h.row.same (hb.block _ h.row.lt)⟩
theorem NamB.new {T : Nat} {cs : List CallV} {w0 : World} {B : Nat} {l : List EvR} {j : Nat} {wr w' : World} {x : EvR} (h : NamB T cs w0 B l j wr) (hx : l[j]? = some x) (hd : spDone cs x = true) (hv : x.ans.val < T) (hb : Below wr.heap.size wr w') : NamB T cs w0 B l (j + 1) (w'.setCell ⟨B, x.ans.val, none⟩ (.bool true)) :=
  ⟨(h.below.trans (hb.mono h.below.size)).setCell h.base _, h.base, by rw [nmd_new hx hd, ← prVs_put hv]; exact (h.row.same (hb.block _ h.row.lt)).put _ _⟩
theorem NamB.grow {T : Nat} {cs : List CallV} {w0 : World} {B : Nat} {l : List EvR} {j : Nat} {wr w' : World} (h : NamB T cs w0 B l j wr) (hb : Below wr.heap.size wr w') : NamB T cs w0 B l j w' :=
  ⟨h.below.trans (hb.mono h.below.size), h.base, h.row.same (hb.block _ h.row.lt)⟩
theorem tri_facts (k : Nat) (hk : k ≤ 16) : ∃ T : Nat, tri k = T ∧ T ≤ 136 ∧ IntKind.i64.wrap ((k : Int) + 1) = (k : Int) + 1 ∧ (k : Int) * ((k : Int) + 1) = 2 * (T : Int) ∧ IntKind.i64.wrap (2 * (T : Int)) = 2 * (T : Int) ∧ (2 * (T : Int)).tdiv 2 = (T : Int) ∧ (2 * (T : Int)) / 2 = (T : Int) ∧ IntKind.i64.wrap (T : Int) = (T : Int) ∧ IntKind.u64.wrap (T : Int) = (T : Int) := by
  have hm := tri_mul k
  have ht : tri k ≤ 136 := by
    have h1 := tri_mono hk
    have h2 : tri 16 = 136 := by decide
    omega
  generalize tri k = t at hm ht
  refine ⟨t, rfl, ht, ?_, ?_, ?_, ?_, ?_, ?_, ?_⟩
  · unfold IntKind.wrap; simp [IntKind.bits, IntKind.signed]; omega
  · have h3 : ((k * (k + 1) : Nat) : Int) = ((2 * t : Nat) : Int) := by rw [hm]
    rw [Int.natCast_mul, Int.natCast_mul, Int.natCast_add] at h3
    exact h3
  · unfold IntKind.wrap; simp [IntKind.bits, IntKind.signed]; omega
  · rw [Int.tdiv_eq_ediv_of_nonneg (by omega)]; omega
  · omega
  · unfold IntKind.wrap; simp [IntKind.bits, IntKind.signed]; omega
  · unfold IntKind.wrap; simp [IntKind.bits, IntKind.signed]; omega
set_option maxRecDepth 100000 in
set_option maxHeartbeats 16000000 in
theorem names_good (k : Nat) (ao : Option Addr) (b o cap : Nat) (cs : List CallV) (ao3 : Option Addr) (b3 o3 cap3 : Nat) (picks : List Int) (w : World) (hl : ¬ longB cs.length picks.length) (ha : 0 < cs.length → ao = some ⟨b, o, none⟩) (hb : 0 < cs.length → b < w.heap.size) (hc : CallsAt w b o cs) (hcap : ao = none → cap = 0)
    (ha3 : 0 < picks.length → ao3 = some ⟨b3, o3, none⟩) (hb3 : 0 < picks.length → b3 < w.heap.size) (hc3 : ICells w b3 o3 picks) (hnp : picks.length ≤ 9223372036854775807) (hcl : cs.length ≤ 9223372036854775807) (he : playErr (k : Int) cs picks.length 0 = 0) (hk : 1 ≤ k ∧ k ≤ 16)
    (R : RepR) (hR : repOf (endM (M := spM) cs (List.replicate (2 * tri (k : Int).toNat) 0) sp0 picks) = R) (hA : NamesOk k cs R.evs) (hth : ∀ x ∈ cs, 0 ≤ x.t ∧ x.t < (k : Int)) (hcf : R.cn.f = 0) (hel : R.evs.length ≤ 70000) :
    Calls Try.prog 3 #[.int .i64 (k : Int), .slice ao cs.length cap, .slice ao3 picks.length cap3] w fun e w' => e = .returned (.bool true) ∧ Below w.heap.size w w' := by
  have HP := Lib.hid (sp_play (k : Int) ao b o cap cs ao3 b3 o3 cap3 picks w ha hb hc hcap ha3 hb3 hc3 hnp)
  have HE := Lib.hid he
  have HL := Lib.hid hl
  have HA := Lib.hid ha
  have HB := Lib.hid hb
  have HC := Lib.hid hc
  have HAG := Lib.hid hA
  have HRR := Lib.hid hR
  have HTH := Lib.hid hth
  have HCF := Lib.hid hcf
  have k1 : ¬ (k : Int) < 1 := by omega
  have k2 : ¬ (16 : Int) < (k : Int) := by omega
  clear ha hb hc hcap ha3 hb3 hc3 he hl hA hR hth hcf
  go_enter Try.func3, Try.ntmps3
  go_wp2_with fail
  refine (many_no _ _ _ _ _ _ _ hnp HL.out).mono ?_
  rintro e w1 ⟨rfl, rfl⟩
  go_wp2_with fail
  refine HP.out.mono ?_
  rintro e w2 hP
  have hG := hP.good HE.out
  rw [HRR.out] at hG
  obtain ⟨aoE, gE, capE, gw, rfl, hao, hev, hrw, hgw, hb2⟩ := hG
  have HAO := Lib.hid hao
  have z2 := hb2.size
  have HEV : Hid (EvAllG w.heap.size (w2.alloc (.cells (repVs (.slice aoE R.evs.length capE) gw R).toArray 31)) gE R.evs) := Lib.hid (hev.below ((Below.refl _ _).alloc (Nat.le_refl _) _) (Nat.le_refl _))
  have HRE : Hid (RowBlk 31 (w2.alloc (.cells (repVs (.slice aoE R.evs.length capE) gw R).toArray 31)) w2.heap.size (repVs (.slice aoE R.evs.length capE) gw R)) := Lib.hid (RowBlk.new _ _ _)
  have HB3 : Hid (Below w.heap.size w (w2.alloc (.cells (repVs (.slice aoE R.evs.length capE) gw R).toArray 31))) := Lib.hid (hb2.alloc z2 _)
  clear hP hb2 hev hrw hao HP
  unfold repVs
  rw [show (repVs (.slice aoE R.evs.length capE) gw R).toArray = #[.slice aoE R.evs.length capE, .slice (some ⟨gw, 0, none⟩) R.ws.length R.ws.length, .int .i64 (R.cn.r : Int), .int .i64 (R.cn.w : Int), .int .i64 (R.cn.s : Int), .int .i64 (R.cn.a : Int), .int .i64 (R.cn.f : Int), .int .i64 (R.ticks : Int), .int .i64 (R.idle : Int)] from rfl] at HEV HRE HB3
  go_upto_region 8 with fail
  generalize w2.alloc (.cells #[.slice aoE R.evs.length capE, .slice (some ⟨gw, 0, none⟩) R.ws.length R.ws.length, .int .i64 (R.cn.r : Int), .int .i64 (R.cn.w : Int), .int .i64 (R.cn.s : Int), .int .i64 (R.cn.a : Int), .int .i64 (R.cn.f : Int), .int .i64 (R.ticks : Int), .int .i64 (R.idle : Int)] 31) = w0 at HEV HRE HB3 ⊢
  generalize Value.tuple #[.agg #[.slice aoE R.evs.length capE, .slice (some ⟨gw, 0, none⟩) R.ws.length R.ws.length, .int .i64 (R.cn.r : Int), .int .i64 (R.cn.w : Int), .int .i64 (R.cn.s : Int), .int .i64 (R.cn.a : Int), .int .i64 (R.cn.f : Int), .int .i64 (R.ticks : Int), .int .i64 (R.idle : Int)], .int .i64 0] = V1
  generalize (.agg #[.slice aoE R.evs.length capE, .slice (some ⟨gw, 0, none⟩) R.ws.length R.ws.length, .int .i64 (R.cn.r : Int), .int .i64 (R.cn.w : Int), .int .i64 (R.cn.s : Int), .int .i64 (R.cn.a : Int), .int .i64 (R.cn.f : Int), .int .i64 (R.ticks : Int), .int .i64 (R.idle : Int)] : Value) = V2
  have HCALL : Hid (∀ W, Below w0.heap.size w0 W → CallsAt W b o cs) := Lib.hid (fun W hW => HC.out.stays (HB3.out.trans (hW.mono HB3.out.size)) HB.out)
  obtain ⟨w1, hw1⟩ : ∃ w1, w0.alloc (.cells (boolVs (List.replicate k false)).toArray 4) = w1 := ⟨_, rfl⟩
  obtain ⟨B1, hB1⟩ : ∃ B1, w0.heap.size = B1 := ⟨_, rfl⟩
  have HS0 : Hid (NamA k cs w0 B1 R.evs 0 0 w1) := Lib.hid ⟨by rw [← hw1]; exact (Below.refl _ _).alloc (Nat.le_refl _) _, by omega, by rw [← hw1, ← hB1]; have h := RowBlk.new w0 (boolVs (List.replicate k false)) 4; rw [prVs_first] at h; rw [prVs_first]; exact h, by unfold begunN bgn; simp⟩
  have HW1 := Lib.hid hw1
  have HB1 := Lib.hid hB1
  have hmk := run_mkB k (by omega)
  have r0 : w0.cell? ⟨w2.heap.size, 0, none⟩ = some (.slice aoE R.evs.length capE) := HRE.out.cell rfl
  have l0 : w2.heap.size < w0.heap.size := HRE.out.lt
  have n0 : w2.heap.size ≠ w0.heap.size := by omega
  clear hw1 hB1
  go_wp2_with fail
  clear hmk r0 l0 n0
  rw [HW1.out, HB1.out]
  go_loopw [10, 47] (fun bv kv wr => ∃ (j m : Nat), j ≤ R.evs.length ∧ kv = .int .i64 j ∧ bv = .int .i64 m ∧ Hid (NamA k cs w0 B1 R.evs j m wr)) (fun _ kv _ => R.evs.length - (intOf kv).toNat)
  case atStart => exact ⟨0, 0, Nat.zero_le _, rfl, rfl, HS0⟩
  case round =>
    obtain ⟨j, m, hj, rfl, rfl, hS⟩ := hrel
    have hBr := hS.out.below
    have z0 := hBr.size
    have hm16 : m ≤ 16 := by have h1 := hS.out.cnt; have h2 := begunN_le k cs (R.evs.take j); omega
    have hm0 : (0 : Int) ≤ (m : Int) := by omega
    by_cases hlt : j < R.evs.length
    · obtain rfl := HAO.out (by omega)
      obtain ⟨x, hx⟩ : ∃ x, R.evs[j]? = some x := ⟨R.evs[j], List.getElem?_eq_getElem (by omega)⟩
      have hxm := List.mem_of_getElem? hx
      have hb1 := HAG.out.call x hxm
      obtain ⟨y, hy⟩ : ∃ y, cs[x.i]? = some y := ⟨cs[x.i], List.getElem?_eq_getElem hb1⟩
      obtain ⟨ht0, ht1⟩ := HTH.out y (List.mem_of_getElem? hy)
      obtain ⟨t, ht⟩ : ∃ t : Nat, y.t = (t : Int) := ⟨y.t.toNat, by omega⟩
      obtain rfl := HA.out (by omega)
      have HX := Lib.hid hx
      have HY := Lib.hid hy
      have HXM := Lib.hid hxm
      have HTE := Lib.hid ht
      obtain ⟨hgB, la, ka, lc, kc, hv⟩ := (HEV.out.below hBr (Nat.le_refl _)) j x hx
      have v0 := hv.c0
      have v1 := hv.c1
      have v2 := hv.c2
      have v3 := hv.c3
      have v4 := hv.c4
      have v5 := hv.c5
      have v6 := hv.c6
      have v7 := hv.c7
      have r0 : wr.cell? ⟨w2.heap.size, 0, none⟩ = some (.slice (some ⟨gE, 0, none⟩) R.evs.length capE) := (HRE.out.same (hBr.block _ HRE.out.lt)).cell rfl
      obtain ⟨c0, c1, c2, c3, c4, c5, _⟩ := HCALL.out wr hBr x.i y hy
      rw [ht] at c0
      have hi0 : (0 : Int) ≤ (j : Int) := Int.natCast_nonneg _
      have hi1 : (j : Int) < (R.evs.length : Int) := by omega
      have kk0 : (0 : Int) ≤ (x.i : Int) := Int.natCast_nonneg _
      have kk1 : (x.i : Int) < (cs.length : Int) := by omega
      have kk2 : ¬ (x.i : Int) < 0 := by omega
      have kk3 : ¬ (cs.length : Int) ≤ (x.i : Int) := by omega
      have tt0 : (0 : Int) ≤ (t : Int) := Int.natCast_nonneg _
      have tt1 : (t : Int) < (k : Int) := by omega
      have tt2 : ¬ (t : Int) < 0 := by omega
      have tt3 : ¬ (k : Int) ≤ (t : Int) := by omega
      have htk : t < k := by omega
      have m1 : gE < wr.heap.size := World.block_lt_of_cell? wr ⟨gE, j * 8, none⟩ v0
      have m2 : b < wr.heap.size := World.block_lt_of_cell? wr ⟨b, o + x.i * 6, none⟩ c0
      have m3 : w2.heap.size < wr.heap.size := Nat.lt_of_lt_of_le HRE.out.lt z0
      have nb : b ≠ wr.heap.size := by omega
      have ng : w2.heap.size ≠ wr.heap.size := by omega
      have lB := hS.out.row.lt
      have nB : B1 ≠ wr.heap.size := by omega
      have HW2 : Hid (Below wr.heap.size wr ((wr.alloc (.cells #[.int .i64 (x.i : Int), .int .i64 (x.inv : Int), .int .i64 (x.resp : Int), .int .i64 (x.steps : Int), .int .i64 (x.ans.err : Int), .int .u64 (x.ans.val : Int), .slice la x.ans.list.length lc, .slice ka x.key.length kc] 41)).alloc (.cells #[.int .i64 (t : Int), .int .i64 y.o, .int .i64 y.k, .int .u64 (y.a : Int), .int .u64 (y.b : Int), .int .u64 (y.c : Int)] 43))) := Lib.hid (((Below.refl _ _).alloc (Nat.le_refl _) _).alloc (by simp) _)
      have HW3 : Hid (∀ v, Below (wr.setCell ⟨B1, t, none⟩ v).heap.size (wr.setCell ⟨B1, t, none⟩ v) (((wr.setCell ⟨B1, t, none⟩ v).alloc (.cells #[.int .i64 (x.i : Int), .int .i64 (x.inv : Int), .int .i64 (x.resp : Int), .int .i64 (x.steps : Int), .int .i64 (x.ans.err : Int), .int .u64 (x.ans.val : Int), .slice la x.ans.list.length lc, .slice ka x.key.length kc] 41)).alloc (.cells #[.int .i64 (t : Int), .int .i64 y.o, .int .i64 y.k, .int .u64 (y.a : Int), .int .u64 (y.b : Int), .int .u64 (y.c : Int)] 43))) := Lib.hid (fun v => ((Below.refl _ _).alloc (Nat.le_refl _) _).alloc (by simp) _)
      have q0 : wr.cell? ⟨B1, t, none⟩ = some (.bool (bgn cs (R.evs.take j) t)) := hS.out.row.cell (prVs_get htk)
      have fz : wr.frozen? ⟨B1, t, none⟩ = false := hS.out.row.free
      by_cases p1 : y.o = 0
      · by_cases p2 : y.k = 0
        · obtain ⟨bg, hbg⟩ : ∃ bg, bgn cs (R.evs.take j) t = bg := ⟨_, rfl⟩
          rw [hbg] at q0
          cases bg with
          | true =>
            have HN := Lib.hid (hS.out.same (bgn_old HX.out HY.out p1 p2 HTE.out hbg) HW2.out)
            rw [p1] at c1 HN
            rw [p2] at c2 HN
            clear hv hx hy hxm hb1 ht hbg p1 p2
            go_wp2_with fail
            go_roundw
            case rel => exact ⟨j + 1, m, by omega, by go_num, rfl, HN⟩
            case measure => simp [intOf]; omega
          | false =>
            have HN := Lib.hid ((hS.out.new (bgn_new HX.out HY.out p1 p2 HTE.out) htk hbg (Below.refl _ _)).grow (HW3.out _))
            rw [p1] at c1 HN
            rw [p2] at c2 HN
            clear hv hx hy hxm hb1 ht hbg p1 p2
            go_wp2_with fail
            go_roundw
            case rel => exact ⟨j + 1, m + 1, by omega, by go_num, by go_num, HN⟩
            case measure => simp [intOf]; omega
        · have HN := Lib.hid (hS.out.same (bgn_skip HX.out HY.out (fun h => p2 h.2)) HW2.out)
          have p2b : (y.k == 0) = false := by rw [beq_eq_false_iff_ne]; exact p2
          have p2c : decide (y.k = 0) = false := decide_eq_false p2
          rw [p1] at c1 HN
          clear hv hx hy hxm hb1 ht p1
          go_wp2_with fail
          go_roundw
          case rel => exact ⟨j + 1, m, by omega, by go_num, rfl, HN⟩
          case measure => simp [intOf]; omega
      · have HN := Lib.hid (hS.out.same (bgn_skip HX.out HY.out (fun h => p1 h.1)) HW2.out)
        have p1b : (y.o == 0) = false := by rw [beq_eq_false_iff_ne]; exact p1
        have p1c : decide (y.o = 0) = false := decide_eq_false p1
        clear hv hx hy hxm hb1 ht
        go_wp2_with fail
        go_roundw
        case rel => exact ⟨j + 1, m, by omega, by go_num, rfl, HN⟩
        case measure => simp [intOf]; omega
    · have hjn : ¬ (j : Int) < (R.evs.length : Int) := by omega
      have hall : begunN k cs R.evs = m := by have h := hS.out.cnt; rw [List.take_of_length_le (by omega)] at h; exact h
      have HALL := Lib.hid hall
      have HB0 : Hid (Below w0.heap.size w0 wr) := Lib.hid hBr
      have r0 : wr.cell? ⟨w2.heap.size, 0, none⟩ = some (.slice aoE R.evs.length capE) := (HRE.out.same (hBr.block _ HRE.out.lt)).cell rfl
      have l0 : w2.heap.size < wr.heap.size := Nat.lt_of_lt_of_le HRE.out.lt z0
      have n0 : w2.heap.size ≠ wr.heap.size := by omega
      obtain ⟨T, hT, hT1, a1, a2, a3, a4, a5, a6, a7⟩ := tri_facts k (by omega)
      have HT := Lib.hid hT
      obtain ⟨w5, hw5⟩ : ∃ w5, wr.alloc (.cells (boolVs (List.replicate T false)).toArray 4) = w5 := ⟨_, rfl⟩
      obtain ⟨B2, hB2⟩ : ∃ B2, wr.heap.size = B2 := ⟨_, rfl⟩
      have HS1 : Hid (NamB T cs w0 B2 R.evs 0 w5) := Lib.hid ⟨by rw [← hw5]; exact hBr.alloc z0 _, by omega, by rw [← hw5, ← hB2]; have h := RowBlk.new wr (boolVs (List.replicate T false)) 4; rw [prVs_first] at h; rw [prVs_first]; exact h⟩
      have HW5 := Lib.hid hw5
      have HB2 := Lib.hid hB2
      have hmk := run_mkB T (by omega)
      clear hw5 hB2 hT hall hlt hS
      go_wp2_with fail
      clear hmk r0 l0 n0
      rw [HW5.out, HB2.out]
      clear HB0 HB2 HW5 hBr z0 a1 a2 a3 a4 a5 a6 a7
      go_loopw [111] (fun kv wr => ∃ (j : Nat), j ≤ R.evs.length ∧ kv = .int .i64 j ∧ Hid (NamB T cs w0 B2 R.evs j wr)) (fun kv _ => R.evs.length - (intOf kv).toNat)
      case atStart => exact ⟨0, Nat.zero_le _, rfl, HS1⟩
      case round =>
        obtain ⟨j, hj, rfl, hS⟩ := hrel
        have hBr := hS.out.below
        have z0 := hBr.size
        by_cases hlt : j < R.evs.length
        · obtain rfl := HAO.out (by omega)
          obtain ⟨x, hx⟩ : ∃ x, R.evs[j]? = some x := ⟨R.evs[j], List.getElem?_eq_getElem (by omega)⟩
          have hxm := List.mem_of_getElem? hx
          have hb1 := HAG.out.call x hxm
          obtain ⟨y, hy⟩ : ∃ y, cs[x.i]? = some y := ⟨cs[x.i], List.getElem?_eq_getElem hb1⟩
          obtain ⟨ht0, ht1⟩ := HTH.out y (List.mem_of_getElem? hy)
          obtain ⟨t, ht⟩ : ∃ t : Nat, y.t = (t : Int) := ⟨y.t.toNat, by omega⟩
          obtain rfl := HA.out (by omega)
          have HX := Lib.hid hx
          have HY := Lib.hid hy
          have HXM := Lib.hid hxm
          have HTE := Lib.hid ht
          obtain ⟨hgB, la, ka, lc, kc, hv⟩ := (HEV.out.below hBr (Nat.le_refl _)) j x hx
          have v0 := hv.c0
          have v1 := hv.c1
          have v2 := hv.c2
          have v3 := hv.c3
          have v4 := hv.c4
          have v5 := hv.c5
          have v6 := hv.c6
          have v7 := hv.c7
          have r0 : wr.cell? ⟨w2.heap.size, 0, none⟩ = some (.slice (some ⟨gE, 0, none⟩) R.evs.length capE) := (HRE.out.same (hBr.block _ HRE.out.lt)).cell rfl
          obtain ⟨c0, c1, c2, c3, c4, c5, _⟩ := HCALL.out wr hBr x.i y hy
          rw [ht] at c0
          have hi0 : (0 : Int) ≤ (j : Int) := Int.natCast_nonneg _
          have hi1 : (j : Int) < (R.evs.length : Int) := by omega
          have kk0 : (0 : Int) ≤ (x.i : Int) := Int.natCast_nonneg _
          have kk1 : (x.i : Int) < (cs.length : Int) := by omega
          have kk2 : ¬ (x.i : Int) < 0 := by omega
          have kk3 : ¬ (cs.length : Int) ≤ (x.i : Int) := by omega
          have tt0 : (0 : Int) ≤ (t : Int) := Int.natCast_nonneg _
          have tt1 : (t : Int) < (k : Int) := by omega
          have tt2 : ¬ (t : Int) < 0 := by omega
          have tt3 : ¬ (k : Int) ≤ (t : Int) := by omega
          have htk : t < k := by omega
          have m1 : gE < wr.heap.size := World.block_lt_of_cell? wr ⟨gE, j * 8, none⟩ v0
          have m2 : b < wr.heap.size := World.block_lt_of_cell? wr ⟨b, o + x.i * 6, none⟩ c0
          have m3 : w2.heap.size < wr.heap.size := Nat.lt_of_lt_of_le HRE.out.lt z0
          have nb : b ≠ wr.heap.size := by omega
          have ng : w2.heap.size ≠ wr.heap.size := by omega
          have lB := hS.out.row.lt
          have nB : B2 ≠ wr.heap.size := by omega
          have HW2 : Hid (Below wr.heap.size wr ((wr.alloc (.cells #[.int .i64 (x.i : Int), .int .i64 (x.inv : Int), .int .i64 (x.resp : Int), .int .i64 (x.steps : Int), .int .i64 (x.ans.err : Int), .int .u64 (x.ans.val : Int), .slice la x.ans.list.length lc, .slice ka x.key.length kc] 41)).alloc (.cells #[.int .i64 (t : Int), .int .i64 y.o, .int .i64 y.k, .int .u64 (y.a : Int), .int .u64 (y.b : Int), .int .u64 (y.c : Int)] 43))) := Lib.hid (((Below.refl _ _).alloc (Nat.le_refl _) _).alloc (by simp) _)
          have HW3 : Hid (∀ v, Below (wr.setCell ⟨B2, x.ans.val, none⟩ v).heap.size (wr.setCell ⟨B2, x.ans.val, none⟩ v) (((wr.setCell ⟨B2, x.ans.val, none⟩ v).alloc (.cells #[.int .i64 (x.i : Int), .int .i64 (x.inv : Int), .int .i64 (x.resp : Int), .int .i64 (x.steps : Int), .int .i64 (x.ans.err : Int), .int .u64 (x.ans.val : Int), .slice la x.ans.list.length lc, .slice ka x.key.length kc] 41)).alloc (.cells #[.int .i64 (t : Int), .int .i64 y.o, .int .i64 y.k, .int .u64 (y.a : Int), .int .u64 (y.b : Int), .int .u64 (y.c : Int)] 43))) := Lib.hid (fun v => ((Below.refl _ _).alloc (Nat.le_refl _) _).alloc (by simp) _)
          obtain ⟨T2, hT2, hT3, b1, b2, b3, b4, b5, b6, b7⟩ := tri_facts m (by omega)
          obtain ⟨mx, hmx⟩ : ∃ mx, max m 1 = mx := ⟨_, rfl⟩
          have hst : x.steps ≤ 4 * mx := by have h := HAG.out.steps x hxm; rw [HALL.out, hmx] at h; exact h
          have hmx1 : mx ≤ 16 := by omega
          have e1 : max (m : Int) 1 = (mx : Int) := by omega
          have e2 : ¬ (4 * (mx : Int) < (x.steps : Int)) := by omega
          have e3 : IntKind.i64.wrap (4 * (mx : Int)) = 4 * (mx : Int) := by unfold IntKind.wrap; simp [IntKind.bits, IntKind.signed]; omega
          clear hmx
          by_cases p1 : y.o = 0
          · by_cases p2 : y.k = 0
            · by_cases p3 : x.resp = 0
              · have hsd : spDone cs x = false := by rw [spDone_some HY.out]; exact decide_eq_false (fun h => h.2.2.1 p3)
                rw [p1] at c1 HW2
                rw [p2] at c2 HW2
                rw [p3] at v2 HW2
                clear p1 p2 p3
                have HN := Lib.hid (hS.out.same HX.out hsd HW2.out)
                clear hv hx hy hxm hb1 ht hsd
                go_wp2_with fail
                go_roundw
                case rel => exact ⟨j + 1, by omega, by go_num, HN⟩
                case measure => simp [intOf]; omega
              · have r1 : ¬ (x.resp : Int) = 0 := by omega
                have r2 : ((x.resp : Int) == 0) = false := by rw [beq_eq_false_iff_ne]; exact r1
                have r3 : decide ((x.resp : Int) = 0) = false := decide_eq_false r1
                by_cases p4 : x.ans.err = 0
                · have hsd : spDone cs x = true := by rw [spDone_some HY.out]; exact decide_eq_true ⟨p1, p2, p3, p4⟩
                  have hv0 : x.ans.val < tri (begunN k cs R.evs) := HAG.out.name x hxm hsd
                  rw [HALL.out, hT2] at hv0
                  have hv1 : x.ans.val < T := by have h1 := tri_mono (show m ≤ k by have h2 := begunN_le k cs R.evs; have h3 := HALL.out; omega); have h4 := HT.out; omega
                  have q0 : wr.cell? ⟨B2, x.ans.val, none⟩ = some (.bool false) := by
                    have h := hS.out.row.cell (prVs_get (f := nmd cs (R.evs.take j)) hv1)
                    rw [nmd_free HAG.out HX.out hsd] at h; exact h
                  have fz : wr.frozen? ⟨B2, x.ans.val, none⟩ = false := hS.out.row.free
                  have HN := Lib.hid ((hS.out.new HX.out hsd hv1 (Below.refl _ _)).grow (HW3.out _))
                  have g0 : ¬ (T2 : Int) ≤ (x.ans.val : Int) := by omega
                  have g1 : (0 : Int) ≤ (x.ans.val : Int) := by omega
                  have g2 : (x.ans.val : Int) < (T : Int) := by omega
                  have g3 : IntKind.i64.wrap (x.ans.val : Int) = (x.ans.val : Int) := by unfold IntKind.wrap; simp [IntKind.bits, IntKind.signed]; omega
                  rw [p1] at c1 HN
                  rw [p2] at c2 HN
                  rw [p4] at v4 HN
                  clear p1 p2 p3 p4 hv0 hT2
                  clear hv hx hy hxm hb1 ht hsd
                  go_wp2_with fail
                  go_roundw
                  case rel => exact ⟨j + 1, by omega, by go_num, HN⟩
                  case measure => simp [intOf]; omega
                · have hsd : spDone cs x = false := by rw [spDone_some HY.out]; exact decide_eq_false (fun h => p4 h.2.2.2)
                  have s1 : ¬ (x.ans.err : Int) = 0 := by omega
                  have s2 : ((x.ans.err : Int) == 0) = false := by rw [beq_eq_false_iff_ne]; exact s1
                  have s3 : ((x.ans.err : Int) != 0) = true := by rw [bne_iff_ne]; exact s1
                  rw [p1] at c1 HW2
                  rw [p2] at c2 HW2
                  clear p1 p2 p3 p4
                  have HN := Lib.hid (hS.out.same HX.out hsd HW2.out)
                  clear hv hx hy hxm hb1 ht hsd
                  go_wp2_with fail
                  go_roundw
                  case rel => exact ⟨j + 1, by omega, by go_num, HN⟩
                  case measure => simp [intOf]; omega
            · have hsd : spDone cs x = false := by rw [spDone_some HY.out]; exact decide_eq_false (fun h => p2 h.2.1)
              have p2b : (y.k == 0) = false := by rw [beq_eq_false_iff_ne]; exact p2
              have p2c : (y.k != 0) = true := by rw [bne_iff_ne]; exact p2
              rw [p1] at c1 HW2
              clear p1
              have HN := Lib.hid (hS.out.same HX.out hsd HW2.out)
              clear hv hx hy hxm hb1 ht hsd
              go_wp2_with fail
              go_roundw
              case rel => exact ⟨j + 1, by omega, by go_num, HN⟩
              case measure => simp [intOf]; omega
          · have hsd : spDone cs x = false := by rw [spDone_some HY.out]; exact decide_eq_false (fun h => p1 h.1)
            have p1b : (y.o == 0) = false := by rw [beq_eq_false_iff_ne]; exact p1
            have p1c : (y.o != 0) = true := by rw [bne_iff_ne]; exact p1
            have HN := Lib.hid (hS.out.same HX.out hsd HW2.out)
            clear hv hx hy hxm hb1 ht hsd
            go_wp2_with fail
            go_roundw
            case rel => exact ⟨j + 1, by omega, by go_num, HN⟩
            case measure => simp [intOf]; omega
        · have HB4 : Hid (Below w.heap.size w wr) := Lib.hid (HB3.out.trans (hBr.mono HB3.out.size))
          have hjn2 : ¬ (j : Int) < (R.evs.length : Int) := by omega
          have r6 : wr.cell? ⟨w2.heap.size, 6, none⟩ = some (.int .i64 0) := by
            have h := (HRE.out.same (hBr.block _ HRE.out.lt)).cell (i := 6) rfl
            rw [HCF.out] at h; exact h
          go_wp2_with fail
          refine (three_any _).mono ?_
          rintro e w4 ⟨rfl, hb4⟩
          have HB5 : Hid (Below w.heap.size w w4) := Lib.hid (HB4.out.trans (hb4.mono HB4.out.size))
          clear hb4
          go_wp2_with fail
          go_ret
          exact ⟨rfl, HB5.out⟩
theorem names_all (q0 : Int) (ao : Option Addr) (b o cap : Nat) (cs : List CallV) (ao3 : Option Addr) (b3 o3 cap3 : Nat) (picks : List Int) (w : World) (ha : 0 < cs.length → ao = some ⟨b, o, none⟩) (hb : 0 < cs.length → b < w.heap.size) (hc : CallsAt w b o cs) (hcap : ao = none → cap = 0)
    (ha3 : 0 < picks.length → ao3 = some ⟨b3, o3, none⟩) (hb3 : 0 < picks.length → b3 < w.heap.size) (hc3 : ICells w b3 o3 picks) (hnp : picks.length ≤ 9223372036854775807) (hcl : cs.length ≤ 9223372036854775807) :
    Calls Try.prog 3 #[.int .i64 q0, .slice ao cs.length cap, .slice ao3 picks.length cap3] w fun e w' => e = .returned (.bool true) ∧ Below w.heap.size w w' := by
  by_cases hl : longB cs.length picks.length
  · exact names_long q0 ao ao3 cs.length cap picks.length cap3 w hnp hl
  · by_cases he : playErr q0 cs picks.length 0 = 0
    · obtain ⟨k, rfl, hk1, hth, hpl, _, _⟩ := play_threads he
      have hF := spF_end (n := k) (cs := cs) hth picks
      have hR := rowI_end (M := spM) cs (List.replicate (2 * tri k) 0) sp0 picks
      have hC := endM_cn (M := spM) cs (List.replicate (2 * tri k) 0) sp0 picks
      have hevs := endM_evs (M := spM) cs (List.replicate (2 * tri k) 0) sp0 picks
      refine names_good k ao b o cap cs ao3 b3 o3 cap3 picks w hl ha hb hc hcap ha3 hb3 hc3 hnp hcl he hk1 _ rfl (sp_names hF hR) hth hC.2 ?_
      show ((endM (M := spM) cs (List.replicate (2 * tri k) 0) sp0 picks).evs.map _).length ≤ _
      rw [List.length_map]; omega
    · exact names_bad q0 ao b o cap cs ao3 b3 o3 cap3 picks w hl ha hb hc hcap ha3 hb3 hc3 hnp he
end Go.Proofs.Ytglpalomhhhmhaa
