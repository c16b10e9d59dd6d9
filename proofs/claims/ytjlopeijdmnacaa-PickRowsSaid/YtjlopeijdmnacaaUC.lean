/- Walk of the law PickRows. -/
import Derived.Test.YtjlopeijdmnacaaUB
namespace Go.Proofs.Ytjlopeijdmnacaa
open Go.RowKit

/-- the last turns, thread by thread -/
def lastVs (f : Int → Nat) : List Value := (List.range 16).map fun k : Nat => Value.int .i64 ((f (k : Int) : Nat) : Int)
def z16 : List Value := lastVs (fun _ => 0)
theorem lastVs_get (f : Int → Nat) {k : Nat} (hk : k < 16) : (lastVs f)[k]? = some (.int .i64 ((f (k : Int) : Nat) : Int)) := by
  unfold lastVs; rw [List.getElem?_map, List.getElem?_range hk]; rfl
theorem lastVs_set (f : Int → Nat) {k : Nat} (hk : k < 16) (i : Nat) : (lastVs f).set k (.int .i64 (i : Int)) = lastVs (updF f (k : Int) i) := by
  apply List.ext_getElem?
  intro m
  rw [List.getElem?_set]
  by_cases hm : m < 16
  · by_cases he : k = m
    · subst he
      rw [if_pos rfl, if_pos (by unfold lastVs; simpa using hk), lastVs_get _ hm, updF_same]
    · rw [if_neg he, lastVs_get _ hm, lastVs_get _ hm, updF_other _ _ (by omega)]
  · rw [if_neg (by omega)]
    unfold lastVs
    rw [List.getElem?_eq_none (by simp; omega), List.getElem?_eq_none (by simp; omega)]

set_option maxRecDepth 100000 in
theorem prows_long (n : Int) (a1 a2 a3 : Option Addr) (l1 c1 l2 c2 l3 c3 : Nat) (w : World) (h : 300 < l1 ∨ 300 < l2 ∨ 1000 < l3) :
    Calls Try.prog 5 #[.int .i64 n, .slice a1 l1 c1, .agg #[.slice a2 l2 c2, .slice a3 l3 c3]] w fun e w' => e = .returned (.bool true) ∧ Below w.heap.size w w' := by
  have hb0 : Below w.heap.size w (w.alloc (.cells #[.slice a2 l2 c2, .slice a3 l3 c3] 37)) := (Below.refl _ _).alloc (Nat.le_refl _) _
  go_enter Try.func5, Try.ntmps5
  by_cases h1 : 300 < l1
  · go_wp2_with fail
    refine (pair_any _).mono ?_
    rintro e w1 ⟨rfl, hb⟩
    go_wp2_with fail
    go_ret
    exact ⟨rfl, hb0.trans (hb.mono hb0.size)⟩
  · by_cases h2 : 300 < l2
    · go_wp2_with fail
      refine (pair_any _).mono ?_
      rintro e w1 ⟨rfl, hb⟩
      go_wp2_with fail
      go_ret
      exact ⟨rfl, hb0.trans (hb.mono hb0.size)⟩
    · have h3 : 1000 < l3 := by omega
      go_wp2_with fail
      refine (pair_any _).mono ?_
      rintro e w1 ⟨rfl, hb⟩
      go_wp2_with fail
      go_ret
      exact ⟨rfl, hb0.trans (hb.mono hb0.size)⟩

set_option maxRecDepth 100000 in
set_option maxHeartbeats 4000000 in
theorem prows_walk (n : Int) (ao : Option Addr) (b o cap : Nat) (cs : List CallV) (ao2 : Option Addr) (b2 o2 cap2 : Nat) (need : List Int) (ao3 : Option Addr) (b3 o3 cap3 : Nat) (ps : List Int) (w : World)
    (hcl : cs.length ≤ 300) (hnl : need.length ≤ 300) (hpl : ps.length ≤ 1000)
    (ha : 0 < cs.length → ao = some ⟨b, o, none⟩) (hb : 0 < cs.length → b < w.heap.size) (hc : CallsAt w b o cs)
    (ha2 : 0 < need.length → ao2 = some ⟨b2, o2, none⟩) (hb2 : 0 < need.length → b2 < w.heap.size) (hc2 : ICells w b2 o2 need)
    (ha3 : 0 < ps.length → ao3 = some ⟨b3, o3, none⟩) (hb3 : 0 < ps.length → b3 < w.heap.size) (hc3 : ICells w b3 o3 ps) :
    Calls Try.prog 5 #[.int .i64 n, .slice ao cs.length cap, .agg #[.slice ao2 need.length cap2, .slice ao3 ps.length cap3]] w fun e w' => e = .returned (.bool true) ∧ Below w.heap.size w w' := by
  have hb0 : Below w.heap.size w (w.alloc (.cells #[.slice ao2 need.length cap2, .slice ao3 ps.length cap3] 37)) := (Below.refl _ _).alloc (Nat.le_refl _) _
  have k0 : (w.alloc (.cells #[.slice ao2 need.length cap2, .slice ao3 ps.length cap3] 37)).cell? ⟨w.heap.size, 0, none⟩ = some (.slice ao2 need.length cap2) := by rw [World.cell?_alloc_at _ _ _ _ rfl]; rfl
  have k1 : (w.alloc (.cells #[.slice ao2 need.length cap2, .slice ao3 ps.length cap3] 37)).cell? ⟨w.heap.size, 1, none⟩ = some (.slice ao3 ps.length cap3) := by rw [World.cell?_alloc_at _ _ _ _ rfl]; rfl
  have hs0 : w.heap.size < (w.alloc (.cells #[.slice ao2 need.length cap2, .slice ao3 ps.length cap3] 37)).heap.size := by simp
  have HTN := Lib.hid (turns_any n ao b o cap cs ao2 b2 o2 cap2 need ao3 b3 o3 cap3 ps (w.alloc (.cells #[.slice ao2 need.length cap2, .slice ao3 ps.length cap3] 37)) ha (fun h => by have := hb h; omega) (hc.stays hb0 hb)
    ha2 (fun h => by have := hb2 h; omega) (hc2.stays hb0 hb2) (by omega) ha3 (fun h => by have := hb3 h; omega) (hc3.stays hb0 hb3))
  have HA := Lib.hid ha
  have HB := Lib.hid hb
  have HC := Lib.hid hc
  have HB0 := Lib.hid hb0
  clear hc ha hb hc2 ha2 hb2 ha3 hb3 hc3 hb0
  have hmk : ∀ w : World, (Instr.makeSlice 23 (.int .i64 16) (.int .i64 16)).run Try.prog w = .ok (.slice (some ⟨w.heap.size, 0, none⟩) 16 16) (w.alloc (.cells z16.toArray 3)) := fun w => run_mkI 16 (by omega) w
  go_enter Try.func5, Try.ntmps5
  go_wp2_with fail
  generalize w.alloc (.cells #[.slice ao2 need.length cap2, .slice ao3 ps.length cap3] 37) = w0 at HTN HB0 k0 k1 hs0 ⊢
  refine HTN.out.mono ?_
  rintro e w1 ⟨hw, _, hok, hb1⟩
  have HB1 := Lib.hid (HB0.out.trans (hb1.mono (by omega)))
  have hs1 := hb1.size
  have q0 : w1.cell? ⟨w.heap.size, 0, none⟩ = some (.slice ao2 need.length cap2) := (hb1.cell (p := ⟨w.heap.size, 0, none⟩) hs0).trans k0
  have q1 : w1.cell? ⟨w.heap.size, 1, none⟩ = some (.slice ao3 ps.length cap3) := (hb1.cell (p := ⟨w.heap.size, 1, none⟩) hs0).trans k1
  clear hb1 k0 k1 HTN
  by_cases h0 : wrongL n (thr cs) = 0
  · obtain ⟨v, rfl, hown⟩ := hok h0 (by omega)
    obtain ⟨ao4, g, cap4, rfl, hao, hg, hgc⟩ := own_cells hown
    have hlen := turnsGo_len (thr cs) need ps (fin0 cs.length) (made0 cs.length)
    have hlen2 : (turnsOf cs need ps).1.length + (turnsOf cs need ps).2 = ps.length := hlen
    have HRW : Hid (rowsGo (thr cs) (turnsOf cs need ps).1 (fun _ => 0)) := Lib.hid (rows_turns _ _ _ _ _ _ (fun _ _ _ => Nat.zero_le _))
    have HI := Lib.hid (wrongL_inv h0)
    have hn16 := (wrongL_inv h0).1.2
    have HG := Lib.hid hgc
    have HAO := Lib.hid hao
    have HGG := Lib.hid hg
    clear hw hok h0 hown hgc hao hg hlen
    generalize hT : (turnsOf cs need ps).1 = T at HG HAO HGG HRW hlen2 ⊢
    generalize (turnsOf cs need ps).2 = T2 at *
    clear hT
    go_wp2_with fail
    have HK : Hid (RowBlk 3 (w1.alloc (.cells z16.toArray 3)) w1.heap.size (lastVs (fun _ => 0))) := Lib.hid (RowBlk.new _ _ _)
    have HB2 : Hid (Below w.heap.size w (w1.alloc (.cells z16.toArray 3))) := Lib.hid (HB1.out.alloc (by omega) _)
    have HG2 : Hid (Below w1.heap.size w1 (w1.alloc (.cells z16.toArray 3))) := Lib.hid ((Below.refl _ _).alloc (Nat.le_refl _) _)
    have hsl : w.heap.size < w1.heap.size := by omega
    generalize w1.alloc (.cells z16.toArray 3) = w2 at HK HB2 HG2 ⊢
    generalize hgl : w1.heap.size = gl at HK HG2 HGG hsl ⊢
    go_loopw [51] (fun k wr => ∃ (j : Nat) (last : Int → Nat), j ≤ T.length ∧ k = .int .i64 j ∧ Hid (rowsGo (thr cs) (T.drop j) last) ∧ Hid (RowBlk 3 wr gl (lastVs last)) ∧ Hid (Below gl w1 wr) ∧ Hid (Below w.heap.size w wr)) (fun k _ => T.length - (intOf k).toNat)
    case atStart => exact ⟨0, fun _ => 0, Nat.zero_le _, rfl, HRW, HK, HG2, HB2⟩
    case round =>
      obtain ⟨j, last, hj, rfl, hR, hK, hG, hB⟩ := hrel
      by_cases hlt : j < T.length
      · obtain rfl := HAO.out (by omega)
        obtain ⟨x, hx⟩ : ∃ x, T[j]? = some x := ⟨T[j], List.getElem?_eq_getElem (by omega)⟩
        have g1 : wr.cell? ⟨g, j, none⟩ = some (.int .i64 (x : Int)) := (hG.out.cell (p := ⟨g, j, none⟩) (HGG.out (by omega)).2).trans (HG.out j x hx)
        have hrow := hR.out
        have hdc : T.drop j = x :: T.drop (j + 1) := by
          have hl := (List.getElem?_eq_some_iff.1 hx).1
          rw [List.drop_eq_getElem_cons hl]
          rw [List.getElem?_eq_getElem hl, Option.some.injEq] at hx
          rw [hx]
        rw [hdc] at hrow
        obtain ⟨t, ht, hle, hrest⟩ := hrow
        have htm := HI.out.2.2 t (List.mem_of_getElem? ht)
        obtain ⟨k, rfl⟩ : ∃ k : Nat, t = (k : Int) := ⟨t.toNat, by omega⟩
        obtain ⟨y, hy⟩ : ∃ y, cs[x]? = some y := by
          have := (List.getElem?_eq_some_iff.1 ht).1
          rw [thr_len] at this
          exact ⟨cs[x], List.getElem?_eq_getElem this⟩
        have hyt : y.t = (k : Int) := by
          have := thr_get hy
          rw [ht] at this
          exact (Option.some.inj this).symm
        have hxl : x < cs.length := (List.getElem?_eq_some_iff.1 hy).1
        obtain rfl := HA.out (by omega)
        obtain ⟨cc, _⟩ := (HC.out.stays hB.out HB.out) x y hy
        rw [hyt] at cc
        have hkl : k < 16 := by omega
        have g2 := hK.out.cell (lastVs_get last hkl)
        have f2 : wr.frozen? ⟨gl, k, none⟩ = false := hK.out.free
        have HR3 := Lib.hid hrest
        have HK3 : Hid (RowBlk 3 (wr.drewN 0) gl (lastVs last)) := hK
        have hi0 : (0 : Int) ≤ (j : Int) := Int.natCast_nonneg _
        have hi1 : (j : Int) < (T.length : Int) := by omega
        have hx0 : (0 : Int) ≤ (x : Int) := Int.natCast_nonneg _
        have hx1 : (x : Int) < (cs.length : Int) := by omega
        have hk0 : (0 : Int) ≤ (k : Int) := Int.natCast_nonneg _
        have hk1 : (k : Int) < 16 := by omega
        have d1 : decide ((k : Int) < 0) = false := by simp
        have d2 : decide (n ≤ (k : Int)) = false := by simp; omega
        have d3 : decide ((16 : Int) ≤ (k : Int)) = false := by simp; omega
        have d4 : decide ((x : Int) < ((last (k : Int) : Nat) : Int)) = false := by simp; omega
        clear hrest hdc hx hy hyt ht htm
        go_wp2_with fail
        go_quiet (fail)
        have HRx : Hid (RowBlk 3 ((wr.drewN nq).setCell ⟨gl, k, none⟩ (.int .i64 (x : Int))) gl (lastVs (updF last (k : Int) x))) := Lib.hid (by rw [← lastVs_set last hkl]; exact RowBlk.put (hK.out.drewN nq) k _)
        have HGx : Hid (Below gl w1 ((wr.drewN nq).setCell ⟨gl, k, none⟩ (.int .i64 (x : Int)))) := Lib.hid ((below_drewN hG.out nq).setCell (show gl ≤ (⟨gl, k, none⟩ : Addr).block from Nat.le_refl _) _)
        have HBx : Hid (Below w.heap.size w ((wr.drewN nq).setCell ⟨gl, k, none⟩ (.int .i64 (x : Int)))) := Lib.hid ((below_drewN hB.out nq).setCell (show w.heap.size ≤ (⟨gl, k, none⟩ : Addr).block from (by show w.heap.size ≤ gl; omega)) _)
        go_wp2
        go_roundw
        case rel => exact ⟨j + 1, _, by omega, by go_num, HR3, HRx, HGx, HBx⟩
        case measure => simp [intOf]; omega
      · have q3 : wr.cell? ⟨w.heap.size, 1, none⟩ = some (.slice ao3 ps.length cap3) := (hG.out.cell (p := ⟨w.heap.size, 1, none⟩) hsl).trans q1
        have hsum : ((T.length : Nat) : Int) + (T2 : Int) = (ps.length : Int) := by omega
        go_wp2_with fail
        refine (pair_any _).mono ?_
        rintro e w3 ⟨rfl, hb3⟩
        go_wp2_with fail
        go_ret
        exact ⟨rfl, hB.out.trans (hb3.mono hB.out.size)⟩
  · have hk := hw h0
    subst hk
    have hcase := wrongL_cases n (thr cs)
    clear hw hok
    rcases hcase with h1 | h1 | h1
    · exact absurd h1 h0
    all_goals
      rw [h1]
      clear h1 h0
      go_wp2_with fail
      refine (pair_any _).mono ?_
      rintro e w3 ⟨rfl, hb3⟩
      go_wp2_with fail
      go_ret
      exact ⟨rfl, HB1.out.trans (hb3.mono (by have := HB1.out.size; omega))⟩
end Go.Proofs.Ytjlopeijdmnacaa
