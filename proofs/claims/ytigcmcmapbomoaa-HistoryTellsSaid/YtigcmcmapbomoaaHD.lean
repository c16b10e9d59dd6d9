/- history: Pending and Of. -/
import Derived.Test.YtigcmcmapbomoaaHC
namespace Go.Proofs.Ytigcmcmapbomoaa
open Go.RowKit Go.Shelf
set_option linter.unusedVariables false
set_option linter.unusedSimpArgs false
attribute [local go_sem] Oper.semAt_some

theorem owns_mono {w : World} {B B' : Nat} {e : TypeId} {s n : Nat} {v : Value} {xs : List Value} (h : w.ownsRow B e s v n xs) (hB : B' ≤ B) : w.ownsRow B' e s v n xs := by
  obtain ⟨h1, h2 | ⟨g, cap, cur, hv, hg, r⟩⟩ := h
  · exact ⟨h1, .inl h2⟩
  · exact ⟨h1, .inr ⟨g, cap, cur, hv, Nat.le_trans hB hg, r⟩⟩

theorem collect_ok (n : Nat) (hn : 5 ≤ n) (Bs Bh : Nat) (xs : List Nat) (Sp : List Nat → Prop) (N : Nat) (hN : N ≤ 100) (w : World)
    (hseq : SeqStopsK Fence.wide (n - 1 - 1) Try.prog 26 #[.pointer (some ⟨Bs, 0, none⟩), .pointer (some ⟨Bh, 0, none⟩)] (fun x : Nat => #[Value.int .i64 (x : Int)]) (Below w.heap.size) (fun ys => ys = xs) Sp N w) :
    CallsIn Fence.wide n Try.prog 19 #[.func (.func 26) #[] #[.pointer (some ⟨Bs, 0, none⟩), .pointer (some ⟨Bh, 0, none⟩)]] w fun e W' =>
      ∃ v, e = .returned v ∧ W'.ownsRow w.heap.size 3 1 v xs.length (ivs xs) ∧ Below w.heap.size w W' := by
  have HA := Lib.hid (appendSeq_ok (n - 1) (by omega) Bs Bh xs Sp N hN w hseq)
  clear hseq
  have h1 : 1 ≤ n := by omega
  have hfw : Fence.wide.fn 25 := trivial
  refine callsIn_of_wp Try.func19 rfl trivial ?_ rfl
  simp only [Try.ntmps19, List.size_toArray, List.length_cons, List.length_nil, Nat.reduceAdd, Nat.reduceSub, Array.replicate_succ, Array.replicate_zero, List.push_toArray, List.append_toArray, List.nil_append, List.cons_append]
  gi_wp2_with (gi_at_call 25; refine HA.out.mono ?_; rintro e w1 ⟨v, rfl, hv, hb⟩)
  go_ret
  exact ⟨v, rfl, hv, hb⟩

def pend (l : List EvL) : List Nat := sel (fun x => !done x) l l.length
def ofL (ts : List Int) (t : Int) (l : List EvL) : List Nat := sel (ofT ts t) l l.length

theorem two_boxesV (w : World) (v1 v2 : Value) (t1 t2 : TypeId) : ((w.alloc (.cells #[v1] t1)).alloc (.cells #[v2] t2)).cell? ⟨w.heap.size, 0, none⟩ = some v1 ∧ ((w.alloc (.cells #[v1] t1)).alloc (.cells #[v2] t2)).cell? ⟨w.heap.size + 1, 0, none⟩ = some v2 := by
  have e : (w.alloc (.cells #[v1] t1)).heap.size = w.heap.size + 1 := World.size_alloc _ _
  refine ⟨?_, cell_new0 _ _ _ e.symm⟩
  exact (((Below.refl (w.alloc (.cells #[v1] t1)).heap.size _).alloc (Nat.le_refl _) _).cell (by rw [e]; exact Nat.lt_succ_self _)).trans (cell_new0 _ _ _ rfl)

set_option maxHeartbeats 1000000 in
theorem pending_ok (ao : Option Addr) (b o c : Nat) (l : List EvL) (w : World) (hl : l.length ≤ 100) (ha : 0 < l.length → ao = some ⟨b, o, none⟩) (hb : 0 < l.length → b < w.heap.size) (hc : EvsAt w b o l) :
    Calls Try.prog 12 #[.slice ao l.length c] w fun e w' => ∃ v, e = .returned v ∧ w'.ownsRow w.heap.size 3 1 v (pend l).length (ivs (pend l)) ∧ Below w.heap.size w w' := by
  obtain ⟨w2, hw2⟩ : ∃ w2, w2 = (w.alloc (.cells #[.slice ao l.length c] 24)).alloc (.cells #[.func (.func 21) #[] #[]] 53) := ⟨_, rfl⟩
  have hcells := two_boxesV w (.slice ao l.length c) (.func (.func 21) #[] #[]) 24 53
  rw [← hw2] at hcells
  have hsz : w2.heap.size = w.heap.size + 1 + 1 := by rw [hw2, World.size_alloc, World.size_alloc]
  have hb2 : Below w.heap.size w w2 := by rw [hw2]; exact ((Below.refl _ _).alloc (Nat.le_refl _) _).alloc (by simp) _
  have hseq : SeqStopsK Fence.wide 7 Try.prog 26 #[.pointer (some ⟨w.heap.size, 0, none⟩), .pointer (some ⟨w.heap.size + 1, 0, none⟩)] (fun x : Nat => #[Value.int .i64 (x : Int)]) (Below w2.heap.size) (fun ys => ys = pend l)
      (fun pre => ∃ k, k ≤ l.length ∧ pre = sel (fun x => !done x) l k) l.length w2 := fun lp J Jx W hW hJ hJx hY h0 =>
    pnums_in 7 (by omega) lp w.heap.size (w.heap.size + 1) w2.heap.size b o c ao l (fun x => !done x) hl ha (fun h => by have := hb h; omega) W (by omega) (by omega) hW.size
      (fun i x W' _ _ => pend_ok x W') J Jx hJ hY ((hW.cell (by show w.heap.size < _; omega)).trans hcells.1) ((hW.cell (by show w.heap.size + 1 < _; omega)).trans hcells.2) ((hc.stays hb2 hb).stays hW (fun h => by have := hb h; omega)) h0
  have HC := Lib.hid (collect_ok 9 (by omega) _ _ _ _ _ hl w2 hseq)
  have HN := Lib.hid (numbers_ok 9 (.slice ao l.length c) (.func (.func 21) #[] #[]) 21 #[] ao l.length c rfl rfl w)
  rw [← hw2] at HN
  clear hseq hcells hw2 ha hb hc
  refine (callsIn_wide (n := 10)).1 ?_
  have hf1 : Fence.wide.fn 19 := trivial
  have hf2 : Fence.wide.fn 20 := trivial
  refine callsIn_of_wp Try.func12 rfl trivial ?_ rfl
  simp only [Try.ntmps12, List.size_toArray, List.length_cons, List.length_nil, Nat.reduceAdd, Nat.reduceSub, Array.replicate_succ, Array.replicate_zero, List.push_toArray, List.append_toArray, List.nil_append, List.cons_append]
  gi_wp2_with (first | (gi_at_call 20; refine HN.out.mono ?_; rintro e w3 ⟨rfl, rfl⟩) | (gi_at_call 19; refine HC.out.mono ?_; rintro e w1 ⟨v, rfl, hv, hb⟩))
  go_ret
  exact ⟨v, rfl, owns_mono hv (by omega), hb2.trans (hb.mono (by omega))⟩

set_option maxHeartbeats 1000000 in
theorem of_ok (aT : Option Addr) (bT oT cT : Nat) (ts : List Int) (ao : Option Addr) (b o c : Nat) (l : List EvL) (t : Int) (w : World) (htl : ts.length ≤ maxLen) (hta : 0 < ts.length → aT = some ⟨bT, oT, none⟩) (htb : 0 < ts.length → bT < w.heap.size) (htc : ThsAt w bT oT ts)
    (hl : l.length ≤ 100) (ha : 0 < l.length → ao = some ⟨b, o, none⟩) (hb : 0 < l.length → b < w.heap.size) (hc : EvsAt w b o l) :
    Calls Try.prog 13 #[.slice aT ts.length cT, .slice ao l.length c, .int .i64 t] w fun e w' => ∃ v, e = .returned v ∧ w'.ownsRow w.heap.size 3 1 v (ofL ts t l).length (ivs (ofL ts t l)) ∧ Below w.heap.size w w' := by
  obtain ⟨w1, hw1⟩ : ∃ w1, w1 = (w.alloc (.cells #[.slice aT ts.length cT] 23)).alloc (.cells #[.int .i64 t] 3) := ⟨_, rfl⟩
  have hcT := two_boxesV w (.slice aT ts.length cT) (.int .i64 t) 23 3
  rw [← hw1] at hcT
  have hsz1 : w1.heap.size = w.heap.size + 1 + 1 := by rw [hw1, World.size_alloc, World.size_alloc]
  have hb1 : Below w.heap.size w w1 := by rw [hw1]; exact ((Below.refl _ _).alloc (Nat.le_refl _) _).alloc (by simp) _
  obtain ⟨w2, hw2⟩ : ∃ w2, w2 = (w1.alloc (.cells #[.slice ao l.length c] 24)).alloc (.cells #[.func (.func 22) #[] #[.pointer (some ⟨w.heap.size, 0, none⟩), .pointer (some ⟨w.heap.size + 1, 0, none⟩)]] 53) := ⟨_, rfl⟩
  have hcells := two_boxesV w1 (.slice ao l.length c) (.func (.func 22) #[] #[.pointer (some ⟨w.heap.size, 0, none⟩), .pointer (some ⟨w.heap.size + 1, 0, none⟩)]) 24 53
  rw [← hw2] at hcells
  have hsz : w2.heap.size = w1.heap.size + 1 + 1 := by rw [hw2, World.size_alloc, World.size_alloc]
  have hb2 : Below w1.heap.size w1 w2 := by rw [hw2]; exact ((Below.refl _ _).alloc (Nat.le_refl _) _).alloc (by simp) _
  have hb12 : Below w.heap.size w w2 := hb1.trans (hb2.mono hb1.size)
  have hseq : SeqStopsK Fence.wide 7 Try.prog 26 #[.pointer (some ⟨w1.heap.size, 0, none⟩), .pointer (some ⟨w1.heap.size + 1, 0, none⟩)] (fun x : Nat => #[Value.int .i64 (x : Int)]) (Below w2.heap.size) (fun ys => ys = ofL ts t l)
      (fun pre => ∃ k, k ≤ l.length ∧ pre = sel (ofT ts t) l k) l.length w2 := fun lp J Jx W hW hJ hJx hY h0 =>
    have hW1 : Below w1.heap.size w1 W := hb2.trans (hW.mono hb2.size)
    have hW0 : Below w.heap.size w W := hb12.trans (hW.mono hb12.size)
    onums_in 7 (by omega) lp w1.heap.size (w1.heap.size + 1) w2.heap.size b o c ao l (ofT ts t) w.heap.size (w.heap.size + 1) hl ha (fun h => by have := hb h; omega) W (by omega) (by omega) hW.size
      (fun i x W' hx hb' => of1_ok x w.heap.size (w.heap.size + 1) aT bT oT cT ts t W' htl hta (fun h => by have := htb h; have := hb'.size; have := hW.size; omega)
        ((htc.stays hW0 htb).stays hb' (fun h => by have := htb h; omega)) ((hc.stays hb12 hb) i x hx).2
        ((hb'.cell (by show w.heap.size < _; omega)).trans ((hW1.cell (by show w.heap.size < _; omega)).trans hcT.1)) ((hb'.cell (by show w.heap.size + 1 < _; omega)).trans ((hW1.cell (by show w.heap.size + 1 < _; omega)).trans hcT.2)))
      J Jx hJ hY ((hW.cell (by show w1.heap.size < _; omega)).trans hcells.1) ((hW.cell (by show w1.heap.size + 1 < _; omega)).trans hcells.2) ((hc.stays hb12 hb).stays hW (fun h => by have := hb h; omega)) h0
  have HC := Lib.hid (collect_ok 9 (by omega) _ _ _ _ _ hl w2 hseq)
  have HN := Lib.hid (numbers_ok 9 (.slice ao l.length c) (.func (.func 22) #[] #[.pointer (some ⟨w.heap.size, 0, none⟩), .pointer (some ⟨w.heap.size + 1, 0, none⟩)]) 22 _ ao l.length c rfl rfl w1)
  rw [← hw2] at HN
  clear hseq hcells hw2 hcT ha hb hc hta htb htc
  have HW := Lib.hid hw1
  have HZ : Hid (w.heap.size ≤ w2.heap.size) := Lib.hid (by omega)
  clear hw1 hsz hsz1
  refine (callsIn_wide (n := 10)).1 ?_
  have hf1 : Fence.wide.fn 19 := trivial
  have hf2 : Fence.wide.fn 20 := trivial
  refine callsIn_of_wp Try.func13 rfl trivial ?_ rfl
  simp only [Try.ntmps13, List.size_toArray, List.length_cons, List.length_nil, Nat.reduceAdd, Nat.reduceSub, Array.replicate_succ, Array.replicate_zero, List.push_toArray, List.append_toArray, List.nil_append, List.cons_append]
  gi_wp2_with (first | (gi_at_call 20; (rw [← HW.out]); refine HN.out.mono ?_; rintro e w3 ⟨rfl, rfl⟩) | (gi_at_call 19; refine HC.out.mono ?_; rintro e w1 ⟨v, rfl, hv, hb⟩))
  go_ret
  exact ⟨v, rfl, owns_mono hv HZ.out, hb12.trans (hb.mono HZ.out)⟩
end Go.Proofs.Ytigcmcmapbomoaa
