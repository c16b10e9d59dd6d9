/- Walks of tally: a row of ticks that grows. | Walks of tally: Invoke, and a count's steps. | Walks of tally: a read's steps, its key. -/
import Derived.Test.YtcedfcdhdgmelaaG8a
import Derived.Test.YtcedfcdhdgmelaaGZ3
import Derived.Test.YtcedfcdhdgmelaaGK
import Derived.Laws.CopyRow
import Derived.Deep.QuietTactic
import Derived.BigQuiet
namespace Go.Proofs.Ytcedfcdhdgmelaa
section
open Go.ChangeShapes Go.WideShapes Go.ChangeAt Go.RowKit
set_option linter.unusedVariables false
set_option linter.unusedSimpArgs false
theorem infoInt1 : (Try.prog.info? 3).map (·.size) = some 1 := by kernel_rfl
def placedVs (n : Nat) (room : Value) (used : Nat) : List Value := [.int .i64 (n : Int), .int .i64 0, room, .int .i64 (used : Int)]
theorem nums_append (a b : List Nat) : nums (a ++ b) = nums a ++ nums b := by unfold nums; rw [List.map_append]
theorem nums_zeros (n : Nat) : intVs (List.replicate n 0) = nums (List.replicate n 0) := by unfold intVs nums; rw [List.map_replicate, List.map_replicate]; rfl
/-- what grow leaves -/
def TalGrown (gp n : Nat) (s : List Nat) (w : World) (e : Ending) (w' : World) : Prop :=
  e = .returned (.tuple #[]) ∧ RowBlk 189 w' gp (placedVs n (.slice (some ⟨w.heap.size, 0, none⟩) (2 * s.length + 1) (2 * s.length + 1)) s.length) ∧ RowBlk 3 w' w.heap.size (nums (s ++ List.replicate (s.length + 1) 0)) ∧ ButS (fun k => k = gp) w w'
set_option maxRecDepth 100000 in
set_option maxHeartbeats 1000000 in
theorem tal_grow (gp n : Nat) (s : List Nat) (ao : Option Addr) (cap : Nat) (w : World) (hp : RowBlk 189 w gp (placedVs n (.slice ao s.length cap) s.length)) (hl : s.length ≤ 70000) (hao : 0 < s.length → ∃ gr, ao = some ⟨gr, 0, none⟩ ∧ RowBlk 3 w gr (nums s)) :
    Calls Try.prog 130 #[.pointer (some ⟨gp, 2, none⟩)] w (TalGrown gp n s w) := by
  obtain ⟨L, hL⟩ : ∃ L, s.length = L := ⟨_, rfl⟩
  unfold TalGrown
  rw [hL] at hp hl hao ⊢
  have c2 : w.cell? ⟨gp, 2, none⟩ = some (.slice ao L cap) := hp.cell rfl
  have c3 : w.cell? ⟨gp, 3, none⟩ = some (.int .i64 (L : Int)) := hp.cell rfl
  have HP := Lib.hid hp
  have HL := Lib.hid hL
  have hgl := hp.lt
  have hmk := run_mkI (2 * L + 1) (by omega) w
  have e1 : (((2 * L + 1 : Nat)) : Int) = 2 * (L : Int) + 1 := by omega
  rw [e1] at hmk
  -- what copy leaves
  have HCP : Hid (∀ ty, (Builtin.copy_ #[23, 23] ty #[.slice (some ⟨w.heap.size, 0, none⟩) (2 * L + 1) (2 * L + 1), .slice ao L cap]).run Try.prog (w.alloc (.cells (intVs (List.replicate (2 * L + 1) 0)).toArray 3)) = .ok (goInt L) ((w.alloc (.cells (intVs (List.replicate (2 * L + 1) 0)).toArray 3)).setRow w.heap.size (nums (s ++ List.replicate (L + 1) 0)).toArray)) := Lib.hid (fun ty => by
    have hnew : (w.alloc (.cells (intVs (List.replicate (2 * L + 1) 0)).toArray 3)).heap[w.heap.size]? = some (.cells (intVs (List.replicate (2 * L + 1) 0)).toArray 3 (0, 0)) := heap_alloc_new w _
    rcases Nat.eq_zero_or_pos L with hz | hz
    · subst hz
      have hs0 : s = [] := List.eq_nil_of_length_eq_zero hL
      subst hs0
      rw [run_copy_none _ _ _ ty 3 _ _ _ _ _ _ Try.underlying23 infoInt1 (by simp)]
      have e : (nums ([] ++ List.replicate (0 + 1) 0)).toArray = (intVs (List.replicate (2 * 0 + 1) 0)).toArray := rfl
      rw [e, setRow_self _ _ _ _ _ hnew]
      rfl
    · obtain ⟨gr, rfl, hr⟩ := hao hz
      have hrl := hr.lt
      rw [run_copy_row _ _ _ _ ty 3 w.heap.size 0 (2 * L + 1) (2 * L + 1) ⟨gr, 0, none⟩ L cap _ _ (nums s) Try.underlying23 infoInt1 hnew (by rw [nums_len, hL]; exact (Nat.min_eq_left (by omega)).symm) (fun j v hv => by
        have e2 : (⟨gr, 0, none⟩ : Addr).add j = ⟨gr, j, none⟩ := by rw [addr_add _ j gr 0 rfl, Nat.zero_add]
        rw [e2, World.cell?_alloc_past _ _ _ (by exact hrl)]
        exact hr.cell hv) (by rw [nums_len, intVs]; simp; omega) (fun v hv => by
          unfold nums at hv
          obtain ⟨x, _, rfl⟩ := List.mem_map.1 hv
          rfl)]
      have e3 : ((intVs (List.replicate (2 * L + 1) 0)).toArray.toList.take 0 ++ nums s ++ (intVs (List.replicate (2 * L + 1) 0)).toArray.toList.drop (0 + (nums s).length)).toArray = (nums (s ++ List.replicate (L + 1) 0)).toArray := by
        congr 1
        rw [nums_zeros, nums_append, nums_len, hL, Nat.zero_add]
        simp only [List.take_zero, List.nil_append]
        congr 1
        unfold nums
        rw [← List.map_drop, List.drop_replicate]
        congr 2
        omega
      rw [e3, nums_len, hL])
  have HX : Hid (RowBlk 3 ((w.alloc (.cells (intVs (List.replicate (2 * L + 1) 0)).toArray 3)).setRow w.heap.size (nums (s ++ List.replicate (L + 1) 0)).toArray) w.heap.size (nums (s ++ List.replicate (L + 1) 0)) ∧ RowBlk 189 ((w.alloc (.cells (intVs (List.replicate (2 * L + 1) 0)).toArray 3)).setRow w.heap.size (nums (s ++ List.replicate (L + 1) 0)).toArray) gp (placedVs n (.slice ao L cap) L) ∧ ButS (fun k => k = gp) w ((w.alloc (.cells (intVs (List.replicate (2 * L + 1) 0)).toArray 3)).setRow w.heap.size (nums (s ++ List.replicate (L + 1) 0)).toArray)) := Lib.hid (by
    refine ⟨setRow_heap _ _ _ _ _ _ (heap_alloc_new w _), (hp.alloc _).same (setRow_other _ _ _ _ (by omega)), ⟨rfl, rfl, rfl, by simp, fun k hk _ => (setRow_other _ _ _ _ (by omega)).trans (Below.heap_alloc _ _ _ hk)⟩⟩)
  clear hp hL hao
  go_enter Try.func130, Try.ntmps130
  have hcp := HCP.out
  obtain ⟨w2, hw2⟩ : ∃ w2, (w.alloc (.cells (intVs (List.replicate (2 * L + 1) 0)).toArray 3)).setRow w.heap.size (nums (s ++ List.replicate (L + 1) 0)).toArray = w2 := ⟨_, rfl⟩
  rw [hw2] at hcp HX
  clear hw2
  have d2 : w2.cell? ⟨gp, 2, none⟩ = some (.slice ao L cap) := HX.out.2.1.cell rfl
  have fz : w2.frozen? ⟨gp, 2, none⟩ = false := HX.out.2.1.free
  go_wp2_with fail
  first
    | go_end0
    | (refine bodyPost_ret (results_none rfl _ _ _) rfl ?_)
  exact ⟨rfl, HX.out.2.1.put 2 _, HX.out.1.other (by show w.heap.size ≠ gp; omega) _, HX.out.2.2.setCell (.inl rfl) _⟩
theorem nums_mid (s : List Nat) (m : Nat) {u : Nat} (h : s.length = u) : (nums (s ++ List.replicate (m + 1) 0))[u]? = some (.int .i64 0) := by
  unfold nums; rw [List.getElem?_map, List.getElem?_append_right (by omega), h, Nat.sub_self]; rfl
theorem nums_put (s : List Nat) (m t : Nat) {u : Nat} (h : s.length = u) : (nums (s ++ List.replicate (m + 1) 0)).set u (.int .i64 (t : Int)) = nums (addT s t ++ List.replicate m 0) := by
  unfold nums addT
  rw [← List.map_set (f := fun x : Nat => Value.int .i64 (x : Int)), List.set_append_right _ _ (by omega), h, Nat.sub_self, List.append_assoc]
  rfl
/-- the ticks in their room -/
def RoomAt (w : World) (s : List Nat) (ao : Option Addr) (L cap gp : Nat) (FO : Nat → Prop) : Prop :=
  (L = 0 ∧ ao = none ∧ cap = 0 ∧ s.length = 0) ∨ ∃ gr, ao = some ⟨gr, 0, none⟩ ∧ cap = L ∧ FO gr ∧ gr ≠ gp ∧ 1 ≤ L ∧ L ≤ 200000 ∧ s.length ≤ L ∧ RowBlk 3 w gr (nums (s ++ List.replicate (L - s.length) 0))
def TalObj (n gp : Nat) (w : World) (s : List Nat) (FO : Nat → Prop) : Prop :=
  FO gp ∧ (∀ t ∈ s, t ≤ 70000) ∧ ∃ ao L cap, RowBlk 189 w gp (placedVs n (.slice ao L cap) s.length) ∧ RoomAt w s ao L cap gp FO
theorem TalObj.keep {n gp : Nat} {w w' : World} {s : List Nat} {F G : Nat → Prop} (h : TalObj n gp w s F) (hb : ∀ k, F k → w'.heap[k]? = w.heap[k]?) (hG : ∀ k, F k → G k) : TalObj n gp w' s G := by
  obtain ⟨h1, h2, ao, L, cap, h3, h4⟩ := h
  refine ⟨hG gp h1, h2, ao, L, cap, h3.same (hb gp h1), ?_⟩
  rcases h4 with h4 | ⟨gr, e1, e2, e3, e4, e5, e6, e7, e8⟩
  · exact .inl h4
  · exact .inr ⟨gr, e1, e2, hG gr e3, e4, e5, e6, e7, e8.same (hb gr e3)⟩
/-- what add leaves -/
def TalAdded (gp n : Nat) (s : List Nat) (t : Nat) (FO : Nat → Prop) (w : World) (e : Ending) (w' : World) : Prop :=
  e = .returned (.tuple #[]) ∧ TalObj n gp w' (addT s t) (fun b => b < w'.heap.size ∧ (FO b ∨ w.heap.size ≤ b)) ∧ ButS FO w w'
theorem tal_added {gp n gr L u : Nat} {s : List Nat} {t : Nat} {FO : Nat → Prop} {w w' : World} (hU : s.length = u) (hul : u < L) (hL : L ≤ 200000) (hs : ∀ x ∈ s, x ≤ 70000) (ht : t ≤ 70000) (hgp : FO gp) (hgr : FO gr ∨ w.heap.size ≤ gr) (hne : gr ≠ gp)
    (hp : RowBlk 189 w' gp (placedVs n (.slice (some ⟨gr, 0, none⟩) L L) (u + 1))) (hr : RowBlk 3 w' gr (nums (addT s t ++ List.replicate (L - u - 1) 0))) (hb : ButS FO w w') : TalAdded gp n s t FO w (.returned (.tuple #[])) w' := by
  refine ⟨rfl, ⟨⟨hp.lt, .inl hgp⟩, fun x hx => ?_, _, L, L, ?_, .inr ⟨gr, rfl, rfl, ⟨hr.lt, hgr⟩, hne, by omega, hL, by rw [addT_len]; omega, ?_⟩⟩, hb⟩
  · unfold addT at hx
    rcases List.mem_append.1 hx with h | h
    · exact hs x h
    · rw [List.mem_singleton] at h; omega
  · rw [addT_len, hU]; exact hp
  · rw [addT_len, hU, show L - (u + 1) = L - u - 1 by omega]; exact hr
set_option maxRecDepth 100000 in
set_option maxHeartbeats 1000000 in
theorem tal_add_room (gp n gr L u : Nat) (s : List Nat) (t : Nat) (FO : Nat → Prop) (w : World) (hU : s.length = u) (hul : u < L) (hL : L ≤ 200000) (hs : ∀ x ∈ s, x ≤ 70000) (ht : t ≤ 70000) (hgp : FO gp) (hgr : FO gr) (hne : gr ≠ gp)
    (hp : RowBlk 189 w gp (placedVs n (.slice (some ⟨gr, 0, none⟩) L L) u)) (hr : RowBlk 3 w gr (nums (s ++ List.replicate (L - u - 1 + 1) 0))) :
    Calls Try.prog 129 #[.pointer (some ⟨gp, 2, none⟩), .int .i64 (t : Int)] w (TalAdded gp n s t FO w) := by
  have HP2 := Lib.hid hp
  have HR2 := Lib.hid hr
  have HU := Lib.hid hU
  have HS := Lib.hid hs
  have d2 : w.cell? ⟨gp, 2, none⟩ = some (.slice (some ⟨gr, 0, none⟩) L L) := HP2.out.cell rfl
  have d3 : w.cell? ⟨gp, 3, none⟩ = some (.int .i64 (u : Int)) := HP2.out.cell rfl
  have f3 : w.frozen? ⟨gp, 3, none⟩ = false := HP2.out.free
  have dr : w.cell? ⟨gr, u, none⟩ = some (.int .i64 0) := HR2.out.cell (nums_mid _ _ HU.out)
  have fr : w.frozen? ⟨gr, u, none⟩ = false := HR2.out.free
  have i0 : (0 : Int) ≤ (u : Int) := Int.natCast_nonneg _
  have i1 : (u : Int) < (L : Int) := by omega
  have i2 : ¬ (u : Int) = (L : Int) := by omega
  have i3 : ((u : Int) == (L : Int)) = false := by rw [beq_eq_false_iff_ne]; exact i2
  have i4 : decide ((u : Int) = (L : Int)) = false := decide_eq_false i2
  have hne2 : gp ≠ gr := fun e => hne e.symm
  have hgl := hp.lt
  have hrl := hr.lt
  clear hp hr hU hs
  go_enter Try.func129, Try.ntmps129
  go_wp2_with fail
  go_quiet (fail)
  go_wp2_with fail
  go_region
  go_wp2_with fail
  first
    | go_end0
    | (refine bodyPost_ret (results_none rfl _ _ _) rfl ?_)
  have eu : ((u + 1 : Nat) : Int) = (u : Int) + 1 := by omega
  refine tal_added (gr := gr) (L := L) (u := u) HU.out (by omega) (by omega) HS.out ht hgp (.inl hgr) hne ?_ ?_ ?_
  · have h1 := ((HP2.out.drewN (nq + 1)).other (a := ⟨gr, u, none⟩) hne2 (.int .i64 (t : Int))).put 3 (.int .i64 ((u : Int) + 1))
    unfold placedVs at h1 ⊢
    rw [eu]; exact h1
  · have h1 := ((HR2.out.drewN (nq + 1)).put u (.int .i64 (t : Int))).other (a := ⟨gp, 3, none⟩) hne (.int .i64 ((u : Int) + 1))
    rw [nums_put _ _ _ HU.out] at h1
    exact h1
  · exact (((ButS.refl _ _).drewN _).setCell (.inl hgr) _).setCell (.inl hgp) _
theorem room_zeros (L : Nat) : ∀ s : List Nat, s.length = L → s ++ List.replicate (L + 1) 0 = s ++ List.replicate (2 * L + 1 - L - 1 + 1) 0 := fun s _ => by rw [show 2 * L + 1 - L - 1 + 1 = L + 1 by omega]
set_option maxRecDepth 100000 in
set_option maxHeartbeats 1000000 in
theorem tal_add_grow (gp n u : Nat) (s : List Nat) (t : Nat) (ao : Option Addr) (cap : Nat) (FO : Nat → Prop) (w : World) (hU : s.length = u) (hul : u ≤ 70000) (hs : ∀ x ∈ s, x ≤ 70000) (ht : t ≤ 70000) (hgp : FO gp)
    (hp : RowBlk 189 w gp (placedVs n (.slice ao u cap) u)) (hao : 0 < u → ∃ gr, ao = some ⟨gr, 0, none⟩ ∧ RowBlk 3 w gr (nums s)) :
    Calls Try.prog 129 #[.pointer (some ⟨gp, 2, none⟩), .int .i64 (t : Int)] w (TalAdded gp n s t FO w) := by
  have HGR : Hid (∀ m, Calls Try.prog 130 #[.pointer (some ⟨gp, 2, none⟩)] (w.drewN m) (TalGrown gp n s (w.drewN m))) := Lib.hid (fun m => tal_grow gp n s ao cap (w.drewN m) (by rw [hU]; exact hp.drewN m) (by omega) (fun h => by obtain ⟨gr, h1, h2⟩ := hao (by omega); exact ⟨gr, h1, h2.drewN m⟩))
  have d2 : w.cell? ⟨gp, 2, none⟩ = some (.slice ao u cap) := hp.cell rfl
  have d3 : w.cell? ⟨gp, 3, none⟩ = some (.int .i64 (u : Int)) := hp.cell rfl
  have HU := Lib.hid hU
  have HS := Lib.hid hs
  have hgl := hp.lt
  clear hp hU hs hao
  go_enter Try.func129, Try.ntmps129
  go_wp2_with fail
  go_quiet (fail)
  go_wp2_with fail
  refine (HGR.out _).mono ?_
  rintro e w2 ⟨rfl, hp2, hr2, hb2⟩
  rw [HU.out] at hp2 hr2
  rw [room_zeros u s HU.out] at hr2
  have hsz : (w.drewN nq).heap.size = w.heap.size := rfl
  rw [hsz] at hp2 hr2
  obtain ⟨N, hN⟩ : ∃ N, w.heap.size = N := ⟨_, rfl⟩
  rw [hN] at hp2 hr2 hgl
  have HP2 := Lib.hid hp2
  have HR2 := Lib.hid hr2
  have HB2 : Hid (ButS (fun k => k = gp) w w2) := Lib.hid (((ButS.refl _ _).drewN _).trans hb2)
  have HNN := Lib.hid hN
  clear d2 d3
  have d2 : w2.cell? ⟨gp, 2, none⟩ = some (.slice (some ⟨N, 0, none⟩) (2 * u + 1 : Nat) (2 * u + 1 : Nat)) := HP2.out.cell rfl
  have d3 : w2.cell? ⟨gp, 3, none⟩ = some (.int .i64 (u : Int)) := HP2.out.cell rfl
  have f3 : w2.frozen? ⟨gp, 3, none⟩ = false := HP2.out.free
  have dr : w2.cell? ⟨N, u, none⟩ = some (.int .i64 0) := HR2.out.cell (nums_mid _ _ HU.out)
  have fr : w2.frozen? ⟨N, u, none⟩ = false := HR2.out.free
  have i0 : (0 : Int) ≤ (u : Int) := Int.natCast_nonneg _
  have i1 : (u : Int) < ((2 * u + 1 : Nat) : Int) := by omega
  have i1' : (u : Int) < 2 * (u : Int) + 1 := by omega
  have hne : N ≠ gp := by omega
  have hne2 : gp ≠ N := by omega
  have hgl2 := hp2.lt
  have hrl := hr2.lt
  clear hp2 hr2 hb2 hN
  go_wp2_with fail
  go_region
  go_wp2_with fail
  first
    | go_end0
    | (refine bodyPost_ret (results_none rfl _ _ _) rfl ?_)
  have eu : ((u + 1 : Nat) : Int) = (u : Int) + 1 := by omega
  refine tal_added (gr := N) (L := (2 * u + 1)) (u := u) HU.out (by omega) (by omega) HS.out ht hgp (.inr (by have := HNN.out; omega)) hne ?_ ?_ ?_
  · have h1 := ((HP2.out.drewN (1)).other (a := ⟨N, u, none⟩) hne2 (.int .i64 (t : Int))).put 3 (.int .i64 ((u : Int) + 1))
    unfold placedVs at h1 ⊢
    rw [eu]; exact h1
  · have h1 := ((HR2.out.drewN (1)).put u (.int .i64 (t : Int))).other (a := ⟨gp, 3, none⟩) hne (.int .i64 ((u : Int) + 1))
    rw [nums_put _ _ _ HU.out] at h1
    exact h1
  · exact (((HB2.out.mono (fun k _ h => h ▸ hgp)).drewN _).setCell (.inr (by have := HNN.out; show w.heap.size ≤ N; omega)) _).setCell (.inl hgp) _
theorem tal_add {n gp : Nat} {s : List Nat} {t : Nat} {FO : Nat → Prop} {w : World} (h : TalObj n gp w s FO) (hl : s.length ≤ 70000) (ht : t ≤ 70000) :
    Calls Try.prog 129 #[.pointer (some ⟨gp, 2, none⟩), .int .i64 (t : Int)] w (TalAdded gp n s t FO w) := by
  obtain ⟨h1, h2, ao, L, cap, h3, h4⟩ := h
  rcases h4 with ⟨rfl, rfl, rfl, h5⟩ | ⟨gr, rfl, rfl, e3, e4, e5, e6, e7, e8⟩
  · rw [h5] at h3
    exact tal_add_grow gp n 0 s t none 0 FO w h5 (by omega) h2 ht h1 h3 (fun h => absurd h (by omega))
  · by_cases hu : s.length < cap
    · refine tal_add_room gp n gr cap s.length s t FO w rfl hu e6 h2 ht h1 e3 e4 h3 ?_
      rw [show cap - s.length - 1 + 1 = cap - s.length by omega]; exact e8
    · have hLs : cap = s.length := by omega
      subst hLs
      refine tal_add_grow gp n s.length s t _ _ FO w rfl hl h2 ht h1 h3 (fun _ => ⟨gr, rfl, ?_⟩)
      rw [Nat.sub_self, List.replicate_zero, List.append_nil] at e8
      exact e8
set_option maxRecDepth 100000 in
set_option maxHeartbeats 1000000 in
theorem tal_nth {n gp : Nat} {s : List Nat} {k : Nat} {FO : Nat → Prop} {w : World} (h : TalObj n gp w s FO) (hk : k ≤ s.length) (hl : s.length ≤ 70000) :
    Calls Try.prog 133 #[.pointer (some ⟨gp, 2, none⟩), .int .u64 (k : Int)] w fun e w' => e = .returned (.int .i64 (nthL s k : Nat)) ∧ w = w' := by
  obtain ⟨h1, h2, ao, L, cap, h3, h4⟩ := h
  have c2 : w.cell? ⟨gp, 2, none⟩ = some (.slice ao L cap) := h3.cell rfl
  have hgl := h3.lt
  unfold nthL
  by_cases k0 : k = 0
  · subst k0
    rw [if_pos rfl]
    clear h1 h2 h3 h4
    go_enter Try.func133, Try.ntmps133
    go_wp2_with fail
    go_ret
    exact ⟨rfl, rfl⟩
  · rw [if_neg k0]
    rcases h4 with ⟨_, _, _, h5⟩ | ⟨gr, rfl, rfl, e3, e4, e5, e6, e7, e8⟩
    · exact absurd h5 (by omega)
    · obtain ⟨x, hx⟩ : ∃ x, s[k - 1]? = some x := ⟨s[k - 1]'(by omega), List.getElem?_eq_getElem _⟩
      have hg : s.getD (k - 1) 0 = x := by rw [List.getD_eq_getElem?_getD, hx]; rfl
      rw [hg]
      obtain ⟨j, hj⟩ : ∃ j, k = j + 1 := ⟨k - 1, by omega⟩
      subst hj
      have cx : w.cell? ⟨gr, j, none⟩ = some (.int .i64 (x : Int)) := e8.cell (by
        unfold nums; rw [List.getElem?_map, List.getElem?_append_left (by omega)]
        rw [show j + 1 - 1 = j by omega] at hx
        rw [hx]; rfl)
      have hrl := e8.lt
      have b0 : ¬ ((j + 1 : Nat) : Int) = 0 := by omega
      have b1 : (0 : Int) ≤ (j : Int) := Int.natCast_nonneg _
      have b2 : (j : Int) < (cap : Int) := by omega
      have b3 : ((j + 1 : Nat) : Int) - 1 = (j : Int) := by omega
      have b4 : IntKind.u64.wrap (((j + 1 : Nat) : Int) - 1) = (j : Int) := by rw [b3]; unfold IntKind.wrap; simp [IntKind.bits, IntKind.signed]; omega
      clear h1 h2 h3 e8 e3 hx hg hk
      go_enter Try.func133, Try.ntmps133
      go_wp2_with fail
      go_ret
      exact ⟨rfl, rfl⟩
end
section
open Go.ChangeShapes Go.WideShapes Go.ChangeAt Go.RowKit
set_option linter.unusedVariables false
set_option linter.unusedSimpArgs false
theorem talM_meth (a : Addr) (w : World) : (method 348 185 (.pointer (some a)) "Invoke").run Try.prog w = .ok (117, .pointer (some a)) w := by kernel_rfl
theorem talM_enter (args : Array Value) (w : World) : (callFunc 117 args).run Try.prog w = .ok (.enter 117 args) w := by kernel_rfl
theorem talCnt_meth (a : Addr) (w : World) : (method 348 204 (.pointer (some a)) "Step").run Try.prog w = .ok (128, .pointer (some a)) w := by kernel_rfl
theorem talCnt_enter (args : Array Value) (w : World) : (callFunc 128 args).run Try.prog w = .ok (.enter 128 args) w := by kernel_rfl
theorem talRd_meth (a : Addr) (w : World) : (method 348 207 (.pointer (some a)) "Step").run Try.prog w = .ok (132, .pointer (some a)) w := by kernel_rfl
theorem talRd_enter (args : Array Value) (w : World) : (callFunc 132 args).run Try.prog w = .ok (.enter 132 args) w := by kernel_rfl
theorem talKey_meth (a : Addr) (w : World) : (method 348 207 (.pointer (some a)) "Key").run Try.prog w = .ok (131, .pointer (some a)) w := by kernel_rfl
theorem talKey_enter (args : Array Value) (w : World) : (callFunc 131 args).run Try.prog w = .ok (.enter 131 args) w := by kernel_rfl
theorem talKeyed (v : Value) (w : World) : (Instr.typeAssert (.iface 207 v) 138 161 true).run Try.prog w = .ok (.tuple #[.iface 207 v, .bool true]) w := by kernel_rfl
theorem noKey_count (v : Value) : NoKey (.iface 204 v) := fun w => run_typeAssert_lacksB Try.underlying161 (by kernel_rfl) (by kernel_rfl) v 138 w

def cntVs (gp a : Nat) (f : Bool) (was : Nat) : List Value := [.pointer (some ⟨gp, 0, none⟩), .int .i64 (a : Int), .bool f, .int .u64 (was : Int)]
def rdVs (gp inv next sum : Nat) (key : Value) : List Value := [.pointer (some ⟨gp, 0, none⟩), .int .i64 (inv : Int), .int .i64 (next : Int), .int .u64 (sum : Int), key]
/-- an operation made -/
def TalMade (opt rt : TypeId) (vs : List Value) (W : World) (en : Ending) (w' : World) : Prop := ∃ g, en = .returned (.tuple #[.iface opt (.pointer (some ⟨g, 0, none⟩)), .int .i64 0]) ∧ RowBlk rt w' g vs ∧ W.heap.size ≤ g ∧ Below W.heap.size W w'
theorem new2 (W : World) (o1 : Obj) (vs : List Value) (t : TypeId) : RowBlk t ((W.alloc o1).alloc (.cells vs.toArray t)) (W.heap.size + 1) vs := by
  have h := RowBlk.new (W.alloc o1) vs t
  have e : (W.alloc o1).heap.size = W.heap.size + 1 := by simp
  rw [e] at h; exact h
set_option maxRecDepth 100000 in
theorem tal_bad (gp : Nat) (x : CallV) (W : World) (hk : ¬ x.k = 0) (hk1 : ¬ x.k = 1) : Calls Try.prog 117 #[.pointer (some ⟨gp, 0, none⟩), callAgg x] W fun en w' => en = .returned (.tuple #[.nilIface, .int .i64 9]) ∧ Below W.heap.size W w' := by
  unfold callAgg
  go_enter Try.func117, Try.ntmps117
  go_wp2
  go_ret2
  exact ⟨rfl, (Below.refl _ _).alloc (Nat.le_refl _) _⟩
set_option maxRecDepth 100000 in
theorem tal_reads (gp : Nat) (x : CallV) (W : World) (hk : x.k = 1) : Calls Try.prog 117 #[.pointer (some ⟨gp, 0, none⟩), callAgg x] W (TalMade 207 209 (rdVs gp 0 0 0 (.slice none 0 0)) W) := by
  unfold callAgg
  rw [hk]
  go_enter Try.func117, Try.ntmps117
  go_wp2
  go_ret2
  exact ⟨_, rfl, new2 W _ (rdVs gp 0 0 0 (.slice none 0 0)) _, by omega, ((Below.refl _ _).alloc (Nat.le_refl _) _).alloc (by simp) _⟩
set_option maxRecDepth 100000 in
set_option maxHeartbeats 1000000 in
theorem tal_counts (gp a : Nat) (x : CallV) (W : World) (hk : x.k = 0) (ht : x.t = (a : Int)) (ha : a ≤ 16) (hp : W.cell? ⟨gp, 1, none⟩ = some (.int .i64 0)) : Calls Try.prog 117 #[.pointer (some ⟨gp, 0, none⟩), callAgg x] W (TalMade 204 206 (cntVs gp a false 0) W) := by
  unfold callAgg
  rw [hk, ht]
  have hgl : gp < W.heap.size := World.block_lt_of_cell? W ⟨gp, 1, none⟩ hp
  have hwr : IntKind.i64.wrap (a : Int) = (a : Int) := by unfold IntKind.wrap; simp [IntKind.bits, IntKind.signed]; omega
  go_enter Try.func117, Try.ntmps117
  go_wp2_with fail
  go_region
  all_goals go_wp2_with fail
  all_goals go_ret2
  all_goals exact ⟨_, rfl, (new2 W _ (cntVs gp a false 0) _).drew, by omega, (below_drew ((Below.refl _ _).alloc (Nat.le_refl _) _)).alloc (by show W.heap.size ≤ (W.alloc _).heap.size; simp) _⟩
/-- what a count's first step leaves -/
def TalFound (gp a g bm bw : Nat) (l : List Nat) (c : Cn) (w : World) (en : Ending) (w' : World) : Prop := en = .returned (.tuple #[.agg #[.int .i64 0, .int .u64 0, .slice none 0 0], .bool false]) ∧ MemIs 136 w' bm bw l { c with r := c.r + 1 } ∧ ButS (fun k => k = bm ∨ k = bw ∨ k = g) w w' ∧ RowBlk 206 w' g (cntVs gp a true (l.getD a 0))
set_option maxRecDepth 100000 in
set_option maxHeartbeats 2000000 in
theorem tal_find (gp a was g bm bw : Nat) (l : List Nat) (c : Cn) (t : Nat) (w : World) (hM : MemIs 136 w bm bw l c) (hg : RowBlk 206 w g (cntVs gp a false was)) (ha : a < l.length) (hl : l.length ≤ 16) (hc : c.r < 9223372036854775807) :
    Calls Try.prog 128 #[.pointer (some ⟨g, 0, none⟩), turnAgg bm (t : Int)] w (TalFound gp a g bm bw l c w) := by
  unfold turnAgg
  have hgm : g ≠ bm := by intro e; have h1 := hg; have h2 := hM.1; unfold RowBlk at h1; rw [e, h2] at h1; simp at h1
  have hgw : g ≠ bw := by intro e; have h1 := hg; have h2 := hM.2.1; unfold RowBlk at h1; rw [e, h2] at h1; simp at h1
  obtain ⟨y, hy⟩ : ∃ y, l.getD a 0 = y := ⟨_, rfl⟩
  have HSW : Hid (∀ W : World, MemIs 136 W bm bw l c → Calls Try.prog 156 #[.pointer (some ⟨bm, 0, none⟩), .int .i64 (a : Int)] W (AccPost (.int .u64 (y : Int)) (.rd a) bm bw l c W)) := Lib.hid (fun W hW => by rw [← hy]; exact rd_acc (i := a) hW ha (by omega) hc)
  have HY := Lib.hid hy
  clear hy
  have HM := Lib.hid hM
  have HG := Lib.hid hg
  have hmm := m_Read ⟨bm, 0, none⟩
  have hbm := hM.lt1
  have hbw := hM.lt2
  have hgel := hg.lt
  have c1 : w.cell? ⟨g, 1, none⟩ = some (.int .i64 (a : Int)) := hg.cell rfl
  have c2 : w.cell? ⟨g, 2, none⟩ = some (.bool false) := hg.cell rfl
  clear hM hg ha hl
  go_enter Try.func128, Try.ntmps128
  go_wp2_with fail
  have HGa : Hid (RowBlk 206 ((w.alloc (.cells #[.iface 94 (.pointer (some ⟨bm, 0, none⟩)), .int .i64 (t : Int)] 110)).alloc (.cells #[.int .i64 0, .int .u64 0, .slice none 0 0] 45)) g (cntVs gp a false was)) := Lib.hid ((HG.out.alloc _).alloc _)
  have HMa : Hid (MemIs 136 ((w.alloc (.cells #[.iface 94 (.pointer (some ⟨bm, 0, none⟩)), .int .i64 (t : Int)] 110)).alloc (.cells #[.int .i64 0, .int .u64 0, .slice none 0 0] 45)) bm bw l c) := Lib.hid ((HM.out.alloc _).alloc _)
  have HTa : Hid (RowBlk 110 ((w.alloc (.cells #[.iface 94 (.pointer (some ⟨bm, 0, none⟩)), .int .i64 (t : Int)] 110)).alloc (.cells #[.int .i64 0, .int .u64 0, .slice none 0 0] 45)) w.heap.size [.iface 94 (.pointer (some ⟨bm, 0, none⟩)), .int .i64 (t : Int)]) := Lib.hid ((RowBlk.new _ _ _).alloc _)
  have HAa : Hid (RowBlk 45 ((w.alloc (.cells #[.iface 94 (.pointer (some ⟨bm, 0, none⟩)), .int .i64 (t : Int)] 110)).alloc (.cells #[.int .i64 0, .int .u64 0, .slice none 0 0] 45)) (w.heap.size + 1) [.int .i64 0, .int .u64 0, .slice none 0 0]) := Lib.hid (by
    have h := RowBlk.new (w.alloc (.cells #[.iface 94 (.pointer (some ⟨bm, 0, none⟩)), .int .i64 (t : Int)] 110)) [.int .i64 0, .int .u64 0, .slice none 0 0] 45
    have e : (w.alloc (.cells #[.iface 94 (.pointer (some ⟨bm, 0, none⟩)), .int .i64 (t : Int)] 110)).heap.size = w.heap.size + 1 := by simp
    rw [e] at h; exact h)
  have HBa : Hid (ButS (fun k => k = bm ∨ k = bw ∨ k = g) w ((w.alloc (.cells #[.iface 94 (.pointer (some ⟨bm, 0, none⟩)), .int .i64 (t : Int)] 110)).alloc (.cells #[.int .i64 0, .int .u64 0, .slice none 0 0] 45))) := Lib.hid (((ButS.refl _ _).alloc _).alloc _)
  generalize ((w.alloc (.cells #[.iface 94 (.pointer (some ⟨bm, 0, none⟩)), .int .i64 (t : Int)] 110)).alloc (.cells #[.int .i64 0, .int .u64 0, .slice none 0 0] 45)) = wa at HGa HMa HTa HAa HBa ⊢
  have d1 : wa.cell? ⟨g, 1, none⟩ = some (.int .i64 (a : Int)) := HGa.out.cell rfl
  have t0 : wa.cell? ⟨w.heap.size, 0, none⟩ = some (.iface 94 (.pointer (some ⟨bm, 0, none⟩))) := HTa.out.cell rfl
  clear c1 c2
  refine wp_region_tail (S := fun w' => w'.cell? ⟨g, 1, none⟩ = some (.int .i64 (a : Int)) ∧ w'.cell? ⟨w.heap.size, 0, none⟩ = some (.iface 94 (.pointer (some ⟨bm, 0, none⟩)))) 10 (by kernel_rfl) (by kernel_rfl) ?_ (fun hHeld => ?_)
  · first | with_reducible exact ⟨d1, t0⟩ | go_keep
  refine wpAnyH_take (i := 0) (oi := _) (v := ?v0) rfl (by kernel_rfl) (by kernel_rfl) (by kernel_rfl) (fun _ _ _ h => h) (Or.inl ⟨by kernel_rfl, ?hy0⟩) (by assumption) ?rest0
  case hy0 => (intro w hSw; (try dsimp only at hSw); go_simp <;> with_reducible rfl)
  try simp only [Act.put, List.getElem_toArray, List.getElem_cons_zero, List.getElem_cons_succ, List.setIfInBounds_toArray, List.set_cons_zero, List.set_cons_succ]
  refine wpAnyH_take (i := 1) (oi := _) (v := ?v1) rfl (by kernel_rfl) (by kernel_rfl) (by kernel_rfl) (fun _ _ _ h => h) (Or.inl ⟨by kernel_rfl, ?hy1⟩) (by assumption) ?rest1
  case hy1 => (intro w hSw; (try dsimp only at hSw); go_simp <;> with_reducible rfl)
  try simp only [Act.put, List.getElem_toArray, List.getElem_cons_zero, List.getElem_cons_succ, List.setIfInBounds_toArray, List.set_cons_zero, List.set_cons_succ]
  refine wpAnyH_take (i := 2) (oi := _) (v := ?v2) rfl (by kernel_rfl) (by kernel_rfl) (by kernel_rfl) (fun _ _ _ h => h) (Or.inl ⟨by kernel_rfl, ?hy2⟩) (by assumption) ?rest2
  case hy2 => (intro w hSw; (try dsimp only at hSw); go_simp <;> with_reducible rfl)
  try simp only [Act.put, List.getElem_toArray, List.getElem_cons_zero, List.getElem_cons_succ, List.setIfInBounds_toArray, List.set_cons_zero, List.set_cons_succ]
  refine wpAnyH_take (i := 3) (oi := _) (v := ?v3) rfl (by kernel_rfl) (by kernel_rfl) (by kernel_rfl) (fun _ _ _ h => h) (Or.inl ⟨by kernel_rfl, ?hy3⟩) (by assumption) ?rest3
  case hy3 => (intro w hSw; (try dsimp only at hSw); go_simp <;> with_reducible rfl)
  try simp only [Act.put, List.getElem_toArray, List.getElem_cons_zero, List.getElem_cons_succ, List.setIfInBounds_toArray, List.set_cons_zero, List.set_cons_succ]
  refine wpAnyH_take (i := 4) (oi := _) (v := ?v4) rfl (by kernel_rfl) (by kernel_rfl) (by kernel_rfl) (fun _ _ _ h => h) (Or.inl ⟨by kernel_rfl, ?hy4⟩) (by assumption) ?rest4
  case hy4 => (intro w hSw; (try dsimp only at hSw); go_simp <;> with_reducible rfl)
  try simp only [Act.put, List.getElem_toArray, List.getElem_cons_zero, List.getElem_cons_succ, List.setIfInBounds_toArray, List.set_cons_zero, List.set_cons_succ]
  refine wpAnyH_take (i := 5) (oi := _) (v := ?v5) rfl (by kernel_rfl) (by kernel_rfl) (by kernel_rfl) (fun _ _ _ h => h) (Or.inl ⟨by kernel_rfl, ?hy5⟩) (by assumption) ?rest5
  case hy5 => (intro w hSw; (try dsimp only at hSw); go_simp <;> with_reducible rfl)
  try simp only [Act.put, List.getElem_toArray, List.getElem_cons_zero, List.getElem_cons_succ, List.setIfInBounds_toArray, List.set_cons_zero, List.set_cons_succ]
  refine wpAnyH_take (i := 6) (oi := _) (v := ?v6) rfl (by kernel_rfl) (by kernel_rfl) (by kernel_rfl) (fun _ _ _ h => h) (Or.inl ⟨by kernel_rfl, ?hy6⟩) (by assumption) ?rest6
  case hy6 => (intro w hSw; (try dsimp only at hSw); go_simp <;> with_reducible rfl)
  try simp only [Act.put, List.getElem_toArray, List.getElem_cons_zero, List.getElem_cons_succ, List.setIfInBounds_toArray, List.set_cons_zero, List.set_cons_succ]
  refine wpAnyH_take (i := 7) (oi := _) (v := ?v7) rfl (by kernel_rfl) (by kernel_rfl) (by kernel_rfl) (fun _ _ _ h => h) (Or.inl ⟨by kernel_rfl, ?hy7⟩) (by assumption) ?rest7
  case hy7 => (intro w hSw; (try dsimp only at hSw); go_simp <;> with_reducible rfl)
  try simp only [Act.put, List.getElem_toArray, List.getElem_cons_zero, List.getElem_cons_succ, List.setIfInBounds_toArray, List.set_cons_zero, List.set_cons_succ]
  refine wpAnyH_take (i := 8) (oi := _) (v := ?v8) rfl (by kernel_rfl) (by kernel_rfl) (by kernel_rfl) (fun _ _ _ h => h) (Or.inl ⟨by kernel_rfl, ?hy8⟩) (by assumption) ?rest8
  case hy8 => (intro w hSw; (try dsimp only at hSw); go_simp <;> with_reducible rfl)
  try simp only [Act.put, List.getElem_toArray, List.getElem_cons_zero, List.getElem_cons_succ, List.setIfInBounds_toArray, List.set_cons_zero, List.set_cons_succ]
  refine wpAnyH_ready (rs := [9]) (by kernel_rfl) (by simp) ?_
  refine AllReadyH.cons (o := _) rfl (fun K hK => ?_) AllReadyH.nil
  go_simp
  go_at_call 156
  refine (HSW.out _ HMa.out.drew).mono ?_
  rintro e w4 ⟨rfl, hM4, hB4⟩
  have hG4 := RowBlk.same HGa.out.drew (hB4.block g HGa.out.lt hgm hgw)
  have hT4 := RowBlk.same HTa.out.drew (hB4.block w.heap.size HTa.out.lt (by omega) (by omega))
  have hA4 := RowBlk.same HAa.out.drew (hB4.block (w.heap.size + 1) HAa.out.lt (by omega) (by omega))
  have e1 : w4.cell? ⟨g, 1, none⟩ = some (.int .i64 (a : Int)) := hG4.cell rfl
  have et : w4.cell? ⟨w.heap.size, 0, none⟩ = some (.iface 94 (.pointer (some ⟨bm, 0, none⟩))) := hT4.cell rfl
  have HG4 := Lib.hid hG4
  have HA4 := Lib.hid hA4
  have HM4 := Lib.hid hM4
  have HB4 := Lib.hid hB4
  clear hG4 hT4 hM4 hB4 hA4
  go_simp
  refine hK.out _ _ ?_ (fun hHeld => ?_)
  · with_reducible exact ⟨e1, et⟩
  clear hK K
  try simp only [Act.put, List.getElem_toArray, List.getElem_cons_zero, List.getElem_cons_succ, List.setIfInBounds_toArray, List.set_cons_zero, List.set_cons_succ]
  refine wpAnyH_done (by kernel_rfl) ?_ _
  dsimp only [tailQ, List.drop_succ_cons, List.drop_zero]
  clear hHeld
  have g2 : w4.cell? ⟨g, 2, none⟩ = some (.bool false) := HG4.out.cell rfl
  have g3 : w4.cell? ⟨g, 3, none⟩ = some (.int .u64 (was : Int)) := HG4.out.cell rfl
  have fz : ∀ j, w4.frozen? ⟨g, j, none⟩ = false := fun j => HG4.out.free
  have n1 : w.heap.size + 1 ≠ g := by omega
  have n2 : g ≠ w.heap.size + 1 := by omega
  have a0 := HA4.out.cell (i := 0) rfl
  have a1 := HA4.out.cell (i := 1) rfl
  have a2 := HA4.out.cell (i := 2) rfl
  have z0 : w4.frozen? ⟨w.heap.size + 1, 0, none⟩ = false := HA4.out.free
  have z1 : w4.frozen? ⟨w.heap.size + 1, 1, none⟩ = false := HA4.out.free
  have z2 : w4.frozen? ⟨w.heap.size + 1, 2, none⟩ = false := HA4.out.free
  have HX : Hid (RowBlk 45 (((((w4.setCell ⟨g, 3, none⟩ (.int .u64 (y : Int))).setCell ⟨g, 2, none⟩ (.bool true)).setCell ⟨w.heap.size + 1, 0, none⟩ (.int .i64 0)).setCell ⟨w.heap.size + 1, 1, none⟩ (.int .u64 0)).setCell ⟨w.heap.size + 1, 2, none⟩ (.slice none 0 0)) (w.heap.size + 1) [.int .i64 0, .int .u64 0, .slice none 0 0] ∧ RowBlk 206 (((((w4.setCell ⟨g, 3, none⟩ (.int .u64 (y : Int))).setCell ⟨g, 2, none⟩ (.bool true)).setCell ⟨w.heap.size + 1, 0, none⟩ (.int .i64 0)).setCell ⟨w.heap.size + 1, 1, none⟩ (.int .u64 0)).setCell ⟨w.heap.size + 1, 2, none⟩ (.slice none 0 0)) g (cntVs gp a true y) ∧ MemIs 136 (((((w4.setCell ⟨g, 3, none⟩ (.int .u64 (y : Int))).setCell ⟨g, 2, none⟩ (.bool true)).setCell ⟨w.heap.size + 1, 0, none⟩ (.int .i64 0)).setCell ⟨w.heap.size + 1, 1, none⟩ (.int .u64 0)).setCell ⟨w.heap.size + 1, 2, none⟩ (.slice none 0 0)) bm bw l { c with r := c.r + 1 } ∧ ButS (fun k => k = bm ∨ k = bw ∨ k = g) w (((((w4.setCell ⟨g, 3, none⟩ (.int .u64 (y : Int))).setCell ⟨g, 2, none⟩ (.bool true)).setCell ⟨w.heap.size + 1, 0, none⟩ (.int .i64 0)).setCell ⟨w.heap.size + 1, 1, none⟩ (.int .u64 0)).setCell ⟨w.heap.size + 1, 2, none⟩ (.slice none 0 0))) := Lib.hid
    ⟨((((HA4.out.other n1 _).other n1 _).put 0 _).put 1 _).put 2 _, ((((HG4.out.put 3 _).put 2 _).other n2 _).other n2 _).other n2 _, ((((HM4.out.setNew _ _ hgm hgw).setNew _ _ hgm hgw).setNew _ _ (by omega) (by omega)).setNew _ _ (by omega) (by omega)).setNew _ _ (by omega) (by omega),
      (((((HBa.out.drew.trans (ButS.of_but HB4.out (.inl rfl) (.inr (.inl rfl)))).setCell (.inl (.inr (.inr rfl))) _).setCell (.inl (.inr (.inr rfl))) _).setCell (.inr (by show w.heap.size ≤ w.heap.size + 1; omega)) _).setCell (.inr (by show w.heap.size ≤ w.heap.size + 1; omega)) _).setCell (.inr (by show w.heap.size ≤ w.heap.size + 1; omega)) _⟩
  clear et
  go_wp2_with fail
  generalize ((((w4.setCell ⟨g, 3, none⟩ (.int .u64 (y : Int))).setCell ⟨g, 2, none⟩ (.bool true)).setCell ⟨w.heap.size + 1, 0, none⟩ (.int .i64 0)).setCell ⟨w.heap.size + 1, 1, none⟩ (.int .u64 0)).setCell ⟨w.heap.size + 1, 2, none⟩ (.slice none 0 0) = W5 at HX ⊢
  have q0 := HX.out.1.cell (i := 0) rfl
  have q1 := HX.out.1.cell (i := 1) rfl
  have q2 := HX.out.1.cell (i := 2) rfl
  exact bodyPost_ret (v := .tuple #[.agg #[.int .i64 0, .int .u64 0, .slice none 0 0], .bool false]) (by simp [results, Try.results128, go_sem, q0, q1, q2]) rfl ⟨rfl, HX.out.2.2.1, HX.out.2.2.2, by rw [HY.out]; exact HX.out.2.1⟩
/-- what a count's second step leaves -/
def TalPut (n gp a was g bm bw : Nat) (s : List Nat) (t : Nat) (FO : Nat → Prop) (l : List Nat) (c : Cn) (w : World) (en : Ending) (w' : World) : Prop := en = .returned (.tuple #[.agg #[.int .i64 0, .int .u64 0, .slice none 0 0], .bool true]) ∧ MemIs 136 w' bm bw (l.set a (was + 1)) { c with w := c.w + 1 } ∧ ButS (fun k => k = bm ∨ k = bw ∨ k = g ∨ FO k) w w' ∧ RowBlk 206 w' g (cntVs gp a true was) ∧ TalObj n gp w' (addT s t) (fun b => b < w'.heap.size ∧ (FO b ∨ w.heap.size ≤ b))
set_option maxRecDepth 100000 in
set_option maxHeartbeats 2000000 in
theorem tal_put (n gp a was g bm bw : Nat) (s : List Nat) (FO : Nat → Prop) (l : List Nat) (c : Cn) (t : Nat) (w : World) (hM : MemIs 136 w bm bw l c) (hg : RowBlk 206 w g (cntVs gp a true was)) (hO : TalObj n gp w s FO) (hs : ∀ b, FO b → b < w.heap.size ∧ b ≠ bm ∧ b ≠ bw ∧ b ≠ g) (ha : a < l.length) (hl : l.length ≤ 16) (hc : c.w < 9223372036854775807) (hw : was ≤ 70000) (ht : t ≤ 70000) (hsl : s.length ≤ 70000) :
    Calls Try.prog 128 #[.pointer (some ⟨g, 0, none⟩), turnAgg bm (t : Int)] w (TalPut n gp a was g bm bw s t FO l c w) := by
  unfold turnAgg
  have hgm : g ≠ bm := by intro e; have h1 := hg; have h2 := hM.1; unfold RowBlk at h1; rw [e, h2] at h1; simp at h1
  have hgw : g ≠ bw := by intro e; have h1 := hg; have h2 := hM.2.1; unfold RowBlk at h1; rw [e, h2] at h1; simp at h1
  have HSW : Hid (∀ W : World, MemIs 136 W bm bw l c → Calls Try.prog 158 #[.pointer (some ⟨bm, 0, none⟩), .int .i64 (a : Int), .int .u64 ((was : Int) + 1)] W (AccPost (.tuple #[]) (.wr a (was + 1)) bm bw l c W)) := Lib.hid (fun W hW => wr_acc (i := a) (was + 1) hW ha (by omega) hc)
  have HADD : Hid (∀ W : World, TalObj n gp W s FO → Calls Try.prog 129 #[.pointer (some ⟨gp, 2, none⟩), .int .i64 (t : Int)] W (TalAdded gp n s t FO W)) := Lib.hid (fun W hW => tal_add hW hsl ht)
  have HM := Lib.hid hM
  have HG := Lib.hid hg
  have HO := Lib.hid hO
  have HSEP := Lib.hid hs
  have hmm := m_Write ⟨bm, 0, none⟩
  have hbm := hM.lt1
  have hbw := hM.lt2
  have hgel := hg.lt
  have hgpl := (hs gp hO.1).1
  have c0 : w.cell? ⟨g, 0, none⟩ = some (.pointer (some ⟨gp, 0, none⟩)) := hg.cell rfl
  have c1 : w.cell? ⟨g, 1, none⟩ = some (.int .i64 (a : Int)) := hg.cell rfl
  have c2 : w.cell? ⟨g, 2, none⟩ = some (.bool true) := hg.cell rfl
  have c3 : w.cell? ⟨g, 3, none⟩ = some (.int .u64 (was : Int)) := hg.cell rfl
  have hwr : IntKind.u64.wrap ((was : Int) + 1) = (was : Int) + 1 := by unfold IntKind.wrap; simp [IntKind.bits, IntKind.signed]; omega
  clear hM hg ha hl hO hs
  go_enter Try.func128, Try.ntmps128
  go_wp2_with fail
  have HGa : Hid (RowBlk 206 ((w.alloc (.cells #[.iface 94 (.pointer (some ⟨bm, 0, none⟩)), .int .i64 (t : Int)] 110)).alloc (.cells #[.int .i64 0, .int .u64 0, .slice none 0 0] 45)) g (cntVs gp a true was)) := Lib.hid ((HG.out.alloc _).alloc _)
  have HMa : Hid (MemIs 136 ((w.alloc (.cells #[.iface 94 (.pointer (some ⟨bm, 0, none⟩)), .int .i64 (t : Int)] 110)).alloc (.cells #[.int .i64 0, .int .u64 0, .slice none 0 0] 45)) bm bw l c) := Lib.hid ((HM.out.alloc _).alloc _)
  have HTa : Hid (RowBlk 110 ((w.alloc (.cells #[.iface 94 (.pointer (some ⟨bm, 0, none⟩)), .int .i64 (t : Int)] 110)).alloc (.cells #[.int .i64 0, .int .u64 0, .slice none 0 0] 45)) w.heap.size [.iface 94 (.pointer (some ⟨bm, 0, none⟩)), .int .i64 (t : Int)]) := Lib.hid ((RowBlk.new _ _ _).alloc _)
  have HAa : Hid (RowBlk 45 ((w.alloc (.cells #[.iface 94 (.pointer (some ⟨bm, 0, none⟩)), .int .i64 (t : Int)] 110)).alloc (.cells #[.int .i64 0, .int .u64 0, .slice none 0 0] 45)) (w.heap.size + 1) [.int .i64 0, .int .u64 0, .slice none 0 0]) := Lib.hid (by
    have h := RowBlk.new (w.alloc (.cells #[.iface 94 (.pointer (some ⟨bm, 0, none⟩)), .int .i64 (t : Int)] 110)) [.int .i64 0, .int .u64 0, .slice none 0 0] 45
    have e : (w.alloc (.cells #[.iface 94 (.pointer (some ⟨bm, 0, none⟩)), .int .i64 (t : Int)] 110)).heap.size = w.heap.size + 1 := by simp
    rw [e] at h; exact h)
  have HBa : Hid (ButS (fun k => k = bm ∨ k = bw ∨ k = g) w ((w.alloc (.cells #[.iface 94 (.pointer (some ⟨bm, 0, none⟩)), .int .i64 (t : Int)] 110)).alloc (.cells #[.int .i64 0, .int .u64 0, .slice none 0 0] 45))) := Lib.hid (((ButS.refl _ _).alloc _).alloc _)
  have HOa : Hid (TalObj n gp ((w.alloc (.cells #[.iface 94 (.pointer (some ⟨bm, 0, none⟩)), .int .i64 (t : Int)] 110)).alloc (.cells #[.int .i64 0, .int .u64 0, .slice none 0 0] 45)) s FO) := Lib.hid (HO.out.keep (fun k hk => (Below.heap_alloc _ _ _ (by have := (HSEP.out k hk).1; simp; omega)).trans (Below.heap_alloc _ _ _ (HSEP.out k hk).1)) (fun _ h => h))
  generalize ((w.alloc (.cells #[.iface 94 (.pointer (some ⟨bm, 0, none⟩)), .int .i64 (t : Int)] 110)).alloc (.cells #[.int .i64 0, .int .u64 0, .slice none 0 0] 45)) = wa at HGa HMa HTa HAa HBa HOa ⊢
  have d0 : wa.cell? ⟨g, 0, none⟩ = some (.pointer (some ⟨gp, 0, none⟩)) := HGa.out.cell rfl
  have d1 : wa.cell? ⟨g, 1, none⟩ = some (.int .i64 (a : Int)) := HGa.out.cell rfl
  have d3 : wa.cell? ⟨g, 3, none⟩ = some (.int .u64 (was : Int)) := HGa.out.cell rfl
  have t0 : wa.cell? ⟨w.heap.size, 0, none⟩ = some (.iface 94 (.pointer (some ⟨bm, 0, none⟩))) := HTa.out.cell rfl
  clear c0 c1 c2 c3
  go_region_held3 (fun w' => w'.cell? ⟨g, 1, none⟩ = some (.int .i64 (a : Int)) ∧ w'.cell? ⟨g, 3, none⟩ = some (.int .u64 (was : Int)) ∧ w'.cell? ⟨w.heap.size, 0, none⟩ = some (.iface 94 (.pointer (some ⟨bm, 0, none⟩))))
    (first | with_reducible exact ⟨d1, d3, t0⟩ | go_keep)
    (first
      | (go_at_call 158
         refine (HSW.out _ HMa.out.drew).mono ?_
         rintro e w4 ⟨rfl, hM4, hB4⟩
         have hG4 := RowBlk.same HGa.out.drew (hB4.block g HGa.out.lt hgm hgw)
         have hT4 := RowBlk.same HTa.out.drew (hB4.block w.heap.size HTa.out.lt (by omega) (by omega))
         have hA4 := RowBlk.same HAa.out.drew (hB4.block (w.heap.size + 1) HAa.out.lt (by omega) (by omega))
         have d1 : w4.cell? ⟨g, 1, none⟩ = some (.int .i64 (a : Int)) := hG4.cell rfl
         have d3 : w4.cell? ⟨g, 3, none⟩ = some (.int .u64 (was : Int)) := hG4.cell rfl
         have t0 : w4.cell? ⟨w.heap.size, 0, none⟩ = some (.iface 94 (.pointer (some ⟨bm, 0, none⟩))) := hT4.cell rfl
         have HO4 : Hid (TalObj n gp w4 s FO) := Lib.hid (HOa.out.keep (fun k hk => hB4.block k (by have h1 := (HSEP.out k hk).1; have h2 := HBa.out.size; show k < wa.heap.size; omega) (HSEP.out k hk).2.1 (HSEP.out k hk).2.2.1) (fun _ h => h))
         have HG4 := Lib.hid hG4
         have HT4 := Lib.hid hT4
         have HA4 := Lib.hid hA4
         have HM4 := Lib.hid hM4
         have HB4 : Hid (ButS (fun k => k = bm ∨ k = bw ∨ k = g) w w4) := Lib.hid (HBa.out.drew.trans (ButS.of_but hB4 (.inl rfl) (.inr (.inl rfl))))
         clear hG4 hT4 hM4 hB4 hA4))
  have d0 : w4.cell? ⟨g, 0, none⟩ = some (.pointer (some ⟨gp, 0, none⟩)) := HG4.out.cell rfl
  have t1 : w4.cell? ⟨w.heap.size, 1, none⟩ = some (.int .i64 (t : Int)) := HT4.out.cell rfl
  go_wp2_with fail
  go_region_held3 (fun w' => w'.cell? ⟨g, 0, none⟩ = some (.pointer (some ⟨gp, 0, none⟩)) ∧ w'.cell? ⟨w.heap.size, 1, none⟩ = some (.int .i64 (t : Int)))
    (first | with_reducible exact ⟨d0, t1⟩ | go_keep)
    (first
      | (go_at_call 129
         refine (HADD.out w4.drew (HO4.out.keep (fun _ _ => rfl) (fun _ h => h))).mono ?_
         rintro e w6 ⟨rfl, hO6, hB6⟩
         have hG6 := RowBlk.same HG4.out.drew (hB6.block g HG4.out.lt (fun h => (HSEP.out g h).2.2.2 rfl))
         have hT6 := RowBlk.same HT4.out.drew (hB6.block w.heap.size HT4.out.lt (fun h => by have := (HSEP.out _ h).1; omega))
         have hA6 := RowBlk.same HA4.out.drew (hB6.block (w.heap.size + 1) HA4.out.lt (fun h => by have := (HSEP.out _ h).1; omega))
         have d0 : w6.cell? ⟨g, 0, none⟩ = some (.pointer (some ⟨gp, 0, none⟩)) := hG6.cell rfl
         have t1 : w6.cell? ⟨w.heap.size, 1, none⟩ = some (.int .i64 (t : Int)) := hT6.cell rfl
         have a0 := hA6.cell (i := 0) rfl
         have a1 := hA6.cell (i := 1) rfl
         have a2 := hA6.cell (i := 2) rfl
         have z0 : w6.frozen? ⟨w.heap.size + 1, 0, none⟩ = false := hA6.free
         have z1 : w6.frozen? ⟨w.heap.size + 1, 1, none⟩ = false := hA6.free
         have z2 : w6.frozen? ⟨w.heap.size + 1, 2, none⟩ = false := hA6.free
         have HM6 : Hid (MemIs 136 w6 bm bw (l.set a (was + 1)) { c with w := c.w + 1 }) := Lib.hid (HM4.out.drew.of_blocks (hB6.block bm HM4.out.lt1 (fun h => (HSEP.out _ h).2.1 rfl)) (hB6.block bw HM4.out.lt2 (fun h => (HSEP.out _ h).2.2.1 rfl)))
         have HB6 : Hid (ButS (fun k => k = bm ∨ k = bw ∨ k = g ∨ FO k) w w6) := Lib.hid ((HB4.out.mono (fun k _ h => h.elim .inl (fun h => h.elim (fun h => .inr (.inl h)) (fun h => .inr (.inr (.inl h)))))).drew.trans (hB6.mono (fun k _ h => .inr (.inr (.inr h)))))
         have HO6 : Hid (TalObj n gp w6 (addT s t) (fun b => b < w6.heap.size ∧ (FO b ∨ w4.heap.size ≤ b))) := Lib.hid hO6
         have HG6 := Lib.hid hG6
         have HA6 := Lib.hid hA6
         clear hG6 hT6 hA6 hO6 hB6))
  have n1 : w.heap.size + 1 ≠ g := by omega
  have n2 : g ≠ w.heap.size + 1 := by omega
  have HX : Hid (RowBlk 45 (((w6.setCell ⟨w.heap.size + 1, 0, none⟩ (.int .i64 0)).setCell ⟨w.heap.size + 1, 1, none⟩ (.int .u64 0)).setCell ⟨w.heap.size + 1, 2, none⟩ (.slice none 0 0)) (w.heap.size + 1) [.int .i64 0, .int .u64 0, .slice none 0 0] ∧ RowBlk 206 (((w6.setCell ⟨w.heap.size + 1, 0, none⟩ (.int .i64 0)).setCell ⟨w.heap.size + 1, 1, none⟩ (.int .u64 0)).setCell ⟨w.heap.size + 1, 2, none⟩ (.slice none 0 0)) g (cntVs gp a true was) ∧ MemIs 136 (((w6.setCell ⟨w.heap.size + 1, 0, none⟩ (.int .i64 0)).setCell ⟨w.heap.size + 1, 1, none⟩ (.int .u64 0)).setCell ⟨w.heap.size + 1, 2, none⟩ (.slice none 0 0)) bm bw (l.set a (was + 1)) { c with w := c.w + 1 } ∧ ButS (fun k => k = bm ∨ k = bw ∨ k = g ∨ FO k) w (((w6.setCell ⟨w.heap.size + 1, 0, none⟩ (.int .i64 0)).setCell ⟨w.heap.size + 1, 1, none⟩ (.int .u64 0)).setCell ⟨w.heap.size + 1, 2, none⟩ (.slice none 0 0)) ∧ TalObj n gp (((w6.setCell ⟨w.heap.size + 1, 0, none⟩ (.int .i64 0)).setCell ⟨w.heap.size + 1, 1, none⟩ (.int .u64 0)).setCell ⟨w.heap.size + 1, 2, none⟩ (.slice none 0 0)) (addT s t) (fun b => b < (((w6.setCell ⟨w.heap.size + 1, 0, none⟩ (.int .i64 0)).setCell ⟨w.heap.size + 1, 1, none⟩ (.int .u64 0)).setCell ⟨w.heap.size + 1, 2, none⟩ (.slice none 0 0)).heap.size ∧ (FO b ∨ w.heap.size ≤ b))) := Lib.hid (by
    have hsz : (((w6.setCell ⟨w.heap.size + 1, 0, none⟩ (.int .i64 0)).setCell ⟨w.heap.size + 1, 1, none⟩ (.int .u64 0)).setCell ⟨w.heap.size + 1, 2, none⟩ (.slice none 0 0)).heap.size = w6.heap.size := by simp [World.setCell]
    have h4 := HA4.out.lt
    have hbase := HB4.out.size
    refine ⟨((HA6.out.put 0 _).put 1 _).put 2 _, ((HG6.out.other n2 _).other n2 _).other n2 _, ((HM6.out.setNew _ _ (by omega) (by omega)).setNew _ _ (by omega) (by omega)).setNew _ _ (by omega) (by omega),
      ((HB6.out.setCell (.inr (by show w.heap.size ≤ w.heap.size + 1; omega)) _).setCell (.inr (by show w.heap.size ≤ w.heap.size + 1; omega)) _).setCell (.inr (by show w.heap.size ≤ w.heap.size + 1; omega)) _, ?_⟩
    refine HO6.out.keep (fun k hk => ?_) (fun k hk => ⟨by rw [hsz]; exact hk.1, hk.2.imp id (fun h => by omega)⟩)
    have hne : k ≠ w.heap.size + 1 := by
      rcases hk.2 with h | h
      · have := (HSEP.out k h).1; omega
      · omega
    rw [Below.heap_setCell _ _ _ _ hne, Below.heap_setCell _ _ _ _ hne, Below.heap_setCell _ _ _ _ hne])
  go_wp2_with fail
  generalize (((w6.setCell ⟨w.heap.size + 1, 0, none⟩ (.int .i64 0)).setCell ⟨w.heap.size + 1, 1, none⟩ (.int .u64 0)).setCell ⟨w.heap.size + 1, 2, none⟩ (.slice none 0 0)) = W5 at HX ⊢
  have q0 := HX.out.1.cell (i := 0) rfl
  have q1 := HX.out.1.cell (i := 1) rfl
  have q2 := HX.out.1.cell (i := 2) rfl
  exact bodyPost_ret (v := .tuple #[.agg #[.int .i64 0, .int .u64 0, .slice none 0 0], .bool true]) (by simp [results, Try.results128, go_sem, q0, q1, q2]) rfl ⟨rfl, HX.out.2.2.1, HX.out.2.2.2.1, HX.out.2.1, HX.out.2.2.2.2⟩
end
section
open Go.ChangeShapes Go.WideShapes Go.ChangeAt Go.RowKit
set_option linter.unusedVariables false
set_option linter.unusedSimpArgs false
/-- what a read's step leaves that isn't its last one -/
def TalRead (gp inv k sum y g bm bw : Nat) (l : List Nat) (c : Cn) (w : World) (en : Ending) (w' : World) : Prop := en = .returned (.tuple #[.agg #[.int .i64 0, .int .u64 0, .slice none 0 0], .bool false]) ∧ MemIs 136 w' bm bw l { c with r := c.r + 1 } ∧ ButS (fun k => k = bm ∨ k = bw ∨ k = g) w w' ∧ RowBlk 209 w' g (rdVs gp inv (k + 1) (sum + y) (.slice none 0 0))
/-- what its last one leaves -/
def TalReadL (gp inv k sum y m t g bm bw : Nat) (l : List Nat) (c : Cn) (w : World) (en : Ending) (w' : World) : Prop := en = .returned (.tuple #[.agg #[.int .i64 0, .int .u64 ((sum + y : Nat) : Int), .slice none 0 0], .bool true]) ∧ MemIs 136 w' bm bw l { c with r := c.r + 1 } ∧ ButS (fun k => k = bm ∨ k = bw ∨ k = g) w w' ∧
  ∃ gk, RowBlk 209 w' g (rdVs gp inv (k + 1) (sum + y) (.slice (some ⟨gk, 0, none⟩) 2 2)) ∧ RowBlk 3 w' gk (nums [2 * m, 2 * t]) ∧ w.heap.size ≤ gk
theorem nth_le' {s : List Nat} {t k : Nat} (h : ∀ x ∈ s, x ≤ t) : nthL s k ≤ t := by
  unfold nthL
  split
  · omega
  · rw [List.getD_eq_getElem?_getD]
    cases hc : s[k - 1]? with
    | none => exact Nat.zero_le _
    | some c => exact h c (List.mem_of_getElem? hc)
set_option maxRecDepth 100000 in
set_option maxHeartbeats 2000000 in
theorem tal_rd0m (n gp inv sum g bm bw : Nat) (s : List Nat) (FO : Nat → Prop) (l : List Nat) (c : Cn) (t : Nat) (w : World) (hM : MemIs 136 w bm bw l c) (hg : RowBlk 209 w g (rdVs gp inv 0 sum (.slice none 0 0))) (hO : TalObj n gp w s FO) (hs : ∀ b, FO b → b < w.heap.size ∧ b ≠ bm ∧ b ≠ bw ∧ b ≠ g) (hk : 0 < l.length) (hl : l.length ≤ 16) (hc : c.r < 9223372036854775807) (hsum : sum + l.getD 0 0 ≤ s.length) (hsl : s.length ≤ 70000) (hn : 0 + 1 < n) (hnn : n ≤ 16) :
    Calls Try.prog 132 #[.pointer (some ⟨g, 0, none⟩), turnAgg bm (t : Int)] w (TalRead gp t 0 sum (l.getD 0 0) g bm bw l c w) := by
  unfold turnAgg
  have hgm : g ≠ bm := by intro e; have h1 := hg; have h2 := hM.1; unfold RowBlk at h1; rw [e, h2] at h1; simp at h1
  have hgw : g ≠ bw := by intro e; have h1 := hg; have h2 := hM.2.1; unfold RowBlk at h1; rw [e, h2] at h1; simp at h1
  obtain ⟨y, hy⟩ : ∃ y, l.getD 0 0 = y := ⟨_, rfl⟩
  rw [hy] at hsum ⊢
  obtain ⟨z, hz⟩ : ∃ z, sum + y = z := ⟨_, rfl⟩
  have HZ := Lib.hid hz
  have HSW : Hid (∀ W : World, MemIs 136 W bm bw l c → Calls Try.prog 156 #[.pointer (some ⟨bm, 0, none⟩), .int .i64 (0)] W (AccPost (.int .u64 (y : Int)) (.rd 0) bm bw l c W)) := Lib.hid (fun W hW => by rw [← hy]; exact rd_acc (i := 0) hW hk (by omega) hc)
  have eS : (sum : Int) + (y : Int) = (z : Int) := by omega
  have ES := Lib.hid eS
  have hwz : IntKind.u64.wrap ((sum : Int) + (y : Int)) = (z : Int) := by rw [eS]; unfold IntKind.wrap; simp [IntKind.bits, IntKind.signed]; omega
  clear hy hz eS
  have HM := Lib.hid hM
  have HG := Lib.hid hg
  have HO := Lib.hid hO
  have HSEP := Lib.hid hs
  have hmm := m_Read ⟨bm, 0, none⟩
  have hbm := hM.lt1
  have hbw := hM.lt2
  have hgel := hg.lt
  have hgp := hs gp hO.1
  have hgpl := hgp.1
  have hgpg := hgp.2.2.2
  have hggp : g ≠ gp := fun e => hgpg e.symm
  have c2 : w.cell? ⟨g, 2, none⟩ = some (.int .i64 (0)) := hg.cell rfl
  have c1 : w.cell? ⟨g, 1, none⟩ = some (.int .i64 (inv : Int)) := hg.cell rfl
  have hwk : IntKind.i64.wrap (0) = (0) := by unfold IntKind.wrap; simp [IntKind.bits, IntKind.signed]
  have f1 : w.frozen? ⟨g, 1, none⟩ = false := hg.free
  clear hM hg hO hs hk hgp
  go_enter Try.func132, Try.ntmps132
  go_wp2_with fail
  have HGa : Hid (RowBlk 209 (((w.setCell ⟨g, 1, none⟩ (.int .i64 (t : Int))).alloc (.cells #[.iface 94 (.pointer (some ⟨bm, 0, none⟩)), .int .i64 (t : Int)] 110)).alloc (.cells #[.int .i64 0, .int .u64 0, .slice none 0 0] 45)) g (rdVs gp t 0 sum (.slice none 0 0))) := Lib.hid ((((HG.out.put 1 _).alloc _).alloc _))
  have HMa : Hid (MemIs 136 (((w.setCell ⟨g, 1, none⟩ (.int .i64 (t : Int))).alloc (.cells #[.iface 94 (.pointer (some ⟨bm, 0, none⟩)), .int .i64 (t : Int)] 110)).alloc (.cells #[.int .i64 0, .int .u64 0, .slice none 0 0] 45)) bm bw l c) := Lib.hid ((((HM.out.setNew _ _ hgm hgw).alloc _).alloc _))
  have hz0 : (w.setCell ⟨g, 1, none⟩ (.int .i64 (t : Int))).heap.size = w.heap.size := by first | rfl | simp [World.setCell]
  have HTa : Hid (RowBlk 110 (((w.setCell ⟨g, 1, none⟩ (.int .i64 (t : Int))).alloc (.cells #[.iface 94 (.pointer (some ⟨bm, 0, none⟩)), .int .i64 (t : Int)] 110)).alloc (.cells #[.int .i64 0, .int .u64 0, .slice none 0 0] 45)) w.heap.size [.iface 94 (.pointer (some ⟨bm, 0, none⟩)), .int .i64 (t : Int)]) := Lib.hid (by
    have h := RowBlk.new (w.setCell ⟨g, 1, none⟩ (.int .i64 (t : Int))) [.iface 94 (.pointer (some ⟨bm, 0, none⟩)), .int .i64 (t : Int)] 110
    rw [hz0] at h; exact h.alloc _)
  have HAa : Hid (RowBlk 45 (((w.setCell ⟨g, 1, none⟩ (.int .i64 (t : Int))).alloc (.cells #[.iface 94 (.pointer (some ⟨bm, 0, none⟩)), .int .i64 (t : Int)] 110)).alloc (.cells #[.int .i64 0, .int .u64 0, .slice none 0 0] 45)) (w.heap.size + 1) [.int .i64 0, .int .u64 0, .slice none 0 0]) := Lib.hid (by
    have h := RowBlk.new ((w.setCell ⟨g, 1, none⟩ (.int .i64 (t : Int))).alloc (.cells #[.iface 94 (.pointer (some ⟨bm, 0, none⟩)), .int .i64 (t : Int)] 110)) [.int .i64 0, .int .u64 0, .slice none 0 0] 45
    have e : ((w.setCell ⟨g, 1, none⟩ (.int .i64 (t : Int))).alloc (.cells #[.iface 94 (.pointer (some ⟨bm, 0, none⟩)), .int .i64 (t : Int)] 110)).heap.size = w.heap.size + 1 := by rw [← hz0]; simp
    rw [e] at h; exact h)
  have HBa : Hid (ButS (fun k => k = bm ∨ k = bw ∨ k = g) w (((w.setCell ⟨g, 1, none⟩ (.int .i64 (t : Int))).alloc (.cells #[.iface 94 (.pointer (some ⟨bm, 0, none⟩)), .int .i64 (t : Int)] 110)).alloc (.cells #[.int .i64 0, .int .u64 0, .slice none 0 0] 45))) := Lib.hid (((((ButS.refl _ _).setCell (.inl (.inr (.inr rfl))) _).alloc _).alloc _))
  have HOa : Hid (TalObj n gp (((w.setCell ⟨g, 1, none⟩ (.int .i64 (t : Int))).alloc (.cells #[.iface 94 (.pointer (some ⟨bm, 0, none⟩)), .int .i64 (t : Int)] 110)).alloc (.cells #[.int .i64 0, .int .u64 0, .slice none 0 0] 45)) s FO) := Lib.hid (HO.out.keep (fun k hk => HBa.out.block k (HSEP.out k hk).1 (fun h => h.elim (HSEP.out k hk).2.1 (fun h => h.elim (HSEP.out k hk).2.2.1 (HSEP.out k hk).2.2.2))) (fun _ h => h))
  generalize (((w.setCell ⟨g, 1, none⟩ (.int .i64 (t : Int))).alloc (.cells #[.iface 94 (.pointer (some ⟨bm, 0, none⟩)), .int .i64 (t : Int)] 110)).alloc (.cells #[.int .i64 0, .int .u64 0, .slice none 0 0] 45)) = wa at HGa HMa HTa HAa HBa HOa ⊢
  clear hz0
  have d0 : wa.cell? ⟨g, 0, none⟩ = some (.pointer (some ⟨gp, 0, none⟩)) := HGa.out.cell rfl
  have d2 : wa.cell? ⟨g, 2, none⟩ = some (.int .i64 (0)) := HGa.out.cell rfl
  have d3 : wa.cell? ⟨g, 3, none⟩ = some (.int .u64 (sum : Int)) := HGa.out.cell rfl
  have dt : wa.cell? ⟨w.heap.size, 0, none⟩ = some (.iface 94 (.pointer (some ⟨bm, 0, none⟩))) := HTa.out.cell rfl
  have dp : wa.cell? ⟨gp, 1, none⟩ = some (.int .i64 0) := by obtain ⟨_, _, ao, L, cap, h3, _⟩ := HOa.out; exact h3.cell rfl
  clear c1 c2 f1
  refine wp_region_tail (S := (fun w' => w'.cell? ⟨g, 0, none⟩ = some (.pointer (some ⟨gp, 0, none⟩)) ∧ w'.cell? ⟨g, 2, none⟩ = some (.int .i64 (0)) ∧ w'.cell? ⟨g, 3, none⟩ = some (.int .u64 (sum : Int)) ∧ w'.cell? ⟨w.heap.size, 0, none⟩ = some (.iface 94 (.pointer (some ⟨bm, 0, none⟩))) ∧ w'.cell? ⟨gp, 1, none⟩ = some (.int .i64 0))) 22 (by kernel_rfl) (by kernel_rfl) ?_ (fun hHeld => ?_)
  · first | with_reducible exact ⟨d0, d2, d3, dt, dp⟩ | go_keep
  simp only [List.take_succ_cons, List.take_zero]
  refine wpAnyH_take (i := 0) (oi := _) (v := ?v0) rfl (by kernel_rfl) (by kernel_rfl) (by kernel_rfl) (fun _ _ _ h => h) (Or.inl ⟨by kernel_rfl, ?hy0⟩) (by assumption) ?rest0
  case hy0 => (intro w hSw; (try dsimp only at hSw); go_simp <;> with_reducible rfl)
  try simp only [Act.put, List.getElem_toArray, List.getElem_cons_zero, List.getElem_cons_succ, List.setIfInBounds_toArray, List.set_cons_zero, List.set_cons_succ]
  refine wpAnyH_take (i := 1) (oi := _) (v := ?v1) rfl (by kernel_rfl) (by kernel_rfl) (by kernel_rfl) (fun _ _ _ h => h) (Or.inl ⟨by kernel_rfl, ?hy1⟩) (by assumption) ?rest1
  case hy1 => (intro w hSw; (try dsimp only at hSw); go_simp <;> with_reducible rfl)
  try simp only [Act.put, List.getElem_toArray, List.getElem_cons_zero, List.getElem_cons_succ, List.setIfInBounds_toArray, List.set_cons_zero, List.set_cons_succ]
  refine wpAnyH_take (i := 2) (oi := _) (v := ?v2) rfl (by kernel_rfl) (by kernel_rfl) (by kernel_rfl) (fun _ _ _ h => h) (Or.inl ⟨by kernel_rfl, ?hy2⟩) (by assumption) ?rest2
  case hy2 => (intro w hSw; (try dsimp only at hSw); go_simp <;> with_reducible rfl)
  try simp only [Act.put, List.getElem_toArray, List.getElem_cons_zero, List.getElem_cons_succ, List.setIfInBounds_toArray, List.set_cons_zero, List.set_cons_succ]
  refine wpAnyH_take (i := 3) (oi := _) (v := ?v3) rfl (by kernel_rfl) (by kernel_rfl) (by kernel_rfl) (fun _ _ _ h => h) (Or.inl ⟨by kernel_rfl, ?hy3⟩) (by assumption) ?rest3
  case hy3 => (intro w hSw; (try dsimp only at hSw); go_simp <;> with_reducible rfl)
  try simp only [Act.put, List.getElem_toArray, List.getElem_cons_zero, List.getElem_cons_succ, List.setIfInBounds_toArray, List.set_cons_zero, List.set_cons_succ]
  refine wpAnyH_take (i := 4) (oi := _) (v := ?v4) rfl (by kernel_rfl) (by kernel_rfl) (by kernel_rfl) (fun _ _ _ h => h) (Or.inl ⟨by kernel_rfl, ?hy4⟩) (by assumption) ?rest4
  case hy4 => (intro w hSw; (try dsimp only at hSw); go_simp <;> with_reducible rfl)
  try simp only [Act.put, List.getElem_toArray, List.getElem_cons_zero, List.getElem_cons_succ, List.setIfInBounds_toArray, List.set_cons_zero, List.set_cons_succ]
  refine wpAnyH_take (i := 5) (oi := _) (v := ?v5) rfl (by kernel_rfl) (by kernel_rfl) (by kernel_rfl) (fun _ _ _ h => h) (Or.inl ⟨by kernel_rfl, ?hy5⟩) (by assumption) ?rest5
  case hy5 => (intro w hSw; (try dsimp only at hSw); go_simp <;> with_reducible rfl)
  try simp only [Act.put, List.getElem_toArray, List.getElem_cons_zero, List.getElem_cons_succ, List.setIfInBounds_toArray, List.set_cons_zero, List.set_cons_succ]
  refine wpAnyH_take (i := 6) (oi := _) (v := ?v6) rfl (by kernel_rfl) (by kernel_rfl) (by kernel_rfl) (fun _ _ _ h => h) (Or.inl ⟨by kernel_rfl, ?hy6⟩) (by assumption) ?rest6
  case hy6 => (intro w hSw; (try dsimp only at hSw); go_simp <;> with_reducible rfl)
  try simp only [Act.put, List.getElem_toArray, List.getElem_cons_zero, List.getElem_cons_succ, List.setIfInBounds_toArray, List.set_cons_zero, List.set_cons_succ]
  refine wpAnyH_take (i := 7) (oi := _) (v := ?v7) rfl (by kernel_rfl) (by kernel_rfl) (by kernel_rfl) (fun _ _ _ h => h) (Or.inl ⟨by kernel_rfl, ?hy7⟩) (by assumption) ?rest7
  case hy7 => (intro w hSw; (try dsimp only at hSw); go_simp <;> with_reducible rfl)
  try simp only [Act.put, List.getElem_toArray, List.getElem_cons_zero, List.getElem_cons_succ, List.setIfInBounds_toArray, List.set_cons_zero, List.set_cons_succ]
  refine wpAnyH_take (i := 8) (oi := _) (v := ?v8) rfl (by kernel_rfl) (by kernel_rfl) (by kernel_rfl) (fun _ _ _ h => h) (Or.inl ⟨by kernel_rfl, ?hy8⟩) (by assumption) ?rest8
  case hy8 => (intro w hSw; (try dsimp only at hSw); go_simp <;> with_reducible rfl)
  try simp only [Act.put, List.getElem_toArray, List.getElem_cons_zero, List.getElem_cons_succ, List.setIfInBounds_toArray, List.set_cons_zero, List.set_cons_succ]
  refine wpAnyH_take (i := 9) (oi := _) (v := ?v9) rfl (by kernel_rfl) (by kernel_rfl) (by kernel_rfl) (fun _ _ _ h => h) (Or.inl ⟨by kernel_rfl, ?hy9⟩) (by assumption) ?rest9
  case hy9 => (intro w hSw; (try dsimp only at hSw); go_simp <;> with_reducible rfl)
  try simp only [Act.put, List.getElem_toArray, List.getElem_cons_zero, List.getElem_cons_succ, List.setIfInBounds_toArray, List.set_cons_zero, List.set_cons_succ]
  refine wpAnyH_take (i := 10) (oi := _) (v := ?v10) rfl (by kernel_rfl) (by kernel_rfl) (by kernel_rfl) (fun _ _ _ h => h) (Or.inl ⟨by kernel_rfl, ?hy10⟩) (by assumption) ?rest10
  case hy10 => (intro w hSw; (try dsimp only at hSw); go_simp <;> with_reducible rfl)
  try simp only [Act.put, List.getElem_toArray, List.getElem_cons_zero, List.getElem_cons_succ, List.setIfInBounds_toArray, List.set_cons_zero, List.set_cons_succ]
  refine wpAnyH_take (i := 11) (oi := _) (v := ?v11) rfl (by kernel_rfl) (by kernel_rfl) (by kernel_rfl) (fun _ _ _ h => h) (Or.inl ⟨by kernel_rfl, ?hy11⟩) (by assumption) ?rest11
  case hy11 => (intro w hSw; (try dsimp only at hSw); go_simp <;> with_reducible rfl)
  try simp only [Act.put, List.getElem_toArray, List.getElem_cons_zero, List.getElem_cons_succ, List.setIfInBounds_toArray, List.set_cons_zero, List.set_cons_succ]
  refine wpAnyH_take (i := 12) (oi := _) (v := ?v12) rfl (by kernel_rfl) (by kernel_rfl) (by kernel_rfl) (fun _ _ _ h => h) (Or.inl ⟨by kernel_rfl, ?hy12⟩) (by assumption) ?rest12
  case hy12 => (intro w hSw; (try dsimp only at hSw); go_simp <;> with_reducible rfl)
  try simp only [Act.put, List.getElem_toArray, List.getElem_cons_zero, List.getElem_cons_succ, List.setIfInBounds_toArray, List.set_cons_zero, List.set_cons_succ]
  refine wpAnyH_take (i := 13) (oi := _) (v := ?v13) rfl (by kernel_rfl) (by kernel_rfl) (by kernel_rfl) (fun _ _ _ h => h) (Or.inl ⟨by kernel_rfl, ?hy13⟩) (by assumption) ?rest13
  case hy13 => (intro w hSw; (try dsimp only at hSw); go_simp <;> with_reducible rfl)
  try simp only [Act.put, List.getElem_toArray, List.getElem_cons_zero, List.getElem_cons_succ, List.setIfInBounds_toArray, List.set_cons_zero, List.set_cons_succ]
  refine wpAnyH_take (i := 14) (oi := _) (v := ?v14) rfl (by kernel_rfl) (by kernel_rfl) (by kernel_rfl) (fun _ _ _ h => h) (Or.inl ⟨by kernel_rfl, ?hy14⟩) (by assumption) ?rest14
  case hy14 => (intro w hSw; (try dsimp only at hSw); go_simp <;> with_reducible rfl)
  try simp only [Act.put, List.getElem_toArray, List.getElem_cons_zero, List.getElem_cons_succ, List.setIfInBounds_toArray, List.set_cons_zero, List.set_cons_succ]
  refine wpAnyH_take (i := 15) (oi := _) (v := ?v15) rfl (by kernel_rfl) (by kernel_rfl) (by kernel_rfl) (fun _ _ _ h => h) (Or.inl ⟨by kernel_rfl, ?hy15⟩) (by assumption) ?rest15
  case hy15 => (intro w hSw; (try dsimp only at hSw); go_simp <;> with_reducible rfl)
  try simp only [Act.put, List.getElem_toArray, List.getElem_cons_zero, List.getElem_cons_succ, List.setIfInBounds_toArray, List.set_cons_zero, List.set_cons_succ]
  refine wpAnyH_take (i := 16) (oi := _) (v := ?v16) rfl (by kernel_rfl) (by kernel_rfl) (by kernel_rfl) (fun _ _ _ h => h) (Or.inl ⟨by kernel_rfl, ?hy16⟩) (by assumption) ?rest16
  case hy16 => (intro w hSw; (try dsimp only at hSw); go_simp <;> with_reducible rfl)
  try simp only [Act.put, List.getElem_toArray, List.getElem_cons_zero, List.getElem_cons_succ, List.setIfInBounds_toArray, List.set_cons_zero, List.set_cons_succ]
  refine wpAnyH_take (i := 17) (oi := _) (v := ?v17) rfl (by kernel_rfl) (by kernel_rfl) (by kernel_rfl) (fun _ _ _ h => h) (Or.inl ⟨by kernel_rfl, ?hy17⟩) (by assumption) ?rest17
  case hy17 => (intro w hSw; (try dsimp only at hSw); go_simp <;> with_reducible rfl)
  try simp only [Act.put, List.getElem_toArray, List.getElem_cons_zero, List.getElem_cons_succ, List.setIfInBounds_toArray, List.set_cons_zero, List.set_cons_succ]
  refine wpAnyH_take (i := 18) (oi := _) (v := ?v18) rfl (by kernel_rfl) (by kernel_rfl) (by kernel_rfl) (fun _ _ _ h => h) (Or.inl ⟨by kernel_rfl, ?hy18⟩) (by assumption) ?rest18
  case hy18 => (intro w hSw; (try dsimp only at hSw); go_simp <;> with_reducible rfl)
  try simp only [Act.put, List.getElem_toArray, List.getElem_cons_zero, List.getElem_cons_succ, List.setIfInBounds_toArray, List.set_cons_zero, List.set_cons_succ]
  refine wpAnyH_take (i := 19) (oi := _) (v := ?v19) rfl (by kernel_rfl) (by kernel_rfl) (by kernel_rfl) (fun _ _ _ h => h) (Or.inl ⟨by kernel_rfl, ?hy19⟩) (by assumption) ?rest19
  case hy19 => (intro w hSw; (try dsimp only at hSw); go_simp <;> with_reducible rfl)
  try simp only [Act.put, List.getElem_toArray, List.getElem_cons_zero, List.getElem_cons_succ, List.setIfInBounds_toArray, List.set_cons_zero, List.set_cons_succ]
  refine wpAnyH_ready (rs := [20]) (by kernel_rfl) (by simp) ?_
  refine AllReadyH.cons (o := _) rfl (fun K hK => ?_) AllReadyH.nil
  go_simp
  go_at_call 156
  refine (HSW.out _ HMa.out.drew).mono ?_
  rintro e w4 ⟨rfl, hM4, hB4⟩
  have hG4 := RowBlk.same HGa.out.drew (hB4.block g HGa.out.lt hgm hgw)
  have hT4 := RowBlk.same HTa.out.drew (hB4.block w.heap.size HTa.out.lt (by omega) (by omega))
  have hA4 := RowBlk.same HAa.out.drew (hB4.block (w.heap.size + 1) HAa.out.lt (by omega) (by omega))
  have HO4 : Hid (TalObj n gp w4 s FO) := Lib.hid (HOa.out.keep (fun k hk => hB4.block k (by have h1 := (HSEP.out k hk).1; have h2 := HBa.out.size; show k < wa.heap.size; omega) (HSEP.out k hk).2.1 (HSEP.out k hk).2.2.1) (fun _ h => h))
  have e0 : w4.cell? ⟨g, 0, none⟩ = some (.pointer (some ⟨gp, 0, none⟩)) := hG4.cell rfl
  have e2 : w4.cell? ⟨g, 2, none⟩ = some (.int .i64 (0)) := hG4.cell rfl
  have e3 : w4.cell? ⟨g, 3, none⟩ = some (.int .u64 (sum : Int)) := hG4.cell rfl
  have et : w4.cell? ⟨w.heap.size, 0, none⟩ = some (.iface 94 (.pointer (some ⟨bm, 0, none⟩))) := hT4.cell rfl
  have ep : w4.cell? ⟨gp, 1, none⟩ = some (.int .i64 0) := by obtain ⟨_, _, ao, L, cap, h3, _⟩ := HO4.out; exact h3.cell rfl
  have HG4 := Lib.hid hG4
  have HT4 := Lib.hid hT4
  have HA4 := Lib.hid hA4
  have HM4 := Lib.hid hM4
  have HB4 := Lib.hid hB4
  clear hG4 hT4 hM4 hB4 hA4
  go_simp
  refine hK.out _ _ ?_ (fun hHeld => ?_)
  · with_reducible exact ⟨e0, e2, e3, et, ep⟩
  clear hK K
  try simp only [Act.put, List.getElem_toArray, List.getElem_cons_zero, List.getElem_cons_succ, List.setIfInBounds_toArray, List.set_cons_zero, List.set_cons_succ]
  refine wpAnyH_take (i := 21) (oi := _) (v := ?v21) rfl (by kernel_rfl) (by kernel_rfl) (by kernel_rfl) (fun _ _ _ h => h) (Or.inl ⟨by kernel_rfl, ?hy21⟩) (by assumption) ?rest21
  case hy21 => (intro w hSw; (try dsimp only at hSw); go_simp <;> with_reducible rfl)
  try simp only [Act.put, List.getElem_toArray, List.getElem_cons_zero, List.getElem_cons_succ, List.setIfInBounds_toArray, List.set_cons_zero, List.set_cons_succ]
  refine wpAnyH_done (by kernel_rfl) ?_ _
  dsimp only [tailQ]
  simp only [List.drop_succ_cons, List.drop_zero, List.take_succ_cons, List.take_zero, List.getElem_cons_succ, List.getElem_cons_zero, List.set_cons_zero, List.set_cons_succ]
  try rw [ES.out]
  clear hHeld
  have fz : ∀ j, w4.frozen? ⟨g, j, none⟩ = false := fun j => HG4.out.free
  have n1 : w.heap.size + 1 ≠ g := by omega
  have n2 : g ≠ w.heap.size + 1 := by omega
  have n3 : w.heap.size ≠ g := by omega
  have g1 : w4.cell? ⟨gp, 0, none⟩ = some (.int .i64 (n : Int)) := by obtain ⟨_, _, ao, L, cap, h3, _⟩ := HO4.out; exact h3.cell rfl
  have kn : (0) + 1 < (n : Int) := by omega
  go_wp2_with fail
  go_quiet (fail)
  have ek : ((0 + 1 : Nat) : Int) = 1 := by rfl
  have HG5 : Hid (RowBlk 209 (((w4.setCell ⟨g, 3, none⟩ (.int .u64 (z : Int))).setCell ⟨g, 2, none⟩ (.int .i64 (1))).drewN nq) g (rdVs gp t (0 + 1) z (.slice none 0 0))) := Lib.hid (by
    have h1 := ((HG4.out.put 3 (.int .u64 (z : Int))).put 2 (.int .i64 (1))).drewN nq
    unfold rdVs at h1 ⊢
    rw [ek]; exact h1)
  have HT5 : Hid (RowBlk 110 (((w4.setCell ⟨g, 3, none⟩ (.int .u64 (z : Int))).setCell ⟨g, 2, none⟩ (.int .i64 (1))).drewN nq) w.heap.size [.iface 94 (.pointer (some ⟨bm, 0, none⟩)), .int .i64 (t : Int)]) := Lib.hid (((HT4.out.other n3 _).other n3 _).drewN nq)
  have HA5 : Hid (RowBlk 45 (((w4.setCell ⟨g, 3, none⟩ (.int .u64 (z : Int))).setCell ⟨g, 2, none⟩ (.int .i64 (1))).drewN nq) (w.heap.size + 1) [.int .i64 0, .int .u64 0, .slice none 0 0]) := Lib.hid (((HA4.out.other n1 _).other n1 _).drewN nq)
  have HM5 : Hid (MemIs 136 (((w4.setCell ⟨g, 3, none⟩ (.int .u64 (z : Int))).setCell ⟨g, 2, none⟩ (.int .i64 (1))).drewN nq) bm bw l { c with r := c.r + 1 }) := Lib.hid (((HM4.out.setNew _ _ hgm hgw).setNew _ _ hgm hgw).drewN nq)
  have HB5 : Hid (ButS (fun k => k = bm ∨ k = bw ∨ k = g) w (((w4.setCell ⟨g, 3, none⟩ (.int .u64 (z : Int))).setCell ⟨g, 2, none⟩ (.int .i64 (1))).drewN nq)) := Lib.hid ((((HBa.out.drew.trans (ButS.of_but HB4.out (.inl rfl) (.inr (.inl rfl)))).setCell (.inl (.inr (.inr rfl))) _).setCell (.inl (.inr (.inr rfl))) _).drewN nq)
  have HO5 : Hid (TalObj n gp (((w4.setCell ⟨g, 3, none⟩ (.int .u64 (z : Int))).setCell ⟨g, 2, none⟩ (.int .i64 (1))).drewN nq) s FO) := Lib.hid (HO.out.keep (fun k hk => HB5.out.block k (HSEP.out k hk).1 (fun h => h.elim (HSEP.out k hk).2.1 (fun h => h.elim (HSEP.out k hk).2.2.1 (HSEP.out k hk).2.2.2))) (fun _ h => h))
  generalize ((w4.setCell ⟨g, 3, none⟩ (.int .u64 (z : Int))).setCell ⟨g, 2, none⟩ (.int .i64 (1))).drewN nq = wb at HG5 HT5 HA5 HM5 HB5 HO5 ⊢
  clear fz
  have a0 := HA5.out.cell (i := 0) rfl
  have a1 := HA5.out.cell (i := 1) rfl
  have a2 := HA5.out.cell (i := 2) rfl
  have z0 : wb.frozen? ⟨w.heap.size + 1, 0, none⟩ = false := HA5.out.free
  have z1 : wb.frozen? ⟨w.heap.size + 1, 1, none⟩ = false := HA5.out.free
  have z2 : wb.frozen? ⟨w.heap.size + 1, 2, none⟩ = false := HA5.out.free
  have HX : Hid (RowBlk 45 (((wb.setCell ⟨w.heap.size + 1, 0, none⟩ (.int .i64 0)).setCell ⟨w.heap.size + 1, 1, none⟩ (.int .u64 0)).setCell ⟨w.heap.size + 1, 2, none⟩ (.slice none 0 0)) (w.heap.size + 1) [.int .i64 0, .int .u64 0, .slice none 0 0] ∧ RowBlk 209 (((wb.setCell ⟨w.heap.size + 1, 0, none⟩ (.int .i64 0)).setCell ⟨w.heap.size + 1, 1, none⟩ (.int .u64 0)).setCell ⟨w.heap.size + 1, 2, none⟩ (.slice none 0 0)) g (rdVs gp t (0 + 1) z (.slice none 0 0)) ∧ MemIs 136 (((wb.setCell ⟨w.heap.size + 1, 0, none⟩ (.int .i64 0)).setCell ⟨w.heap.size + 1, 1, none⟩ (.int .u64 0)).setCell ⟨w.heap.size + 1, 2, none⟩ (.slice none 0 0)) bm bw l { c with r := c.r + 1 } ∧ ButS (fun k => k = bm ∨ k = bw ∨ k = g) w (((wb.setCell ⟨w.heap.size + 1, 0, none⟩ (.int .i64 0)).setCell ⟨w.heap.size + 1, 1, none⟩ (.int .u64 0)).setCell ⟨w.heap.size + 1, 2, none⟩ (.slice none 0 0))) := Lib.hid
    ⟨((HA5.out.put 0 _).put 1 _).put 2 _, ((HG5.out.other n2 _).other n2 _).other n2 _, ((HM5.out.setNew _ _ (by omega) (by omega)).setNew _ _ (by omega) (by omega)).setNew _ _ (by omega) (by omega),
      ((HB5.out.setCell (.inr (by show w.heap.size ≤ w.heap.size + 1; omega)) _).setCell (.inr (by show w.heap.size ≤ w.heap.size + 1; omega)) _).setCell (.inr (by show w.heap.size ≤ w.heap.size + 1; omega)) _⟩
  go_wp2_with fail
  generalize (((wb.setCell ⟨w.heap.size + 1, 0, none⟩ (.int .i64 0)).setCell ⟨w.heap.size + 1, 1, none⟩ (.int .u64 0)).setCell ⟨w.heap.size + 1, 2, none⟩ (.slice none 0 0)) = W5 at HX ⊢
  have q0 := HX.out.1.cell (i := 0) rfl
  have q1 := HX.out.1.cell (i := 1) rfl
  have q2 := HX.out.1.cell (i := 2) rfl
  exact bodyPost_ret (v := .tuple #[.agg #[.int .i64 0, .int .u64 0, .slice none 0 0], .bool false]) (by simp [results, Try.results132, go_sem, q0, q1, q2]) rfl ⟨rfl, HX.out.2.2.1, HX.out.2.2.2, by rw [HZ.out]; exact HX.out.2.1⟩
set_option maxRecDepth 100000 in
set_option maxHeartbeats 2000000 in
theorem tal_rd1m (n gp inv k sum g bm bw : Nat) (s : List Nat) (FO : Nat → Prop) (l : List Nat) (c : Cn) (t : Nat) (w : World) (hM : MemIs 136 w bm bw l c) (hg : RowBlk 209 w g (rdVs gp inv k sum (.slice none 0 0))) (hO : TalObj n gp w s FO) (hs : ∀ b, FO b → b < w.heap.size ∧ b ≠ bm ∧ b ≠ bw ∧ b ≠ g) (hk : k < l.length) (hkz : 1 ≤ k) (hl : l.length ≤ 16) (hc : c.r < 9223372036854775807) (hsum : sum + l.getD k 0 ≤ s.length) (hsl : s.length ≤ 70000) (hn : k + 1 < n) (hnn : n ≤ 16) :
    Calls Try.prog 132 #[.pointer (some ⟨g, 0, none⟩), turnAgg bm (t : Int)] w (TalRead gp inv k sum (l.getD k 0) g bm bw l c w) := by
  unfold turnAgg
  have hgm : g ≠ bm := by intro e; have h1 := hg; have h2 := hM.1; unfold RowBlk at h1; rw [e, h2] at h1; simp at h1
  have hgw : g ≠ bw := by intro e; have h1 := hg; have h2 := hM.2.1; unfold RowBlk at h1; rw [e, h2] at h1; simp at h1
  obtain ⟨y, hy⟩ : ∃ y, l.getD k 0 = y := ⟨_, rfl⟩
  rw [hy] at hsum ⊢
  obtain ⟨z, hz⟩ : ∃ z, sum + y = z := ⟨_, rfl⟩
  have HZ := Lib.hid hz
  have HSW : Hid (∀ W : World, MemIs 136 W bm bw l c → Calls Try.prog 156 #[.pointer (some ⟨bm, 0, none⟩), .int .i64 ((k : Int))] W (AccPost (.int .u64 (y : Int)) (.rd k) bm bw l c W)) := Lib.hid (fun W hW => by rw [← hy]; exact rd_acc (i := k) hW hk (by omega) hc)
  have eS : (sum : Int) + (y : Int) = (z : Int) := by omega
  have ES := Lib.hid eS
  have hwz : IntKind.u64.wrap ((sum : Int) + (y : Int)) = (z : Int) := by rw [eS]; unfold IntKind.wrap; simp [IntKind.bits, IntKind.signed]; omega
  clear hy hz eS
  have HM := Lib.hid hM
  have HG := Lib.hid hg
  have HO := Lib.hid hO
  have HSEP := Lib.hid hs
  have hmm := m_Read ⟨bm, 0, none⟩
  have hbm := hM.lt1
  have hbw := hM.lt2
  have hgel := hg.lt
  have hgp := hs gp hO.1
  have hgpl := hgp.1
  have hgpg := hgp.2.2.2
  have hggp : g ≠ gp := fun e => hgpg e.symm
  have c2 : w.cell? ⟨g, 2, none⟩ = some (.int .i64 ((k : Int))) := hg.cell rfl
  have c1 : w.cell? ⟨g, 1, none⟩ = some (.int .i64 (inv : Int)) := hg.cell rfl
  have k0 : ¬ (k : Int) = 0 := by omega
  have k0b : ((k : Int) == 0) = false := by rw [beq_eq_false_iff_ne]; exact k0
  have hwk : IntKind.i64.wrap ((k : Int)) = ((k : Int)) := by unfold IntKind.wrap; simp [IntKind.bits, IntKind.signed]; omega
  have f1 : w.frozen? ⟨g, 1, none⟩ = false := hg.free
  have hk16 : k < 16 := by omega
  clear hM hg hO hs hk hgp
  go_enter Try.func132, Try.ntmps132
  go_wp2_with fail
  have HGa : Hid (RowBlk 209 ((w.alloc (.cells #[.iface 94 (.pointer (some ⟨bm, 0, none⟩)), .int .i64 (t : Int)] 110)).alloc (.cells #[.int .i64 0, .int .u64 0, .slice none 0 0] 45)) g (rdVs gp inv k sum (.slice none 0 0))) := Lib.hid ((((HG.out).alloc _).alloc _))
  have HMa : Hid (MemIs 136 ((w.alloc (.cells #[.iface 94 (.pointer (some ⟨bm, 0, none⟩)), .int .i64 (t : Int)] 110)).alloc (.cells #[.int .i64 0, .int .u64 0, .slice none 0 0] 45)) bm bw l c) := Lib.hid ((((HM.out).alloc _).alloc _))
  have hz0 : w.heap.size = w.heap.size := by first | rfl | simp [World.setCell]
  have HTa : Hid (RowBlk 110 ((w.alloc (.cells #[.iface 94 (.pointer (some ⟨bm, 0, none⟩)), .int .i64 (t : Int)] 110)).alloc (.cells #[.int .i64 0, .int .u64 0, .slice none 0 0] 45)) w.heap.size [.iface 94 (.pointer (some ⟨bm, 0, none⟩)), .int .i64 (t : Int)]) := Lib.hid (by
    have h := RowBlk.new w [.iface 94 (.pointer (some ⟨bm, 0, none⟩)), .int .i64 (t : Int)] 110
    rw [hz0] at h; exact h.alloc _)
  have HAa : Hid (RowBlk 45 ((w.alloc (.cells #[.iface 94 (.pointer (some ⟨bm, 0, none⟩)), .int .i64 (t : Int)] 110)).alloc (.cells #[.int .i64 0, .int .u64 0, .slice none 0 0] 45)) (w.heap.size + 1) [.int .i64 0, .int .u64 0, .slice none 0 0]) := Lib.hid (by
    have h := RowBlk.new (w.alloc (.cells #[.iface 94 (.pointer (some ⟨bm, 0, none⟩)), .int .i64 (t : Int)] 110)) [.int .i64 0, .int .u64 0, .slice none 0 0] 45
    have e : (w.alloc (.cells #[.iface 94 (.pointer (some ⟨bm, 0, none⟩)), .int .i64 (t : Int)] 110)).heap.size = w.heap.size + 1 := by rw [← hz0]; simp
    rw [e] at h; exact h)
  have HBa : Hid (ButS (fun k => k = bm ∨ k = bw ∨ k = g) w ((w.alloc (.cells #[.iface 94 (.pointer (some ⟨bm, 0, none⟩)), .int .i64 (t : Int)] 110)).alloc (.cells #[.int .i64 0, .int .u64 0, .slice none 0 0] 45))) := Lib.hid (((((ButS.refl _ _)).alloc _).alloc _))
  have HOa : Hid (TalObj n gp ((w.alloc (.cells #[.iface 94 (.pointer (some ⟨bm, 0, none⟩)), .int .i64 (t : Int)] 110)).alloc (.cells #[.int .i64 0, .int .u64 0, .slice none 0 0] 45)) s FO) := Lib.hid (HO.out.keep (fun k hk => HBa.out.block k (HSEP.out k hk).1 (fun h => h.elim (HSEP.out k hk).2.1 (fun h => h.elim (HSEP.out k hk).2.2.1 (HSEP.out k hk).2.2.2))) (fun _ h => h))
  generalize ((w.alloc (.cells #[.iface 94 (.pointer (some ⟨bm, 0, none⟩)), .int .i64 (t : Int)] 110)).alloc (.cells #[.int .i64 0, .int .u64 0, .slice none 0 0] 45)) = wa at HGa HMa HTa HAa HBa HOa ⊢
  clear hz0
  have d0 : wa.cell? ⟨g, 0, none⟩ = some (.pointer (some ⟨gp, 0, none⟩)) := HGa.out.cell rfl
  have d2 : wa.cell? ⟨g, 2, none⟩ = some (.int .i64 ((k : Int))) := HGa.out.cell rfl
  have d3 : wa.cell? ⟨g, 3, none⟩ = some (.int .u64 (sum : Int)) := HGa.out.cell rfl
  have dt : wa.cell? ⟨w.heap.size, 0, none⟩ = some (.iface 94 (.pointer (some ⟨bm, 0, none⟩))) := HTa.out.cell rfl
  have dp : wa.cell? ⟨gp, 1, none⟩ = some (.int .i64 0) := by obtain ⟨_, _, ao, L, cap, h3, _⟩ := HOa.out; exact h3.cell rfl
  clear c1 c2 f1
  refine wp_region_tail (S := (fun w' => w'.cell? ⟨g, 0, none⟩ = some (.pointer (some ⟨gp, 0, none⟩)) ∧ w'.cell? ⟨g, 2, none⟩ = some (.int .i64 ((k : Int))) ∧ w'.cell? ⟨g, 3, none⟩ = some (.int .u64 (sum : Int)) ∧ w'.cell? ⟨w.heap.size, 0, none⟩ = some (.iface 94 (.pointer (some ⟨bm, 0, none⟩))) ∧ w'.cell? ⟨gp, 1, none⟩ = some (.int .i64 0))) 22 (by kernel_rfl) (by kernel_rfl) ?_ (fun hHeld => ?_)
  · first | with_reducible exact ⟨d0, d2, d3, dt, dp⟩ | go_keep
  simp only [List.take_succ_cons, List.take_zero]
  refine wpAnyH_take (i := 0) (oi := _) (v := ?v0) rfl (by kernel_rfl) (by kernel_rfl) (by kernel_rfl) (fun _ _ _ h => h) (Or.inl ⟨by kernel_rfl, ?hy0⟩) (by assumption) ?rest0
  case hy0 => (intro w hSw; (try dsimp only at hSw); go_simp <;> with_reducible rfl)
  try simp only [Act.put, List.getElem_toArray, List.getElem_cons_zero, List.getElem_cons_succ, List.setIfInBounds_toArray, List.set_cons_zero, List.set_cons_succ]
  refine wpAnyH_take (i := 1) (oi := _) (v := ?v1) rfl (by kernel_rfl) (by kernel_rfl) (by kernel_rfl) (fun _ _ _ h => h) (Or.inl ⟨by kernel_rfl, ?hy1⟩) (by assumption) ?rest1
  case hy1 => (intro w hSw; (try dsimp only at hSw); go_simp <;> with_reducible rfl)
  try simp only [Act.put, List.getElem_toArray, List.getElem_cons_zero, List.getElem_cons_succ, List.setIfInBounds_toArray, List.set_cons_zero, List.set_cons_succ]
  refine wpAnyH_take (i := 2) (oi := _) (v := ?v2) rfl (by kernel_rfl) (by kernel_rfl) (by kernel_rfl) (fun _ _ _ h => h) (Or.inl ⟨by kernel_rfl, ?hy2⟩) (by assumption) ?rest2
  case hy2 => (intro w hSw; (try dsimp only at hSw); go_simp <;> with_reducible rfl)
  try simp only [Act.put, List.getElem_toArray, List.getElem_cons_zero, List.getElem_cons_succ, List.setIfInBounds_toArray, List.set_cons_zero, List.set_cons_succ]
  refine wpAnyH_take (i := 3) (oi := _) (v := ?v3) rfl (by kernel_rfl) (by kernel_rfl) (by kernel_rfl) (fun _ _ _ h => h) (Or.inl ⟨by kernel_rfl, ?hy3⟩) (by assumption) ?rest3
  case hy3 => (intro w hSw; (try dsimp only at hSw); go_simp <;> with_reducible rfl)
  try simp only [Act.put, List.getElem_toArray, List.getElem_cons_zero, List.getElem_cons_succ, List.setIfInBounds_toArray, List.set_cons_zero, List.set_cons_succ]
  refine wpAnyH_take (i := 4) (oi := _) (v := ?v4) rfl (by kernel_rfl) (by kernel_rfl) (by kernel_rfl) (fun _ _ _ h => h) (Or.inl ⟨by kernel_rfl, ?hy4⟩) (by assumption) ?rest4
  case hy4 => (intro w hSw; (try dsimp only at hSw); go_simp <;> with_reducible rfl)
  try simp only [Act.put, List.getElem_toArray, List.getElem_cons_zero, List.getElem_cons_succ, List.setIfInBounds_toArray, List.set_cons_zero, List.set_cons_succ]
  refine wpAnyH_take (i := 5) (oi := _) (v := ?v5) rfl (by kernel_rfl) (by kernel_rfl) (by kernel_rfl) (fun _ _ _ h => h) (Or.inl ⟨by kernel_rfl, ?hy5⟩) (by assumption) ?rest5
  case hy5 => (intro w hSw; (try dsimp only at hSw); go_simp <;> with_reducible rfl)
  try simp only [Act.put, List.getElem_toArray, List.getElem_cons_zero, List.getElem_cons_succ, List.setIfInBounds_toArray, List.set_cons_zero, List.set_cons_succ]
  refine wpAnyH_take (i := 6) (oi := _) (v := ?v6) rfl (by kernel_rfl) (by kernel_rfl) (by kernel_rfl) (fun _ _ _ h => h) (Or.inl ⟨by kernel_rfl, ?hy6⟩) (by assumption) ?rest6
  case hy6 => (intro w hSw; (try dsimp only at hSw); go_simp <;> with_reducible rfl)
  try simp only [Act.put, List.getElem_toArray, List.getElem_cons_zero, List.getElem_cons_succ, List.setIfInBounds_toArray, List.set_cons_zero, List.set_cons_succ]
  refine wpAnyH_take (i := 7) (oi := _) (v := ?v7) rfl (by kernel_rfl) (by kernel_rfl) (by kernel_rfl) (fun _ _ _ h => h) (Or.inl ⟨by kernel_rfl, ?hy7⟩) (by assumption) ?rest7
  case hy7 => (intro w hSw; (try dsimp only at hSw); go_simp <;> with_reducible rfl)
  try simp only [Act.put, List.getElem_toArray, List.getElem_cons_zero, List.getElem_cons_succ, List.setIfInBounds_toArray, List.set_cons_zero, List.set_cons_succ]
  refine wpAnyH_take (i := 8) (oi := _) (v := ?v8) rfl (by kernel_rfl) (by kernel_rfl) (by kernel_rfl) (fun _ _ _ h => h) (Or.inl ⟨by kernel_rfl, ?hy8⟩) (by assumption) ?rest8
  case hy8 => (intro w hSw; (try dsimp only at hSw); go_simp <;> with_reducible rfl)
  try simp only [Act.put, List.getElem_toArray, List.getElem_cons_zero, List.getElem_cons_succ, List.setIfInBounds_toArray, List.set_cons_zero, List.set_cons_succ]
  refine wpAnyH_take (i := 9) (oi := _) (v := ?v9) rfl (by kernel_rfl) (by kernel_rfl) (by kernel_rfl) (fun _ _ _ h => h) (Or.inl ⟨by kernel_rfl, ?hy9⟩) (by assumption) ?rest9
  case hy9 => (intro w hSw; (try dsimp only at hSw); go_simp <;> with_reducible rfl)
  try simp only [Act.put, List.getElem_toArray, List.getElem_cons_zero, List.getElem_cons_succ, List.setIfInBounds_toArray, List.set_cons_zero, List.set_cons_succ]
  refine wpAnyH_take (i := 10) (oi := _) (v := ?v10) rfl (by kernel_rfl) (by kernel_rfl) (by kernel_rfl) (fun _ _ _ h => h) (Or.inl ⟨by kernel_rfl, ?hy10⟩) (by assumption) ?rest10
  case hy10 => (intro w hSw; (try dsimp only at hSw); go_simp <;> with_reducible rfl)
  try simp only [Act.put, List.getElem_toArray, List.getElem_cons_zero, List.getElem_cons_succ, List.setIfInBounds_toArray, List.set_cons_zero, List.set_cons_succ]
  refine wpAnyH_take (i := 11) (oi := _) (v := ?v11) rfl (by kernel_rfl) (by kernel_rfl) (by kernel_rfl) (fun _ _ _ h => h) (Or.inl ⟨by kernel_rfl, ?hy11⟩) (by assumption) ?rest11
  case hy11 => (intro w hSw; (try dsimp only at hSw); go_simp <;> with_reducible rfl)
  try simp only [Act.put, List.getElem_toArray, List.getElem_cons_zero, List.getElem_cons_succ, List.setIfInBounds_toArray, List.set_cons_zero, List.set_cons_succ]
  refine wpAnyH_take (i := 12) (oi := _) (v := ?v12) rfl (by kernel_rfl) (by kernel_rfl) (by kernel_rfl) (fun _ _ _ h => h) (Or.inl ⟨by kernel_rfl, ?hy12⟩) (by assumption) ?rest12
  case hy12 => (intro w hSw; (try dsimp only at hSw); go_simp <;> with_reducible rfl)
  try simp only [Act.put, List.getElem_toArray, List.getElem_cons_zero, List.getElem_cons_succ, List.setIfInBounds_toArray, List.set_cons_zero, List.set_cons_succ]
  refine wpAnyH_take (i := 13) (oi := _) (v := ?v13) rfl (by kernel_rfl) (by kernel_rfl) (by kernel_rfl) (fun _ _ _ h => h) (Or.inl ⟨by kernel_rfl, ?hy13⟩) (by assumption) ?rest13
  case hy13 => (intro w hSw; (try dsimp only at hSw); go_simp <;> with_reducible rfl)
  try simp only [Act.put, List.getElem_toArray, List.getElem_cons_zero, List.getElem_cons_succ, List.setIfInBounds_toArray, List.set_cons_zero, List.set_cons_succ]
  refine wpAnyH_take (i := 14) (oi := _) (v := ?v14) rfl (by kernel_rfl) (by kernel_rfl) (by kernel_rfl) (fun _ _ _ h => h) (Or.inl ⟨by kernel_rfl, ?hy14⟩) (by assumption) ?rest14
  case hy14 => (intro w hSw; (try dsimp only at hSw); go_simp <;> with_reducible rfl)
  try simp only [Act.put, List.getElem_toArray, List.getElem_cons_zero, List.getElem_cons_succ, List.setIfInBounds_toArray, List.set_cons_zero, List.set_cons_succ]
  refine wpAnyH_take (i := 15) (oi := _) (v := ?v15) rfl (by kernel_rfl) (by kernel_rfl) (by kernel_rfl) (fun _ _ _ h => h) (Or.inl ⟨by kernel_rfl, ?hy15⟩) (by assumption) ?rest15
  case hy15 => (intro w hSw; (try dsimp only at hSw); go_simp <;> with_reducible rfl)
  try simp only [Act.put, List.getElem_toArray, List.getElem_cons_zero, List.getElem_cons_succ, List.setIfInBounds_toArray, List.set_cons_zero, List.set_cons_succ]
  refine wpAnyH_take (i := 16) (oi := _) (v := ?v16) rfl (by kernel_rfl) (by kernel_rfl) (by kernel_rfl) (fun _ _ _ h => h) (Or.inl ⟨by kernel_rfl, ?hy16⟩) (by assumption) ?rest16
  case hy16 => (intro w hSw; (try dsimp only at hSw); go_simp <;> with_reducible rfl)
  try simp only [Act.put, List.getElem_toArray, List.getElem_cons_zero, List.getElem_cons_succ, List.setIfInBounds_toArray, List.set_cons_zero, List.set_cons_succ]
  refine wpAnyH_take (i := 17) (oi := _) (v := ?v17) rfl (by kernel_rfl) (by kernel_rfl) (by kernel_rfl) (fun _ _ _ h => h) (Or.inl ⟨by kernel_rfl, ?hy17⟩) (by assumption) ?rest17
  case hy17 => (intro w hSw; (try dsimp only at hSw); go_simp <;> with_reducible rfl)
  try simp only [Act.put, List.getElem_toArray, List.getElem_cons_zero, List.getElem_cons_succ, List.setIfInBounds_toArray, List.set_cons_zero, List.set_cons_succ]
  refine wpAnyH_take (i := 18) (oi := _) (v := ?v18) rfl (by kernel_rfl) (by kernel_rfl) (by kernel_rfl) (fun _ _ _ h => h) (Or.inl ⟨by kernel_rfl, ?hy18⟩) (by assumption) ?rest18
  case hy18 => (intro w hSw; (try dsimp only at hSw); go_simp <;> with_reducible rfl)
  try simp only [Act.put, List.getElem_toArray, List.getElem_cons_zero, List.getElem_cons_succ, List.setIfInBounds_toArray, List.set_cons_zero, List.set_cons_succ]
  refine wpAnyH_take (i := 19) (oi := _) (v := ?v19) rfl (by kernel_rfl) (by kernel_rfl) (by kernel_rfl) (fun _ _ _ h => h) (Or.inl ⟨by kernel_rfl, ?hy19⟩) (by assumption) ?rest19
  case hy19 => (intro w hSw; (try dsimp only at hSw); go_simp <;> with_reducible rfl)
  try simp only [Act.put, List.getElem_toArray, List.getElem_cons_zero, List.getElem_cons_succ, List.setIfInBounds_toArray, List.set_cons_zero, List.set_cons_succ]
  refine wpAnyH_ready (rs := [20]) (by kernel_rfl) (by simp) ?_
  refine AllReadyH.cons (o := _) rfl (fun K hK => ?_) AllReadyH.nil
  go_simp
  go_at_call 156
  refine (HSW.out _ HMa.out.drew).mono ?_
  rintro e w4 ⟨rfl, hM4, hB4⟩
  have hG4 := RowBlk.same HGa.out.drew (hB4.block g HGa.out.lt hgm hgw)
  have hT4 := RowBlk.same HTa.out.drew (hB4.block w.heap.size HTa.out.lt (by omega) (by omega))
  have hA4 := RowBlk.same HAa.out.drew (hB4.block (w.heap.size + 1) HAa.out.lt (by omega) (by omega))
  have HO4 : Hid (TalObj n gp w4 s FO) := Lib.hid (HOa.out.keep (fun k hk => hB4.block k (by have h1 := (HSEP.out k hk).1; have h2 := HBa.out.size; show k < wa.heap.size; omega) (HSEP.out k hk).2.1 (HSEP.out k hk).2.2.1) (fun _ h => h))
  have e0 : w4.cell? ⟨g, 0, none⟩ = some (.pointer (some ⟨gp, 0, none⟩)) := hG4.cell rfl
  have e2 : w4.cell? ⟨g, 2, none⟩ = some (.int .i64 ((k : Int))) := hG4.cell rfl
  have e3 : w4.cell? ⟨g, 3, none⟩ = some (.int .u64 (sum : Int)) := hG4.cell rfl
  have et : w4.cell? ⟨w.heap.size, 0, none⟩ = some (.iface 94 (.pointer (some ⟨bm, 0, none⟩))) := hT4.cell rfl
  have ep : w4.cell? ⟨gp, 1, none⟩ = some (.int .i64 0) := by obtain ⟨_, _, ao, L, cap, h3, _⟩ := HO4.out; exact h3.cell rfl
  have HG4 := Lib.hid hG4
  have HT4 := Lib.hid hT4
  have HA4 := Lib.hid hA4
  have HM4 := Lib.hid hM4
  have HB4 := Lib.hid hB4
  clear hG4 hT4 hM4 hB4 hA4
  go_simp
  refine hK.out _ _ ?_ (fun hHeld => ?_)
  · with_reducible exact ⟨e0, e2, e3, et, ep⟩
  clear hK K
  try simp only [Act.put, List.getElem_toArray, List.getElem_cons_zero, List.getElem_cons_succ, List.setIfInBounds_toArray, List.set_cons_zero, List.set_cons_succ]
  refine wpAnyH_take (i := 21) (oi := _) (v := ?v21) rfl (by kernel_rfl) (by kernel_rfl) (by kernel_rfl) (fun _ _ _ h => h) (Or.inl ⟨by kernel_rfl, ?hy21⟩) (by assumption) ?rest21
  case hy21 => (intro w hSw; (try dsimp only at hSw); go_simp <;> with_reducible rfl)
  try simp only [Act.put, List.getElem_toArray, List.getElem_cons_zero, List.getElem_cons_succ, List.setIfInBounds_toArray, List.set_cons_zero, List.set_cons_succ]
  refine wpAnyH_done (by kernel_rfl) ?_ _
  dsimp only [tailQ]
  simp only [List.drop_succ_cons, List.drop_zero, List.take_succ_cons, List.take_zero, List.getElem_cons_succ, List.getElem_cons_zero, List.set_cons_zero, List.set_cons_succ]
  try rw [ES.out]
  clear hHeld
  have fz : ∀ j, w4.frozen? ⟨g, j, none⟩ = false := fun j => HG4.out.free
  have n1 : w.heap.size + 1 ≠ g := by omega
  have n2 : g ≠ w.heap.size + 1 := by omega
  have n3 : w.heap.size ≠ g := by omega
  have g1 : w4.cell? ⟨gp, 0, none⟩ = some (.int .i64 (n : Int)) := by obtain ⟨_, _, ao, L, cap, h3, _⟩ := HO4.out; exact h3.cell rfl
  have kn : ((k : Int)) + 1 < (n : Int) := by omega
  go_wp2_with fail
  go_quiet (fail)
  have ek : ((k + 1 : Nat) : Int) = (k : Int) + 1 := by omega
  have HG5 : Hid (RowBlk 209 (((w4.setCell ⟨g, 3, none⟩ (.int .u64 (z : Int))).setCell ⟨g, 2, none⟩ (.int .i64 ((k : Int) + 1))).drewN nq) g (rdVs gp inv (k + 1) z (.slice none 0 0))) := Lib.hid (by
    have h1 := ((HG4.out.put 3 (.int .u64 (z : Int))).put 2 (.int .i64 ((k : Int) + 1))).drewN nq
    unfold rdVs at h1 ⊢
    rw [ek]; exact h1)
  have HT5 : Hid (RowBlk 110 (((w4.setCell ⟨g, 3, none⟩ (.int .u64 (z : Int))).setCell ⟨g, 2, none⟩ (.int .i64 ((k : Int) + 1))).drewN nq) w.heap.size [.iface 94 (.pointer (some ⟨bm, 0, none⟩)), .int .i64 (t : Int)]) := Lib.hid (((HT4.out.other n3 _).other n3 _).drewN nq)
  have HA5 : Hid (RowBlk 45 (((w4.setCell ⟨g, 3, none⟩ (.int .u64 (z : Int))).setCell ⟨g, 2, none⟩ (.int .i64 ((k : Int) + 1))).drewN nq) (w.heap.size + 1) [.int .i64 0, .int .u64 0, .slice none 0 0]) := Lib.hid (((HA4.out.other n1 _).other n1 _).drewN nq)
  have HM5 : Hid (MemIs 136 (((w4.setCell ⟨g, 3, none⟩ (.int .u64 (z : Int))).setCell ⟨g, 2, none⟩ (.int .i64 ((k : Int) + 1))).drewN nq) bm bw l { c with r := c.r + 1 }) := Lib.hid (((HM4.out.setNew _ _ hgm hgw).setNew _ _ hgm hgw).drewN nq)
  have HB5 : Hid (ButS (fun k => k = bm ∨ k = bw ∨ k = g) w (((w4.setCell ⟨g, 3, none⟩ (.int .u64 (z : Int))).setCell ⟨g, 2, none⟩ (.int .i64 ((k : Int) + 1))).drewN nq)) := Lib.hid ((((HBa.out.drew.trans (ButS.of_but HB4.out (.inl rfl) (.inr (.inl rfl)))).setCell (.inl (.inr (.inr rfl))) _).setCell (.inl (.inr (.inr rfl))) _).drewN nq)
  have HO5 : Hid (TalObj n gp (((w4.setCell ⟨g, 3, none⟩ (.int .u64 (z : Int))).setCell ⟨g, 2, none⟩ (.int .i64 ((k : Int) + 1))).drewN nq) s FO) := Lib.hid (HO.out.keep (fun k hk => HB5.out.block k (HSEP.out k hk).1 (fun h => h.elim (HSEP.out k hk).2.1 (fun h => h.elim (HSEP.out k hk).2.2.1 (HSEP.out k hk).2.2.2))) (fun _ h => h))
  generalize ((w4.setCell ⟨g, 3, none⟩ (.int .u64 (z : Int))).setCell ⟨g, 2, none⟩ (.int .i64 ((k : Int) + 1))).drewN nq = wb at HG5 HT5 HA5 HM5 HB5 HO5 ⊢
  clear fz
  have a0 := HA5.out.cell (i := 0) rfl
  have a1 := HA5.out.cell (i := 1) rfl
  have a2 := HA5.out.cell (i := 2) rfl
  have z0 : wb.frozen? ⟨w.heap.size + 1, 0, none⟩ = false := HA5.out.free
  have z1 : wb.frozen? ⟨w.heap.size + 1, 1, none⟩ = false := HA5.out.free
  have z2 : wb.frozen? ⟨w.heap.size + 1, 2, none⟩ = false := HA5.out.free
  have HX : Hid (RowBlk 45 (((wb.setCell ⟨w.heap.size + 1, 0, none⟩ (.int .i64 0)).setCell ⟨w.heap.size + 1, 1, none⟩ (.int .u64 0)).setCell ⟨w.heap.size + 1, 2, none⟩ (.slice none 0 0)) (w.heap.size + 1) [.int .i64 0, .int .u64 0, .slice none 0 0] ∧ RowBlk 209 (((wb.setCell ⟨w.heap.size + 1, 0, none⟩ (.int .i64 0)).setCell ⟨w.heap.size + 1, 1, none⟩ (.int .u64 0)).setCell ⟨w.heap.size + 1, 2, none⟩ (.slice none 0 0)) g (rdVs gp inv (k + 1) z (.slice none 0 0)) ∧ MemIs 136 (((wb.setCell ⟨w.heap.size + 1, 0, none⟩ (.int .i64 0)).setCell ⟨w.heap.size + 1, 1, none⟩ (.int .u64 0)).setCell ⟨w.heap.size + 1, 2, none⟩ (.slice none 0 0)) bm bw l { c with r := c.r + 1 } ∧ ButS (fun k => k = bm ∨ k = bw ∨ k = g) w (((wb.setCell ⟨w.heap.size + 1, 0, none⟩ (.int .i64 0)).setCell ⟨w.heap.size + 1, 1, none⟩ (.int .u64 0)).setCell ⟨w.heap.size + 1, 2, none⟩ (.slice none 0 0))) := Lib.hid
    ⟨((HA5.out.put 0 _).put 1 _).put 2 _, ((HG5.out.other n2 _).other n2 _).other n2 _, ((HM5.out.setNew _ _ (by omega) (by omega)).setNew _ _ (by omega) (by omega)).setNew _ _ (by omega) (by omega),
      ((HB5.out.setCell (.inr (by show w.heap.size ≤ w.heap.size + 1; omega)) _).setCell (.inr (by show w.heap.size ≤ w.heap.size + 1; omega)) _).setCell (.inr (by show w.heap.size ≤ w.heap.size + 1; omega)) _⟩
  go_wp2_with fail
  generalize (((wb.setCell ⟨w.heap.size + 1, 0, none⟩ (.int .i64 0)).setCell ⟨w.heap.size + 1, 1, none⟩ (.int .u64 0)).setCell ⟨w.heap.size + 1, 2, none⟩ (.slice none 0 0)) = W5 at HX ⊢
  have q0 := HX.out.1.cell (i := 0) rfl
  have q1 := HX.out.1.cell (i := 1) rfl
  have q2 := HX.out.1.cell (i := 2) rfl
  exact bodyPost_ret (v := .tuple #[.agg #[.int .i64 0, .int .u64 0, .slice none 0 0], .bool false]) (by simp [results, Try.results132, go_sem, q0, q1, q2]) rfl ⟨rfl, HX.out.2.2.1, HX.out.2.2.2, by rw [HZ.out]; exact HX.out.2.1⟩
set_option maxRecDepth 100000 in
set_option maxHeartbeats 2000000 in
theorem tal_rd0l (n gp inv sum g bm bw : Nat) (s : List Nat) (FO : Nat → Prop) (l : List Nat) (c : Cn) (t : Nat) (w : World) (hM : MemIs 136 w bm bw l c) (hg : RowBlk 209 w g (rdVs gp inv 0 sum (.slice none 0 0))) (hO : TalObj n gp w s FO) (hs : ∀ b, FO b → b < w.heap.size ∧ b ≠ bm ∧ b ≠ bw ∧ b ≠ g) (hk : 0 < l.length) (hl : l.length ≤ 16) (hc : c.r < 9223372036854775807) (hsum : sum + l.getD 0 0 ≤ s.length) (hsl : s.length ≤ 70000) (hn : n ≤ 0 + 1) (hnn : n ≤ 16) (ht : t ≤ 70000) (hin : inv ≤ 70000) :
    Calls Try.prog 132 #[.pointer (some ⟨g, 0, none⟩), turnAgg bm (t : Int)] w (TalReadL gp t 0 sum (l.getD 0 0) (max t (nthL s (sum + l.getD 0 0))) t g bm bw l c w) := by
  unfold turnAgg
  have hgm : g ≠ bm := by intro e; have h1 := hg; have h2 := hM.1; unfold RowBlk at h1; rw [e, h2] at h1; simp at h1
  have hgw : g ≠ bw := by intro e; have h1 := hg; have h2 := hM.2.1; unfold RowBlk at h1; rw [e, h2] at h1; simp at h1
  obtain ⟨y, hy⟩ : ∃ y, l.getD 0 0 = y := ⟨_, rfl⟩
  rw [hy] at hsum ⊢
  obtain ⟨z, hz⟩ : ∃ z, sum + y = z := ⟨_, rfl⟩
  have HZ := Lib.hid hz
  have HSW : Hid (∀ W : World, MemIs 136 W bm bw l c → Calls Try.prog 156 #[.pointer (some ⟨bm, 0, none⟩), .int .i64 (0)] W (AccPost (.int .u64 (y : Int)) (.rd 0) bm bw l c W)) := Lib.hid (fun W hW => by rw [← hy]; exact rd_acc (i := 0) hW hk (by omega) hc)
  have HNTH : Hid (∀ W : World, TalObj n gp W s FO → Calls Try.prog 133 #[.pointer (some ⟨gp, 2, none⟩), .int .u64 (z : Int)] W fun e w' => e = .returned (.int .i64 (nthL s z : Nat)) ∧ W = w') := Lib.hid (fun W hW => tal_nth (k := z) hW (by omega) hsl)
  have HNB : Hid (nthL s z ≤ 70000) := Lib.hid (nth_le' (fun x hx => hO.2.1 x hx))
  have eS : (sum : Int) + (y : Int) = (z : Int) := by omega
  have ES := Lib.hid eS
  have hwz : IntKind.u64.wrap ((sum : Int) + (y : Int)) = (z : Int) := by rw [eS]; unfold IntKind.wrap; simp [IntKind.bits, IntKind.signed]; omega
  clear hy hz eS
  have HM := Lib.hid hM
  have HG := Lib.hid hg
  have HO := Lib.hid hO
  have HSEP := Lib.hid hs
  have hmm := m_Read ⟨bm, 0, none⟩
  have hbm := hM.lt1
  have hbw := hM.lt2
  have hgel := hg.lt
  have hgp := hs gp hO.1
  have hgpl := hgp.1
  have hgpg := hgp.2.2.2
  have hggp : g ≠ gp := fun e => hgpg e.symm
  have c2 : w.cell? ⟨g, 2, none⟩ = some (.int .i64 (0)) := hg.cell rfl
  have c1 : w.cell? ⟨g, 1, none⟩ = some (.int .i64 (inv : Int)) := hg.cell rfl
  have hwk : IntKind.i64.wrap (0) = (0) := by unfold IntKind.wrap; simp [IntKind.bits, IntKind.signed]
  have f1 : w.frozen? ⟨g, 1, none⟩ = false := hg.free
  clear hM hg hO hs hk hgp
  go_enter Try.func132, Try.ntmps132
  go_wp2_with fail
  have HGa : Hid (RowBlk 209 (((w.setCell ⟨g, 1, none⟩ (.int .i64 (t : Int))).alloc (.cells #[.iface 94 (.pointer (some ⟨bm, 0, none⟩)), .int .i64 (t : Int)] 110)).alloc (.cells #[.int .i64 0, .int .u64 0, .slice none 0 0] 45)) g (rdVs gp t 0 sum (.slice none 0 0))) := Lib.hid ((((HG.out.put 1 _).alloc _).alloc _))
  have HMa : Hid (MemIs 136 (((w.setCell ⟨g, 1, none⟩ (.int .i64 (t : Int))).alloc (.cells #[.iface 94 (.pointer (some ⟨bm, 0, none⟩)), .int .i64 (t : Int)] 110)).alloc (.cells #[.int .i64 0, .int .u64 0, .slice none 0 0] 45)) bm bw l c) := Lib.hid ((((HM.out.setNew _ _ hgm hgw).alloc _).alloc _))
  have hz0 : (w.setCell ⟨g, 1, none⟩ (.int .i64 (t : Int))).heap.size = w.heap.size := by first | rfl | simp [World.setCell]
  have HTa : Hid (RowBlk 110 (((w.setCell ⟨g, 1, none⟩ (.int .i64 (t : Int))).alloc (.cells #[.iface 94 (.pointer (some ⟨bm, 0, none⟩)), .int .i64 (t : Int)] 110)).alloc (.cells #[.int .i64 0, .int .u64 0, .slice none 0 0] 45)) w.heap.size [.iface 94 (.pointer (some ⟨bm, 0, none⟩)), .int .i64 (t : Int)]) := Lib.hid (by
    have h := RowBlk.new (w.setCell ⟨g, 1, none⟩ (.int .i64 (t : Int))) [.iface 94 (.pointer (some ⟨bm, 0, none⟩)), .int .i64 (t : Int)] 110
    rw [hz0] at h; exact h.alloc _)
  have HAa : Hid (RowBlk 45 (((w.setCell ⟨g, 1, none⟩ (.int .i64 (t : Int))).alloc (.cells #[.iface 94 (.pointer (some ⟨bm, 0, none⟩)), .int .i64 (t : Int)] 110)).alloc (.cells #[.int .i64 0, .int .u64 0, .slice none 0 0] 45)) (w.heap.size + 1) [.int .i64 0, .int .u64 0, .slice none 0 0]) := Lib.hid (by
    have h := RowBlk.new ((w.setCell ⟨g, 1, none⟩ (.int .i64 (t : Int))).alloc (.cells #[.iface 94 (.pointer (some ⟨bm, 0, none⟩)), .int .i64 (t : Int)] 110)) [.int .i64 0, .int .u64 0, .slice none 0 0] 45
    have e : ((w.setCell ⟨g, 1, none⟩ (.int .i64 (t : Int))).alloc (.cells #[.iface 94 (.pointer (some ⟨bm, 0, none⟩)), .int .i64 (t : Int)] 110)).heap.size = w.heap.size + 1 := by rw [← hz0]; simp
    rw [e] at h; exact h)
  have HBa : Hid (ButS (fun k => k = bm ∨ k = bw ∨ k = g) w (((w.setCell ⟨g, 1, none⟩ (.int .i64 (t : Int))).alloc (.cells #[.iface 94 (.pointer (some ⟨bm, 0, none⟩)), .int .i64 (t : Int)] 110)).alloc (.cells #[.int .i64 0, .int .u64 0, .slice none 0 0] 45))) := Lib.hid (((((ButS.refl _ _).setCell (.inl (.inr (.inr rfl))) _).alloc _).alloc _))
  have HOa : Hid (TalObj n gp (((w.setCell ⟨g, 1, none⟩ (.int .i64 (t : Int))).alloc (.cells #[.iface 94 (.pointer (some ⟨bm, 0, none⟩)), .int .i64 (t : Int)] 110)).alloc (.cells #[.int .i64 0, .int .u64 0, .slice none 0 0] 45)) s FO) := Lib.hid (HO.out.keep (fun k hk => HBa.out.block k (HSEP.out k hk).1 (fun h => h.elim (HSEP.out k hk).2.1 (fun h => h.elim (HSEP.out k hk).2.2.1 (HSEP.out k hk).2.2.2))) (fun _ h => h))
  generalize (((w.setCell ⟨g, 1, none⟩ (.int .i64 (t : Int))).alloc (.cells #[.iface 94 (.pointer (some ⟨bm, 0, none⟩)), .int .i64 (t : Int)] 110)).alloc (.cells #[.int .i64 0, .int .u64 0, .slice none 0 0] 45)) = wa at HGa HMa HTa HAa HBa HOa ⊢
  clear hz0
  have d0 : wa.cell? ⟨g, 0, none⟩ = some (.pointer (some ⟨gp, 0, none⟩)) := HGa.out.cell rfl
  have d2 : wa.cell? ⟨g, 2, none⟩ = some (.int .i64 (0)) := HGa.out.cell rfl
  have d3 : wa.cell? ⟨g, 3, none⟩ = some (.int .u64 (sum : Int)) := HGa.out.cell rfl
  have dt : wa.cell? ⟨w.heap.size, 0, none⟩ = some (.iface 94 (.pointer (some ⟨bm, 0, none⟩))) := HTa.out.cell rfl
  have dp : wa.cell? ⟨gp, 1, none⟩ = some (.int .i64 0) := by obtain ⟨_, _, ao, L, cap, h3, _⟩ := HOa.out; exact h3.cell rfl
  clear c1 c2 f1
  refine wp_region_tail (S := (fun w' => w'.cell? ⟨g, 0, none⟩ = some (.pointer (some ⟨gp, 0, none⟩)) ∧ w'.cell? ⟨g, 2, none⟩ = some (.int .i64 (0)) ∧ w'.cell? ⟨g, 3, none⟩ = some (.int .u64 (sum : Int)) ∧ w'.cell? ⟨w.heap.size, 0, none⟩ = some (.iface 94 (.pointer (some ⟨bm, 0, none⟩))) ∧ w'.cell? ⟨gp, 1, none⟩ = some (.int .i64 0))) 22 (by kernel_rfl) (by kernel_rfl) ?_ (fun hHeld => ?_)
  · first | with_reducible exact ⟨d0, d2, d3, dt, dp⟩ | go_keep
  simp only [List.take_succ_cons, List.take_zero]
  refine wpAnyH_take (i := 0) (oi := _) (v := ?v0) rfl (by kernel_rfl) (by kernel_rfl) (by kernel_rfl) (fun _ _ _ h => h) (Or.inl ⟨by kernel_rfl, ?hy0⟩) (by assumption) ?rest0
  case hy0 => (intro w hSw; (try dsimp only at hSw); go_simp <;> with_reducible rfl)
  try simp only [Act.put, List.getElem_toArray, List.getElem_cons_zero, List.getElem_cons_succ, List.setIfInBounds_toArray, List.set_cons_zero, List.set_cons_succ]
  refine wpAnyH_take (i := 1) (oi := _) (v := ?v1) rfl (by kernel_rfl) (by kernel_rfl) (by kernel_rfl) (fun _ _ _ h => h) (Or.inl ⟨by kernel_rfl, ?hy1⟩) (by assumption) ?rest1
  case hy1 => (intro w hSw; (try dsimp only at hSw); go_simp <;> with_reducible rfl)
  try simp only [Act.put, List.getElem_toArray, List.getElem_cons_zero, List.getElem_cons_succ, List.setIfInBounds_toArray, List.set_cons_zero, List.set_cons_succ]
  refine wpAnyH_take (i := 2) (oi := _) (v := ?v2) rfl (by kernel_rfl) (by kernel_rfl) (by kernel_rfl) (fun _ _ _ h => h) (Or.inl ⟨by kernel_rfl, ?hy2⟩) (by assumption) ?rest2
  case hy2 => (intro w hSw; (try dsimp only at hSw); go_simp <;> with_reducible rfl)
  try simp only [Act.put, List.getElem_toArray, List.getElem_cons_zero, List.getElem_cons_succ, List.setIfInBounds_toArray, List.set_cons_zero, List.set_cons_succ]
  refine wpAnyH_take (i := 3) (oi := _) (v := ?v3) rfl (by kernel_rfl) (by kernel_rfl) (by kernel_rfl) (fun _ _ _ h => h) (Or.inl ⟨by kernel_rfl, ?hy3⟩) (by assumption) ?rest3
  case hy3 => (intro w hSw; (try dsimp only at hSw); go_simp <;> with_reducible rfl)
  try simp only [Act.put, List.getElem_toArray, List.getElem_cons_zero, List.getElem_cons_succ, List.setIfInBounds_toArray, List.set_cons_zero, List.set_cons_succ]
  refine wpAnyH_take (i := 4) (oi := _) (v := ?v4) rfl (by kernel_rfl) (by kernel_rfl) (by kernel_rfl) (fun _ _ _ h => h) (Or.inl ⟨by kernel_rfl, ?hy4⟩) (by assumption) ?rest4
  case hy4 => (intro w hSw; (try dsimp only at hSw); go_simp <;> with_reducible rfl)
  try simp only [Act.put, List.getElem_toArray, List.getElem_cons_zero, List.getElem_cons_succ, List.setIfInBounds_toArray, List.set_cons_zero, List.set_cons_succ]
  refine wpAnyH_take (i := 5) (oi := _) (v := ?v5) rfl (by kernel_rfl) (by kernel_rfl) (by kernel_rfl) (fun _ _ _ h => h) (Or.inl ⟨by kernel_rfl, ?hy5⟩) (by assumption) ?rest5
  case hy5 => (intro w hSw; (try dsimp only at hSw); go_simp <;> with_reducible rfl)
  try simp only [Act.put, List.getElem_toArray, List.getElem_cons_zero, List.getElem_cons_succ, List.setIfInBounds_toArray, List.set_cons_zero, List.set_cons_succ]
  refine wpAnyH_take (i := 6) (oi := _) (v := ?v6) rfl (by kernel_rfl) (by kernel_rfl) (by kernel_rfl) (fun _ _ _ h => h) (Or.inl ⟨by kernel_rfl, ?hy6⟩) (by assumption) ?rest6
  case hy6 => (intro w hSw; (try dsimp only at hSw); go_simp <;> with_reducible rfl)
  try simp only [Act.put, List.getElem_toArray, List.getElem_cons_zero, List.getElem_cons_succ, List.setIfInBounds_toArray, List.set_cons_zero, List.set_cons_succ]
  refine wpAnyH_take (i := 7) (oi := _) (v := ?v7) rfl (by kernel_rfl) (by kernel_rfl) (by kernel_rfl) (fun _ _ _ h => h) (Or.inl ⟨by kernel_rfl, ?hy7⟩) (by assumption) ?rest7
  case hy7 => (intro w hSw; (try dsimp only at hSw); go_simp <;> with_reducible rfl)
  try simp only [Act.put, List.getElem_toArray, List.getElem_cons_zero, List.getElem_cons_succ, List.setIfInBounds_toArray, List.set_cons_zero, List.set_cons_succ]
  refine wpAnyH_take (i := 8) (oi := _) (v := ?v8) rfl (by kernel_rfl) (by kernel_rfl) (by kernel_rfl) (fun _ _ _ h => h) (Or.inl ⟨by kernel_rfl, ?hy8⟩) (by assumption) ?rest8
  case hy8 => (intro w hSw; (try dsimp only at hSw); go_simp <;> with_reducible rfl)
  try simp only [Act.put, List.getElem_toArray, List.getElem_cons_zero, List.getElem_cons_succ, List.setIfInBounds_toArray, List.set_cons_zero, List.set_cons_succ]
  refine wpAnyH_take (i := 9) (oi := _) (v := ?v9) rfl (by kernel_rfl) (by kernel_rfl) (by kernel_rfl) (fun _ _ _ h => h) (Or.inl ⟨by kernel_rfl, ?hy9⟩) (by assumption) ?rest9
  case hy9 => (intro w hSw; (try dsimp only at hSw); go_simp <;> with_reducible rfl)
  try simp only [Act.put, List.getElem_toArray, List.getElem_cons_zero, List.getElem_cons_succ, List.setIfInBounds_toArray, List.set_cons_zero, List.set_cons_succ]
  refine wpAnyH_take (i := 10) (oi := _) (v := ?v10) rfl (by kernel_rfl) (by kernel_rfl) (by kernel_rfl) (fun _ _ _ h => h) (Or.inl ⟨by kernel_rfl, ?hy10⟩) (by assumption) ?rest10
  case hy10 => (intro w hSw; (try dsimp only at hSw); go_simp <;> with_reducible rfl)
  try simp only [Act.put, List.getElem_toArray, List.getElem_cons_zero, List.getElem_cons_succ, List.setIfInBounds_toArray, List.set_cons_zero, List.set_cons_succ]
  refine wpAnyH_take (i := 11) (oi := _) (v := ?v11) rfl (by kernel_rfl) (by kernel_rfl) (by kernel_rfl) (fun _ _ _ h => h) (Or.inl ⟨by kernel_rfl, ?hy11⟩) (by assumption) ?rest11
  case hy11 => (intro w hSw; (try dsimp only at hSw); go_simp <;> with_reducible rfl)
  try simp only [Act.put, List.getElem_toArray, List.getElem_cons_zero, List.getElem_cons_succ, List.setIfInBounds_toArray, List.set_cons_zero, List.set_cons_succ]
  refine wpAnyH_take (i := 12) (oi := _) (v := ?v12) rfl (by kernel_rfl) (by kernel_rfl) (by kernel_rfl) (fun _ _ _ h => h) (Or.inl ⟨by kernel_rfl, ?hy12⟩) (by assumption) ?rest12
  case hy12 => (intro w hSw; (try dsimp only at hSw); go_simp <;> with_reducible rfl)
  try simp only [Act.put, List.getElem_toArray, List.getElem_cons_zero, List.getElem_cons_succ, List.setIfInBounds_toArray, List.set_cons_zero, List.set_cons_succ]
  refine wpAnyH_take (i := 13) (oi := _) (v := ?v13) rfl (by kernel_rfl) (by kernel_rfl) (by kernel_rfl) (fun _ _ _ h => h) (Or.inl ⟨by kernel_rfl, ?hy13⟩) (by assumption) ?rest13
  case hy13 => (intro w hSw; (try dsimp only at hSw); go_simp <;> with_reducible rfl)
  try simp only [Act.put, List.getElem_toArray, List.getElem_cons_zero, List.getElem_cons_succ, List.setIfInBounds_toArray, List.set_cons_zero, List.set_cons_succ]
  refine wpAnyH_take (i := 14) (oi := _) (v := ?v14) rfl (by kernel_rfl) (by kernel_rfl) (by kernel_rfl) (fun _ _ _ h => h) (Or.inl ⟨by kernel_rfl, ?hy14⟩) (by assumption) ?rest14
  case hy14 => (intro w hSw; (try dsimp only at hSw); go_simp <;> with_reducible rfl)
  try simp only [Act.put, List.getElem_toArray, List.getElem_cons_zero, List.getElem_cons_succ, List.setIfInBounds_toArray, List.set_cons_zero, List.set_cons_succ]
  refine wpAnyH_take (i := 15) (oi := _) (v := ?v15) rfl (by kernel_rfl) (by kernel_rfl) (by kernel_rfl) (fun _ _ _ h => h) (Or.inl ⟨by kernel_rfl, ?hy15⟩) (by assumption) ?rest15
  case hy15 => (intro w hSw; (try dsimp only at hSw); go_simp <;> with_reducible rfl)
  try simp only [Act.put, List.getElem_toArray, List.getElem_cons_zero, List.getElem_cons_succ, List.setIfInBounds_toArray, List.set_cons_zero, List.set_cons_succ]
  refine wpAnyH_take (i := 16) (oi := _) (v := ?v16) rfl (by kernel_rfl) (by kernel_rfl) (by kernel_rfl) (fun _ _ _ h => h) (Or.inl ⟨by kernel_rfl, ?hy16⟩) (by assumption) ?rest16
  case hy16 => (intro w hSw; (try dsimp only at hSw); go_simp <;> with_reducible rfl)
  try simp only [Act.put, List.getElem_toArray, List.getElem_cons_zero, List.getElem_cons_succ, List.setIfInBounds_toArray, List.set_cons_zero, List.set_cons_succ]
  refine wpAnyH_take (i := 17) (oi := _) (v := ?v17) rfl (by kernel_rfl) (by kernel_rfl) (by kernel_rfl) (fun _ _ _ h => h) (Or.inl ⟨by kernel_rfl, ?hy17⟩) (by assumption) ?rest17
  case hy17 => (intro w hSw; (try dsimp only at hSw); go_simp <;> with_reducible rfl)
  try simp only [Act.put, List.getElem_toArray, List.getElem_cons_zero, List.getElem_cons_succ, List.setIfInBounds_toArray, List.set_cons_zero, List.set_cons_succ]
  refine wpAnyH_take (i := 18) (oi := _) (v := ?v18) rfl (by kernel_rfl) (by kernel_rfl) (by kernel_rfl) (fun _ _ _ h => h) (Or.inl ⟨by kernel_rfl, ?hy18⟩) (by assumption) ?rest18
  case hy18 => (intro w hSw; (try dsimp only at hSw); go_simp <;> with_reducible rfl)
  try simp only [Act.put, List.getElem_toArray, List.getElem_cons_zero, List.getElem_cons_succ, List.setIfInBounds_toArray, List.set_cons_zero, List.set_cons_succ]
  refine wpAnyH_take (i := 19) (oi := _) (v := ?v19) rfl (by kernel_rfl) (by kernel_rfl) (by kernel_rfl) (fun _ _ _ h => h) (Or.inl ⟨by kernel_rfl, ?hy19⟩) (by assumption) ?rest19
  case hy19 => (intro w hSw; (try dsimp only at hSw); go_simp <;> with_reducible rfl)
  try simp only [Act.put, List.getElem_toArray, List.getElem_cons_zero, List.getElem_cons_succ, List.setIfInBounds_toArray, List.set_cons_zero, List.set_cons_succ]
  refine wpAnyH_ready (rs := [20]) (by kernel_rfl) (by simp) ?_
  refine AllReadyH.cons (o := _) rfl (fun K hK => ?_) AllReadyH.nil
  go_simp
  go_at_call 156
  refine (HSW.out _ HMa.out.drew).mono ?_
  rintro e w4 ⟨rfl, hM4, hB4⟩
  have hG4 := RowBlk.same HGa.out.drew (hB4.block g HGa.out.lt hgm hgw)
  have hT4 := RowBlk.same HTa.out.drew (hB4.block w.heap.size HTa.out.lt (by omega) (by omega))
  have hA4 := RowBlk.same HAa.out.drew (hB4.block (w.heap.size + 1) HAa.out.lt (by omega) (by omega))
  have HO4 : Hid (TalObj n gp w4 s FO) := Lib.hid (HOa.out.keep (fun k hk => hB4.block k (by have h1 := (HSEP.out k hk).1; have h2 := HBa.out.size; show k < wa.heap.size; omega) (HSEP.out k hk).2.1 (HSEP.out k hk).2.2.1) (fun _ h => h))
  have e0 : w4.cell? ⟨g, 0, none⟩ = some (.pointer (some ⟨gp, 0, none⟩)) := hG4.cell rfl
  have e2 : w4.cell? ⟨g, 2, none⟩ = some (.int .i64 (0)) := hG4.cell rfl
  have e3 : w4.cell? ⟨g, 3, none⟩ = some (.int .u64 (sum : Int)) := hG4.cell rfl
  have et : w4.cell? ⟨w.heap.size, 0, none⟩ = some (.iface 94 (.pointer (some ⟨bm, 0, none⟩))) := hT4.cell rfl
  have ep : w4.cell? ⟨gp, 1, none⟩ = some (.int .i64 0) := by obtain ⟨_, _, ao, L, cap, h3, _⟩ := HO4.out; exact h3.cell rfl
  have HG4 := Lib.hid hG4
  have HT4 := Lib.hid hT4
  have HA4 := Lib.hid hA4
  have HM4 := Lib.hid hM4
  have HB4 := Lib.hid hB4
  clear hG4 hT4 hM4 hB4 hA4
  go_simp
  refine hK.out _ _ ?_ (fun hHeld => ?_)
  · with_reducible exact ⟨e0, e2, e3, et, ep⟩
  clear hK K
  try simp only [Act.put, List.getElem_toArray, List.getElem_cons_zero, List.getElem_cons_succ, List.setIfInBounds_toArray, List.set_cons_zero, List.set_cons_succ]
  refine wpAnyH_take (i := 21) (oi := _) (v := ?v21) rfl (by kernel_rfl) (by kernel_rfl) (by kernel_rfl) (fun _ _ _ h => h) (Or.inl ⟨by kernel_rfl, ?hy21⟩) (by assumption) ?rest21
  case hy21 => (intro w hSw; (try dsimp only at hSw); go_simp <;> with_reducible rfl)
  try simp only [Act.put, List.getElem_toArray, List.getElem_cons_zero, List.getElem_cons_succ, List.setIfInBounds_toArray, List.set_cons_zero, List.set_cons_succ]
  refine wpAnyH_done (by kernel_rfl) ?_ _
  dsimp only [tailQ]
  simp only [List.drop_succ_cons, List.drop_zero, List.take_succ_cons, List.take_zero, List.getElem_cons_succ, List.getElem_cons_zero, List.set_cons_zero, List.set_cons_succ]
  try rw [ES.out]
  clear hHeld
  have fz : ∀ j, w4.frozen? ⟨g, j, none⟩ = false := fun j => HG4.out.free
  have n1 : w.heap.size + 1 ≠ g := by omega
  have n2 : g ≠ w.heap.size + 1 := by omega
  have n3 : w.heap.size ≠ g := by omega
  have g1 : w4.cell? ⟨gp, 0, none⟩ = some (.int .i64 (n : Int)) := by obtain ⟨_, _, ao, L, cap, h3, _⟩ := HO4.out; exact h3.cell rfl
  have kn : ¬ (0) + 1 < (n : Int) := by omega
  go_wp2_with fail
  go_quiet (fail)
  have ek : ((0 + 1 : Nat) : Int) = 1 := by rfl
  have HG5 : Hid (RowBlk 209 (((w4.setCell ⟨g, 3, none⟩ (.int .u64 (z : Int))).setCell ⟨g, 2, none⟩ (.int .i64 (1))).drewN nq) g (rdVs gp t (0 + 1) z (.slice none 0 0))) := Lib.hid (by
    have h1 := ((HG4.out.put 3 (.int .u64 (z : Int))).put 2 (.int .i64 (1))).drewN nq
    unfold rdVs at h1 ⊢
    rw [ek]; exact h1)
  have HT5 : Hid (RowBlk 110 (((w4.setCell ⟨g, 3, none⟩ (.int .u64 (z : Int))).setCell ⟨g, 2, none⟩ (.int .i64 (1))).drewN nq) w.heap.size [.iface 94 (.pointer (some ⟨bm, 0, none⟩)), .int .i64 (t : Int)]) := Lib.hid (((HT4.out.other n3 _).other n3 _).drewN nq)
  have HA5 : Hid (RowBlk 45 (((w4.setCell ⟨g, 3, none⟩ (.int .u64 (z : Int))).setCell ⟨g, 2, none⟩ (.int .i64 (1))).drewN nq) (w.heap.size + 1) [.int .i64 0, .int .u64 0, .slice none 0 0]) := Lib.hid (((HA4.out.other n1 _).other n1 _).drewN nq)
  have HM5 : Hid (MemIs 136 (((w4.setCell ⟨g, 3, none⟩ (.int .u64 (z : Int))).setCell ⟨g, 2, none⟩ (.int .i64 (1))).drewN nq) bm bw l { c with r := c.r + 1 }) := Lib.hid (((HM4.out.setNew _ _ hgm hgw).setNew _ _ hgm hgw).drewN nq)
  have HB5 : Hid (ButS (fun k => k = bm ∨ k = bw ∨ k = g) w (((w4.setCell ⟨g, 3, none⟩ (.int .u64 (z : Int))).setCell ⟨g, 2, none⟩ (.int .i64 (1))).drewN nq)) := Lib.hid ((((HBa.out.drew.trans (ButS.of_but HB4.out (.inl rfl) (.inr (.inl rfl)))).setCell (.inl (.inr (.inr rfl))) _).setCell (.inl (.inr (.inr rfl))) _).drewN nq)
  have HO5 : Hid (TalObj n gp (((w4.setCell ⟨g, 3, none⟩ (.int .u64 (z : Int))).setCell ⟨g, 2, none⟩ (.int .i64 (1))).drewN nq) s FO) := Lib.hid (HO.out.keep (fun k hk => HB5.out.block k (HSEP.out k hk).1 (fun h => h.elim (HSEP.out k hk).2.1 (fun h => h.elim (HSEP.out k hk).2.2.1 (HSEP.out k hk).2.2.2))) (fun _ h => h))
  generalize ((w4.setCell ⟨g, 3, none⟩ (.int .u64 (z : Int))).setCell ⟨g, 2, none⟩ (.int .i64 (1))).drewN nq = wb at HG5 HT5 HA5 HM5 HB5 HO5 ⊢
  clear fz
  have a0 := HA5.out.cell (i := 0) rfl
  have a1 := HA5.out.cell (i := 1) rfl
  have a2 := HA5.out.cell (i := 2) rfl
  have z0 : wb.frozen? ⟨w.heap.size + 1, 0, none⟩ = false := HA5.out.free
  have z1 : wb.frozen? ⟨w.heap.size + 1, 1, none⟩ = false := HA5.out.free
  have z2 : wb.frozen? ⟨w.heap.size + 1, 2, none⟩ = false := HA5.out.free
  have hbg := HG5.out.lt
  have hba := HA5.out.lt
  obtain ⟨mn, hmn⟩ : ∃ mn, nthL s z = mn := ⟨_, rfl⟩
  have HNT : Hid (∀ W : World, TalObj n gp W s FO → Calls Try.prog 133 #[.pointer (some ⟨gp, 2, none⟩), .int .u64 (z : Int)] W fun e w' => e = .returned (.int .i64 (mn : Int)) ∧ W = w') := Lib.hid (by rw [← hmn]; exact HNTH.out)
  have hmb : mn ≤ 70000 := by rw [← hmn]; exact HNB.out
  have HMN := Lib.hid hmn
  clear hmn
  have b0 : wb.cell? ⟨g, 0, none⟩ = some (.pointer (some ⟨gp, 0, none⟩)) := HG5.out.cell rfl
  have b1 : wb.cell? ⟨g, 1, none⟩ = some (.int .i64 (t : Int)) := HG5.out.cell rfl
  have b3 : wb.cell? ⟨g, 3, none⟩ = some (.int .u64 (z : Int)) := HG5.out.cell rfl
  clear a0 a1 a2 z0 z1 z2
  go_wp2_with fail
  go_region_held3 (fun w' => w'.cell? ⟨g, 0, none⟩ = some (.pointer (some ⟨gp, 0, none⟩)) ∧ w'.cell? ⟨g, 1, none⟩ = some (.int .i64 (t : Int)) ∧ w'.cell? ⟨g, 3, none⟩ = some (.int .u64 (z : Int)))
    (first | with_reducible exact ⟨b0, b1, b3⟩ | go_keep)
    (first
      | (go_at_call 133
         refine (HNT.out wb.drew (HO5.out.keep (fun _ _ => rfl) (fun _ h => h))).mono ?_
         rintro e w6 ⟨rfl, rfl⟩))
  rename_i hHeld
  clear hHeld b0 b1 b3
  have hmx : (if t < mn then (mn : Int) else (t : Int)) = ((max t mn : Nat) : Int) := by split <;> omega
  rw [hmx]
  obtain ⟨mm, hmm2⟩ : ∃ mm, max t mn = mm := ⟨_, rfl⟩
  rw [hmm2]
  have hmm3 : mm ≤ 70000 := by omega
  have HMM := Lib.hid hmm2
  clear hmx hmm2
  have HGc : Hid (RowBlk 209 wb.drew g (rdVs gp t (0 + 1) z (.slice none 0 0))) := Lib.hid HG5.out.drew
  have HTc : Hid (RowBlk 110 wb.drew w.heap.size [.iface 94 (.pointer (some ⟨bm, 0, none⟩)), .int .i64 (t : Int)]) := Lib.hid HT5.out.drew
  have HAc : Hid (RowBlk 45 wb.drew (w.heap.size + 1) [.int .i64 0, .int .u64 0, .slice none 0 0]) := Lib.hid HA5.out.drew
  have HMc : Hid (MemIs 136 wb.drew bm bw l { c with r := c.r + 1 }) := Lib.hid HM5.out.drew
  have HBc : Hid (ButS (fun k => k = bm ∨ k = bw ∨ k = g) w wb.drew) := Lib.hid HB5.out.drew
  generalize wb.drew = wc at HGc HTc HAc HMc HBc ⊢
  have g3 : wc.cell? ⟨g, 3, none⟩ = some (.int .u64 (z : Int)) := HGc.out.cell rfl
  have g4 : wc.cell? ⟨g, 4, none⟩ = some (.slice none 0 0) := HGc.out.cell rfl
  have fg : ∀ j, wc.frozen? ⟨g, j, none⟩ = false := fun j => HGc.out.free
  have t1 : wc.cell? ⟨w.heap.size, 1, none⟩ = some (.int .i64 (t : Int)) := HTc.out.cell rfl
  have a0 := HAc.out.cell (i := 0) rfl
  have a1 := HAc.out.cell (i := 1) rfl
  have a2 := HAc.out.cell (i := 2) rfl
  have z0 : wc.frozen? ⟨w.heap.size + 1, 0, none⟩ = false := HAc.out.free
  have z1 : wc.frozen? ⟨w.heap.size + 1, 1, none⟩ = false := HAc.out.free
  have z2 : wc.frozen? ⟨w.heap.size + 1, 2, none⟩ = false := HAc.out.free
  have l1 := HGc.out.lt
  have l2 := HAc.out.lt
  have l3 := HTc.out.lt
  have l4 : w.heap.size ≤ wc.heap.size := HBc.out.size
  have ng : g ≠ wc.heap.size := by omega
  have ng2 : wc.heap.size ≠ g := by omega
  have na : w.heap.size + 1 ≠ wc.heap.size := by omega
  have na2 : wc.heap.size ≠ w.heap.size + 1 := by omega
  go_wp2_with fail
  have HX : Hid (RowBlk 45 (((((wc.setCell ⟨g, 4, none⟩ (.slice (some ⟨wc.heap.size, 0, none⟩) 2 2)).setCell ⟨w.heap.size + 1, 0, none⟩ (.int .i64 0)).setCell ⟨w.heap.size + 1, 1, none⟩ (.int .u64 (z : Int))).setCell ⟨w.heap.size + 1, 2, none⟩ (.slice none 0 0)).alloc (.cells #[.int .i64 (2 * (mm : Int)), .int .i64 (2 * (t : Int))] 3)) (w.heap.size + 1) [.int .i64 0, .int .u64 (z : Int), .slice none 0 0] ∧ RowBlk 209 (((((wc.setCell ⟨g, 4, none⟩ (.slice (some ⟨wc.heap.size, 0, none⟩) 2 2)).setCell ⟨w.heap.size + 1, 0, none⟩ (.int .i64 0)).setCell ⟨w.heap.size + 1, 1, none⟩ (.int .u64 (z : Int))).setCell ⟨w.heap.size + 1, 2, none⟩ (.slice none 0 0)).alloc (.cells #[.int .i64 (2 * (mm : Int)), .int .i64 (2 * (t : Int))] 3)) g (rdVs gp t (0 + 1) z (.slice (some ⟨wc.heap.size, 0, none⟩) 2 2)) ∧ MemIs 136 (((((wc.setCell ⟨g, 4, none⟩ (.slice (some ⟨wc.heap.size, 0, none⟩) 2 2)).setCell ⟨w.heap.size + 1, 0, none⟩ (.int .i64 0)).setCell ⟨w.heap.size + 1, 1, none⟩ (.int .u64 (z : Int))).setCell ⟨w.heap.size + 1, 2, none⟩ (.slice none 0 0)).alloc (.cells #[.int .i64 (2 * (mm : Int)), .int .i64 (2 * (t : Int))] 3)) bm bw l { c with r := c.r + 1 } ∧ ButS (fun k => k = bm ∨ k = bw ∨ k = g) w (((((wc.setCell ⟨g, 4, none⟩ (.slice (some ⟨wc.heap.size, 0, none⟩) 2 2)).setCell ⟨w.heap.size + 1, 0, none⟩ (.int .i64 0)).setCell ⟨w.heap.size + 1, 1, none⟩ (.int .u64 (z : Int))).setCell ⟨w.heap.size + 1, 2, none⟩ (.slice none 0 0)).alloc (.cells #[.int .i64 (2 * (mm : Int)), .int .i64 (2 * (t : Int))] 3)) ∧ RowBlk 3 (((((wc.setCell ⟨g, 4, none⟩ (.slice (some ⟨wc.heap.size, 0, none⟩) 2 2)).setCell ⟨w.heap.size + 1, 0, none⟩ (.int .i64 0)).setCell ⟨w.heap.size + 1, 1, none⟩ (.int .u64 (z : Int))).setCell ⟨w.heap.size + 1, 2, none⟩ (.slice none 0 0)).alloc (.cells #[.int .i64 (2 * (mm : Int)), .int .i64 (2 * (t : Int))] 3)) wc.heap.size (nums [2 * mm, 2 * t])) := Lib.hid
    ⟨((((HAc.out.other n1 _).put 0 _).put 1 _).put 2 _).alloc _, ((((HGc.out.put 4 _).other n2 _).other n2 _).other n2 _).alloc _, ((((HMc.out.setNew _ _ hgm hgw).setNew _ _ (by omega) (by omega)).setNew _ _ (by omega) (by omega)).setNew _ _ (by omega) (by omega)).alloc _,
      ((((HBc.out.setCell (.inl (.inr (.inr rfl))) _).setCell (.inr (by show w.heap.size ≤ w.heap.size + 1; omega)) _).setCell (.inr (by show w.heap.size ≤ w.heap.size + 1; omega)) _).setCell (.inr (by show w.heap.size ≤ w.heap.size + 1; omega)) _).alloc _, by
      have h1 := RowBlk.new ((((wc.setCell ⟨g, 4, none⟩ (.slice (some ⟨wc.heap.size, 0, none⟩) 2 2)).setCell ⟨w.heap.size + 1, 0, none⟩ (.int .i64 0)).setCell ⟨w.heap.size + 1, 1, none⟩ (.int .u64 (z : Int))).setCell ⟨w.heap.size + 1, 2, none⟩ (.slice none 0 0)) [.int .i64 (2 * (mm : Int)), .int .i64 (2 * (t : Int))] 3
      have e : ((((wc.setCell ⟨g, 4, none⟩ (.slice (some ⟨wc.heap.size, 0, none⟩) 2 2)).setCell ⟨w.heap.size + 1, 0, none⟩ (.int .i64 0)).setCell ⟨w.heap.size + 1, 1, none⟩ (.int .u64 (z : Int))).setCell ⟨w.heap.size + 1, 2, none⟩ (.slice none 0 0)).heap.size = wc.heap.size := by simp [World.setCell]
      rw [e] at h1; exact h1⟩
  generalize (((((wc.setCell ⟨g, 4, none⟩ (.slice (some ⟨wc.heap.size, 0, none⟩) 2 2)).setCell ⟨w.heap.size + 1, 0, none⟩ (.int .i64 0)).setCell ⟨w.heap.size + 1, 1, none⟩ (.int .u64 (z : Int))).setCell ⟨w.heap.size + 1, 2, none⟩ (.slice none 0 0)).alloc (.cells #[.int .i64 (2 * (mm : Int)), .int .i64 (2 * (t : Int))] 3)) = W5 at HX ⊢
  have q0 := HX.out.1.cell (i := 0) rfl
  have q1 := HX.out.1.cell (i := 1) rfl
  have q2 := HX.out.1.cell (i := 2) rfl
  refine bodyPost_ret (v := .tuple #[.agg #[.int .i64 0, .int .u64 (z : Int), .slice none 0 0], .bool true]) (by simp [results, Try.results132, go_sem, q0, q1, q2]) rfl ⟨by rw [HZ.out], HX.out.2.2.1, HX.out.2.2.2.1, wc.heap.size, by rw [HZ.out]; exact HX.out.2.1, ?_, l4⟩
  rw [HZ.out, HMN.out, HMM.out]
  exact HX.out.2.2.2.2
set_option maxRecDepth 100000 in
set_option maxHeartbeats 2000000 in
theorem tal_rd1l (n gp inv k sum g bm bw : Nat) (s : List Nat) (FO : Nat → Prop) (l : List Nat) (c : Cn) (t : Nat) (w : World) (hM : MemIs 136 w bm bw l c) (hg : RowBlk 209 w g (rdVs gp inv k sum (.slice none 0 0))) (hO : TalObj n gp w s FO) (hs : ∀ b, FO b → b < w.heap.size ∧ b ≠ bm ∧ b ≠ bw ∧ b ≠ g) (hk : k < l.length) (hkz : 1 ≤ k) (hl : l.length ≤ 16) (hc : c.r < 9223372036854775807) (hsum : sum + l.getD k 0 ≤ s.length) (hsl : s.length ≤ 70000) (hn : n ≤ k + 1) (hnn : n ≤ 16) (ht : t ≤ 70000) (hin : inv ≤ 70000) :
    Calls Try.prog 132 #[.pointer (some ⟨g, 0, none⟩), turnAgg bm (t : Int)] w (TalReadL gp inv k sum (l.getD k 0) (max inv (nthL s (sum + l.getD k 0))) t g bm bw l c w) := by
  unfold turnAgg
  have hgm : g ≠ bm := by intro e; have h1 := hg; have h2 := hM.1; unfold RowBlk at h1; rw [e, h2] at h1; simp at h1
  have hgw : g ≠ bw := by intro e; have h1 := hg; have h2 := hM.2.1; unfold RowBlk at h1; rw [e, h2] at h1; simp at h1
  obtain ⟨y, hy⟩ : ∃ y, l.getD k 0 = y := ⟨_, rfl⟩
  rw [hy] at hsum ⊢
  obtain ⟨z, hz⟩ : ∃ z, sum + y = z := ⟨_, rfl⟩
  have HZ := Lib.hid hz
  have HSW : Hid (∀ W : World, MemIs 136 W bm bw l c → Calls Try.prog 156 #[.pointer (some ⟨bm, 0, none⟩), .int .i64 ((k : Int))] W (AccPost (.int .u64 (y : Int)) (.rd k) bm bw l c W)) := Lib.hid (fun W hW => by rw [← hy]; exact rd_acc (i := k) hW hk (by omega) hc)
  have HNTH : Hid (∀ W : World, TalObj n gp W s FO → Calls Try.prog 133 #[.pointer (some ⟨gp, 2, none⟩), .int .u64 (z : Int)] W fun e w' => e = .returned (.int .i64 (nthL s z : Nat)) ∧ W = w') := Lib.hid (fun W hW => tal_nth (k := z) hW (by omega) hsl)
  have HNB : Hid (nthL s z ≤ 70000) := Lib.hid (nth_le' (fun x hx => hO.2.1 x hx))
  have eS : (sum : Int) + (y : Int) = (z : Int) := by omega
  have ES := Lib.hid eS
  have hwz : IntKind.u64.wrap ((sum : Int) + (y : Int)) = (z : Int) := by rw [eS]; unfold IntKind.wrap; simp [IntKind.bits, IntKind.signed]; omega
  clear hy hz eS
  have HM := Lib.hid hM
  have HG := Lib.hid hg
  have HO := Lib.hid hO
  have HSEP := Lib.hid hs
  have hmm := m_Read ⟨bm, 0, none⟩
  have hbm := hM.lt1
  have hbw := hM.lt2
  have hgel := hg.lt
  have hgp := hs gp hO.1
  have hgpl := hgp.1
  have hgpg := hgp.2.2.2
  have hggp : g ≠ gp := fun e => hgpg e.symm
  have c2 : w.cell? ⟨g, 2, none⟩ = some (.int .i64 ((k : Int))) := hg.cell rfl
  have c1 : w.cell? ⟨g, 1, none⟩ = some (.int .i64 (inv : Int)) := hg.cell rfl
  have k0 : ¬ (k : Int) = 0 := by omega
  have k0b : ((k : Int) == 0) = false := by rw [beq_eq_false_iff_ne]; exact k0
  have hwk : IntKind.i64.wrap ((k : Int)) = ((k : Int)) := by unfold IntKind.wrap; simp [IntKind.bits, IntKind.signed]; omega
  have f1 : w.frozen? ⟨g, 1, none⟩ = false := hg.free
  have hk16 : k < 16 := by omega
  clear hM hg hO hs hk hgp
  go_enter Try.func132, Try.ntmps132
  go_wp2_with fail
  have HGa : Hid (RowBlk 209 ((w.alloc (.cells #[.iface 94 (.pointer (some ⟨bm, 0, none⟩)), .int .i64 (t : Int)] 110)).alloc (.cells #[.int .i64 0, .int .u64 0, .slice none 0 0] 45)) g (rdVs gp inv k sum (.slice none 0 0))) := Lib.hid ((((HG.out).alloc _).alloc _))
  have HMa : Hid (MemIs 136 ((w.alloc (.cells #[.iface 94 (.pointer (some ⟨bm, 0, none⟩)), .int .i64 (t : Int)] 110)).alloc (.cells #[.int .i64 0, .int .u64 0, .slice none 0 0] 45)) bm bw l c) := Lib.hid ((((HM.out).alloc _).alloc _))
  have hz0 : w.heap.size = w.heap.size := by first | rfl | simp [World.setCell]
  have HTa : Hid (RowBlk 110 ((w.alloc (.cells #[.iface 94 (.pointer (some ⟨bm, 0, none⟩)), .int .i64 (t : Int)] 110)).alloc (.cells #[.int .i64 0, .int .u64 0, .slice none 0 0] 45)) w.heap.size [.iface 94 (.pointer (some ⟨bm, 0, none⟩)), .int .i64 (t : Int)]) := Lib.hid (by
    have h := RowBlk.new w [.iface 94 (.pointer (some ⟨bm, 0, none⟩)), .int .i64 (t : Int)] 110
    rw [hz0] at h; exact h.alloc _)
  have HAa : Hid (RowBlk 45 ((w.alloc (.cells #[.iface 94 (.pointer (some ⟨bm, 0, none⟩)), .int .i64 (t : Int)] 110)).alloc (.cells #[.int .i64 0, .int .u64 0, .slice none 0 0] 45)) (w.heap.size + 1) [.int .i64 0, .int .u64 0, .slice none 0 0]) := Lib.hid (by
    have h := RowBlk.new (w.alloc (.cells #[.iface 94 (.pointer (some ⟨bm, 0, none⟩)), .int .i64 (t : Int)] 110)) [.int .i64 0, .int .u64 0, .slice none 0 0] 45
    have e : (w.alloc (.cells #[.iface 94 (.pointer (some ⟨bm, 0, none⟩)), .int .i64 (t : Int)] 110)).heap.size = w.heap.size + 1 := by rw [← hz0]; simp
    rw [e] at h; exact h)
  have HBa : Hid (ButS (fun k => k = bm ∨ k = bw ∨ k = g) w ((w.alloc (.cells #[.iface 94 (.pointer (some ⟨bm, 0, none⟩)), .int .i64 (t : Int)] 110)).alloc (.cells #[.int .i64 0, .int .u64 0, .slice none 0 0] 45))) := Lib.hid (((((ButS.refl _ _)).alloc _).alloc _))
  have HOa : Hid (TalObj n gp ((w.alloc (.cells #[.iface 94 (.pointer (some ⟨bm, 0, none⟩)), .int .i64 (t : Int)] 110)).alloc (.cells #[.int .i64 0, .int .u64 0, .slice none 0 0] 45)) s FO) := Lib.hid (HO.out.keep (fun k hk => HBa.out.block k (HSEP.out k hk).1 (fun h => h.elim (HSEP.out k hk).2.1 (fun h => h.elim (HSEP.out k hk).2.2.1 (HSEP.out k hk).2.2.2))) (fun _ h => h))
  generalize ((w.alloc (.cells #[.iface 94 (.pointer (some ⟨bm, 0, none⟩)), .int .i64 (t : Int)] 110)).alloc (.cells #[.int .i64 0, .int .u64 0, .slice none 0 0] 45)) = wa at HGa HMa HTa HAa HBa HOa ⊢
  clear hz0
  have d0 : wa.cell? ⟨g, 0, none⟩ = some (.pointer (some ⟨gp, 0, none⟩)) := HGa.out.cell rfl
  have d2 : wa.cell? ⟨g, 2, none⟩ = some (.int .i64 ((k : Int))) := HGa.out.cell rfl
  have d3 : wa.cell? ⟨g, 3, none⟩ = some (.int .u64 (sum : Int)) := HGa.out.cell rfl
  have dt : wa.cell? ⟨w.heap.size, 0, none⟩ = some (.iface 94 (.pointer (some ⟨bm, 0, none⟩))) := HTa.out.cell rfl
  have dp : wa.cell? ⟨gp, 1, none⟩ = some (.int .i64 0) := by obtain ⟨_, _, ao, L, cap, h3, _⟩ := HOa.out; exact h3.cell rfl
  clear c1 c2 f1
  refine wp_region_tail (S := (fun w' => w'.cell? ⟨g, 0, none⟩ = some (.pointer (some ⟨gp, 0, none⟩)) ∧ w'.cell? ⟨g, 2, none⟩ = some (.int .i64 ((k : Int))) ∧ w'.cell? ⟨g, 3, none⟩ = some (.int .u64 (sum : Int)) ∧ w'.cell? ⟨w.heap.size, 0, none⟩ = some (.iface 94 (.pointer (some ⟨bm, 0, none⟩))) ∧ w'.cell? ⟨gp, 1, none⟩ = some (.int .i64 0))) 22 (by kernel_rfl) (by kernel_rfl) ?_ (fun hHeld => ?_)
  · first | with_reducible exact ⟨d0, d2, d3, dt, dp⟩ | go_keep
  simp only [List.take_succ_cons, List.take_zero]
  refine wpAnyH_take (i := 0) (oi := _) (v := ?v0) rfl (by kernel_rfl) (by kernel_rfl) (by kernel_rfl) (fun _ _ _ h => h) (Or.inl ⟨by kernel_rfl, ?hy0⟩) (by assumption) ?rest0
  case hy0 => (intro w hSw; (try dsimp only at hSw); go_simp <;> with_reducible rfl)
  try simp only [Act.put, List.getElem_toArray, List.getElem_cons_zero, List.getElem_cons_succ, List.setIfInBounds_toArray, List.set_cons_zero, List.set_cons_succ]
  refine wpAnyH_take (i := 1) (oi := _) (v := ?v1) rfl (by kernel_rfl) (by kernel_rfl) (by kernel_rfl) (fun _ _ _ h => h) (Or.inl ⟨by kernel_rfl, ?hy1⟩) (by assumption) ?rest1
  case hy1 => (intro w hSw; (try dsimp only at hSw); go_simp <;> with_reducible rfl)
  try simp only [Act.put, List.getElem_toArray, List.getElem_cons_zero, List.getElem_cons_succ, List.setIfInBounds_toArray, List.set_cons_zero, List.set_cons_succ]
  refine wpAnyH_take (i := 2) (oi := _) (v := ?v2) rfl (by kernel_rfl) (by kernel_rfl) (by kernel_rfl) (fun _ _ _ h => h) (Or.inl ⟨by kernel_rfl, ?hy2⟩) (by assumption) ?rest2
  case hy2 => (intro w hSw; (try dsimp only at hSw); go_simp <;> with_reducible rfl)
  try simp only [Act.put, List.getElem_toArray, List.getElem_cons_zero, List.getElem_cons_succ, List.setIfInBounds_toArray, List.set_cons_zero, List.set_cons_succ]
  refine wpAnyH_take (i := 3) (oi := _) (v := ?v3) rfl (by kernel_rfl) (by kernel_rfl) (by kernel_rfl) (fun _ _ _ h => h) (Or.inl ⟨by kernel_rfl, ?hy3⟩) (by assumption) ?rest3
  case hy3 => (intro w hSw; (try dsimp only at hSw); go_simp <;> with_reducible rfl)
  try simp only [Act.put, List.getElem_toArray, List.getElem_cons_zero, List.getElem_cons_succ, List.setIfInBounds_toArray, List.set_cons_zero, List.set_cons_succ]
  refine wpAnyH_take (i := 4) (oi := _) (v := ?v4) rfl (by kernel_rfl) (by kernel_rfl) (by kernel_rfl) (fun _ _ _ h => h) (Or.inl ⟨by kernel_rfl, ?hy4⟩) (by assumption) ?rest4
  case hy4 => (intro w hSw; (try dsimp only at hSw); go_simp <;> with_reducible rfl)
  try simp only [Act.put, List.getElem_toArray, List.getElem_cons_zero, List.getElem_cons_succ, List.setIfInBounds_toArray, List.set_cons_zero, List.set_cons_succ]
  refine wpAnyH_take (i := 5) (oi := _) (v := ?v5) rfl (by kernel_rfl) (by kernel_rfl) (by kernel_rfl) (fun _ _ _ h => h) (Or.inl ⟨by kernel_rfl, ?hy5⟩) (by assumption) ?rest5
  case hy5 => (intro w hSw; (try dsimp only at hSw); go_simp <;> with_reducible rfl)
  try simp only [Act.put, List.getElem_toArray, List.getElem_cons_zero, List.getElem_cons_succ, List.setIfInBounds_toArray, List.set_cons_zero, List.set_cons_succ]
  refine wpAnyH_take (i := 6) (oi := _) (v := ?v6) rfl (by kernel_rfl) (by kernel_rfl) (by kernel_rfl) (fun _ _ _ h => h) (Or.inl ⟨by kernel_rfl, ?hy6⟩) (by assumption) ?rest6
  case hy6 => (intro w hSw; (try dsimp only at hSw); go_simp <;> with_reducible rfl)
  try simp only [Act.put, List.getElem_toArray, List.getElem_cons_zero, List.getElem_cons_succ, List.setIfInBounds_toArray, List.set_cons_zero, List.set_cons_succ]
  refine wpAnyH_take (i := 7) (oi := _) (v := ?v7) rfl (by kernel_rfl) (by kernel_rfl) (by kernel_rfl) (fun _ _ _ h => h) (Or.inl ⟨by kernel_rfl, ?hy7⟩) (by assumption) ?rest7
  case hy7 => (intro w hSw; (try dsimp only at hSw); go_simp <;> with_reducible rfl)
  try simp only [Act.put, List.getElem_toArray, List.getElem_cons_zero, List.getElem_cons_succ, List.setIfInBounds_toArray, List.set_cons_zero, List.set_cons_succ]
  refine wpAnyH_take (i := 8) (oi := _) (v := ?v8) rfl (by kernel_rfl) (by kernel_rfl) (by kernel_rfl) (fun _ _ _ h => h) (Or.inl ⟨by kernel_rfl, ?hy8⟩) (by assumption) ?rest8
  case hy8 => (intro w hSw; (try dsimp only at hSw); go_simp <;> with_reducible rfl)
  try simp only [Act.put, List.getElem_toArray, List.getElem_cons_zero, List.getElem_cons_succ, List.setIfInBounds_toArray, List.set_cons_zero, List.set_cons_succ]
  refine wpAnyH_take (i := 9) (oi := _) (v := ?v9) rfl (by kernel_rfl) (by kernel_rfl) (by kernel_rfl) (fun _ _ _ h => h) (Or.inl ⟨by kernel_rfl, ?hy9⟩) (by assumption) ?rest9
  case hy9 => (intro w hSw; (try dsimp only at hSw); go_simp <;> with_reducible rfl)
  try simp only [Act.put, List.getElem_toArray, List.getElem_cons_zero, List.getElem_cons_succ, List.setIfInBounds_toArray, List.set_cons_zero, List.set_cons_succ]
  refine wpAnyH_take (i := 10) (oi := _) (v := ?v10) rfl (by kernel_rfl) (by kernel_rfl) (by kernel_rfl) (fun _ _ _ h => h) (Or.inl ⟨by kernel_rfl, ?hy10⟩) (by assumption) ?rest10
  case hy10 => (intro w hSw; (try dsimp only at hSw); go_simp <;> with_reducible rfl)
  try simp only [Act.put, List.getElem_toArray, List.getElem_cons_zero, List.getElem_cons_succ, List.setIfInBounds_toArray, List.set_cons_zero, List.set_cons_succ]
  refine wpAnyH_take (i := 11) (oi := _) (v := ?v11) rfl (by kernel_rfl) (by kernel_rfl) (by kernel_rfl) (fun _ _ _ h => h) (Or.inl ⟨by kernel_rfl, ?hy11⟩) (by assumption) ?rest11
  case hy11 => (intro w hSw; (try dsimp only at hSw); go_simp <;> with_reducible rfl)
  try simp only [Act.put, List.getElem_toArray, List.getElem_cons_zero, List.getElem_cons_succ, List.setIfInBounds_toArray, List.set_cons_zero, List.set_cons_succ]
  refine wpAnyH_take (i := 12) (oi := _) (v := ?v12) rfl (by kernel_rfl) (by kernel_rfl) (by kernel_rfl) (fun _ _ _ h => h) (Or.inl ⟨by kernel_rfl, ?hy12⟩) (by assumption) ?rest12
  case hy12 => (intro w hSw; (try dsimp only at hSw); go_simp <;> with_reducible rfl)
  try simp only [Act.put, List.getElem_toArray, List.getElem_cons_zero, List.getElem_cons_succ, List.setIfInBounds_toArray, List.set_cons_zero, List.set_cons_succ]
  refine wpAnyH_take (i := 13) (oi := _) (v := ?v13) rfl (by kernel_rfl) (by kernel_rfl) (by kernel_rfl) (fun _ _ _ h => h) (Or.inl ⟨by kernel_rfl, ?hy13⟩) (by assumption) ?rest13
  case hy13 => (intro w hSw; (try dsimp only at hSw); go_simp <;> with_reducible rfl)
  try simp only [Act.put, List.getElem_toArray, List.getElem_cons_zero, List.getElem_cons_succ, List.setIfInBounds_toArray, List.set_cons_zero, List.set_cons_succ]
  refine wpAnyH_take (i := 14) (oi := _) (v := ?v14) rfl (by kernel_rfl) (by kernel_rfl) (by kernel_rfl) (fun _ _ _ h => h) (Or.inl ⟨by kernel_rfl, ?hy14⟩) (by assumption) ?rest14
  case hy14 => (intro w hSw; (try dsimp only at hSw); go_simp <;> with_reducible rfl)
  try simp only [Act.put, List.getElem_toArray, List.getElem_cons_zero, List.getElem_cons_succ, List.setIfInBounds_toArray, List.set_cons_zero, List.set_cons_succ]
  refine wpAnyH_take (i := 15) (oi := _) (v := ?v15) rfl (by kernel_rfl) (by kernel_rfl) (by kernel_rfl) (fun _ _ _ h => h) (Or.inl ⟨by kernel_rfl, ?hy15⟩) (by assumption) ?rest15
  case hy15 => (intro w hSw; (try dsimp only at hSw); go_simp <;> with_reducible rfl)
  try simp only [Act.put, List.getElem_toArray, List.getElem_cons_zero, List.getElem_cons_succ, List.setIfInBounds_toArray, List.set_cons_zero, List.set_cons_succ]
  refine wpAnyH_take (i := 16) (oi := _) (v := ?v16) rfl (by kernel_rfl) (by kernel_rfl) (by kernel_rfl) (fun _ _ _ h => h) (Or.inl ⟨by kernel_rfl, ?hy16⟩) (by assumption) ?rest16
  case hy16 => (intro w hSw; (try dsimp only at hSw); go_simp <;> with_reducible rfl)
  try simp only [Act.put, List.getElem_toArray, List.getElem_cons_zero, List.getElem_cons_succ, List.setIfInBounds_toArray, List.set_cons_zero, List.set_cons_succ]
  refine wpAnyH_take (i := 17) (oi := _) (v := ?v17) rfl (by kernel_rfl) (by kernel_rfl) (by kernel_rfl) (fun _ _ _ h => h) (Or.inl ⟨by kernel_rfl, ?hy17⟩) (by assumption) ?rest17
  case hy17 => (intro w hSw; (try dsimp only at hSw); go_simp <;> with_reducible rfl)
  try simp only [Act.put, List.getElem_toArray, List.getElem_cons_zero, List.getElem_cons_succ, List.setIfInBounds_toArray, List.set_cons_zero, List.set_cons_succ]
  refine wpAnyH_take (i := 18) (oi := _) (v := ?v18) rfl (by kernel_rfl) (by kernel_rfl) (by kernel_rfl) (fun _ _ _ h => h) (Or.inl ⟨by kernel_rfl, ?hy18⟩) (by assumption) ?rest18
  case hy18 => (intro w hSw; (try dsimp only at hSw); go_simp <;> with_reducible rfl)
  try simp only [Act.put, List.getElem_toArray, List.getElem_cons_zero, List.getElem_cons_succ, List.setIfInBounds_toArray, List.set_cons_zero, List.set_cons_succ]
  refine wpAnyH_take (i := 19) (oi := _) (v := ?v19) rfl (by kernel_rfl) (by kernel_rfl) (by kernel_rfl) (fun _ _ _ h => h) (Or.inl ⟨by kernel_rfl, ?hy19⟩) (by assumption) ?rest19
  case hy19 => (intro w hSw; (try dsimp only at hSw); go_simp <;> with_reducible rfl)
  try simp only [Act.put, List.getElem_toArray, List.getElem_cons_zero, List.getElem_cons_succ, List.setIfInBounds_toArray, List.set_cons_zero, List.set_cons_succ]
  refine wpAnyH_ready (rs := [20]) (by kernel_rfl) (by simp) ?_
  refine AllReadyH.cons (o := _) rfl (fun K hK => ?_) AllReadyH.nil
  go_simp
  go_at_call 156
  refine (HSW.out _ HMa.out.drew).mono ?_
  rintro e w4 ⟨rfl, hM4, hB4⟩
  have hG4 := RowBlk.same HGa.out.drew (hB4.block g HGa.out.lt hgm hgw)
  have hT4 := RowBlk.same HTa.out.drew (hB4.block w.heap.size HTa.out.lt (by omega) (by omega))
  have hA4 := RowBlk.same HAa.out.drew (hB4.block (w.heap.size + 1) HAa.out.lt (by omega) (by omega))
  have HO4 : Hid (TalObj n gp w4 s FO) := Lib.hid (HOa.out.keep (fun k hk => hB4.block k (by have h1 := (HSEP.out k hk).1; have h2 := HBa.out.size; show k < wa.heap.size; omega) (HSEP.out k hk).2.1 (HSEP.out k hk).2.2.1) (fun _ h => h))
  have e0 : w4.cell? ⟨g, 0, none⟩ = some (.pointer (some ⟨gp, 0, none⟩)) := hG4.cell rfl
  have e2 : w4.cell? ⟨g, 2, none⟩ = some (.int .i64 ((k : Int))) := hG4.cell rfl
  have e3 : w4.cell? ⟨g, 3, none⟩ = some (.int .u64 (sum : Int)) := hG4.cell rfl
  have et : w4.cell? ⟨w.heap.size, 0, none⟩ = some (.iface 94 (.pointer (some ⟨bm, 0, none⟩))) := hT4.cell rfl
  have ep : w4.cell? ⟨gp, 1, none⟩ = some (.int .i64 0) := by obtain ⟨_, _, ao, L, cap, h3, _⟩ := HO4.out; exact h3.cell rfl
  have HG4 := Lib.hid hG4
  have HT4 := Lib.hid hT4
  have HA4 := Lib.hid hA4
  have HM4 := Lib.hid hM4
  have HB4 := Lib.hid hB4
  clear hG4 hT4 hM4 hB4 hA4
  go_simp
  refine hK.out _ _ ?_ (fun hHeld => ?_)
  · with_reducible exact ⟨e0, e2, e3, et, ep⟩
  clear hK K
  try simp only [Act.put, List.getElem_toArray, List.getElem_cons_zero, List.getElem_cons_succ, List.setIfInBounds_toArray, List.set_cons_zero, List.set_cons_succ]
  refine wpAnyH_take (i := 21) (oi := _) (v := ?v21) rfl (by kernel_rfl) (by kernel_rfl) (by kernel_rfl) (fun _ _ _ h => h) (Or.inl ⟨by kernel_rfl, ?hy21⟩) (by assumption) ?rest21
  case hy21 => (intro w hSw; (try dsimp only at hSw); go_simp <;> with_reducible rfl)
  try simp only [Act.put, List.getElem_toArray, List.getElem_cons_zero, List.getElem_cons_succ, List.setIfInBounds_toArray, List.set_cons_zero, List.set_cons_succ]
  refine wpAnyH_done (by kernel_rfl) ?_ _
  dsimp only [tailQ]
  simp only [List.drop_succ_cons, List.drop_zero, List.take_succ_cons, List.take_zero, List.getElem_cons_succ, List.getElem_cons_zero, List.set_cons_zero, List.set_cons_succ]
  try rw [ES.out]
  clear hHeld
  have fz : ∀ j, w4.frozen? ⟨g, j, none⟩ = false := fun j => HG4.out.free
  have n1 : w.heap.size + 1 ≠ g := by omega
  have n2 : g ≠ w.heap.size + 1 := by omega
  have n3 : w.heap.size ≠ g := by omega
  have g1 : w4.cell? ⟨gp, 0, none⟩ = some (.int .i64 (n : Int)) := by obtain ⟨_, _, ao, L, cap, h3, _⟩ := HO4.out; exact h3.cell rfl
  have kn : ¬ ((k : Int)) + 1 < (n : Int) := by omega
  go_wp2_with fail
  go_quiet (fail)
  have ek : ((k + 1 : Nat) : Int) = (k : Int) + 1 := by omega
  have HG5 : Hid (RowBlk 209 (((w4.setCell ⟨g, 3, none⟩ (.int .u64 (z : Int))).setCell ⟨g, 2, none⟩ (.int .i64 ((k : Int) + 1))).drewN nq) g (rdVs gp inv (k + 1) z (.slice none 0 0))) := Lib.hid (by
    have h1 := ((HG4.out.put 3 (.int .u64 (z : Int))).put 2 (.int .i64 ((k : Int) + 1))).drewN nq
    unfold rdVs at h1 ⊢
    rw [ek]; exact h1)
  have HT5 : Hid (RowBlk 110 (((w4.setCell ⟨g, 3, none⟩ (.int .u64 (z : Int))).setCell ⟨g, 2, none⟩ (.int .i64 ((k : Int) + 1))).drewN nq) w.heap.size [.iface 94 (.pointer (some ⟨bm, 0, none⟩)), .int .i64 (t : Int)]) := Lib.hid (((HT4.out.other n3 _).other n3 _).drewN nq)
  have HA5 : Hid (RowBlk 45 (((w4.setCell ⟨g, 3, none⟩ (.int .u64 (z : Int))).setCell ⟨g, 2, none⟩ (.int .i64 ((k : Int) + 1))).drewN nq) (w.heap.size + 1) [.int .i64 0, .int .u64 0, .slice none 0 0]) := Lib.hid (((HA4.out.other n1 _).other n1 _).drewN nq)
  have HM5 : Hid (MemIs 136 (((w4.setCell ⟨g, 3, none⟩ (.int .u64 (z : Int))).setCell ⟨g, 2, none⟩ (.int .i64 ((k : Int) + 1))).drewN nq) bm bw l { c with r := c.r + 1 }) := Lib.hid (((HM4.out.setNew _ _ hgm hgw).setNew _ _ hgm hgw).drewN nq)
  have HB5 : Hid (ButS (fun k => k = bm ∨ k = bw ∨ k = g) w (((w4.setCell ⟨g, 3, none⟩ (.int .u64 (z : Int))).setCell ⟨g, 2, none⟩ (.int .i64 ((k : Int) + 1))).drewN nq)) := Lib.hid ((((HBa.out.drew.trans (ButS.of_but HB4.out (.inl rfl) (.inr (.inl rfl)))).setCell (.inl (.inr (.inr rfl))) _).setCell (.inl (.inr (.inr rfl))) _).drewN nq)
  have HO5 : Hid (TalObj n gp (((w4.setCell ⟨g, 3, none⟩ (.int .u64 (z : Int))).setCell ⟨g, 2, none⟩ (.int .i64 ((k : Int) + 1))).drewN nq) s FO) := Lib.hid (HO.out.keep (fun k hk => HB5.out.block k (HSEP.out k hk).1 (fun h => h.elim (HSEP.out k hk).2.1 (fun h => h.elim (HSEP.out k hk).2.2.1 (HSEP.out k hk).2.2.2))) (fun _ h => h))
  generalize ((w4.setCell ⟨g, 3, none⟩ (.int .u64 (z : Int))).setCell ⟨g, 2, none⟩ (.int .i64 ((k : Int) + 1))).drewN nq = wb at HG5 HT5 HA5 HM5 HB5 HO5 ⊢
  clear fz
  have a0 := HA5.out.cell (i := 0) rfl
  have a1 := HA5.out.cell (i := 1) rfl
  have a2 := HA5.out.cell (i := 2) rfl
  have z0 : wb.frozen? ⟨w.heap.size + 1, 0, none⟩ = false := HA5.out.free
  have z1 : wb.frozen? ⟨w.heap.size + 1, 1, none⟩ = false := HA5.out.free
  have z2 : wb.frozen? ⟨w.heap.size + 1, 2, none⟩ = false := HA5.out.free
  have hbg := HG5.out.lt
  have hba := HA5.out.lt
  obtain ⟨mn, hmn⟩ : ∃ mn, nthL s z = mn := ⟨_, rfl⟩
  have HNT : Hid (∀ W : World, TalObj n gp W s FO → Calls Try.prog 133 #[.pointer (some ⟨gp, 2, none⟩), .int .u64 (z : Int)] W fun e w' => e = .returned (.int .i64 (mn : Int)) ∧ W = w') := Lib.hid (by rw [← hmn]; exact HNTH.out)
  have hmb : mn ≤ 70000 := by rw [← hmn]; exact HNB.out
  have HMN := Lib.hid hmn
  clear hmn
  have b0 : wb.cell? ⟨g, 0, none⟩ = some (.pointer (some ⟨gp, 0, none⟩)) := HG5.out.cell rfl
  have b1 : wb.cell? ⟨g, 1, none⟩ = some (.int .i64 (inv : Int)) := HG5.out.cell rfl
  have b3 : wb.cell? ⟨g, 3, none⟩ = some (.int .u64 (z : Int)) := HG5.out.cell rfl
  clear a0 a1 a2 z0 z1 z2
  go_wp2_with fail
  go_region_held3 (fun w' => w'.cell? ⟨g, 0, none⟩ = some (.pointer (some ⟨gp, 0, none⟩)) ∧ w'.cell? ⟨g, 1, none⟩ = some (.int .i64 (inv : Int)) ∧ w'.cell? ⟨g, 3, none⟩ = some (.int .u64 (z : Int)))
    (first | with_reducible exact ⟨b0, b1, b3⟩ | go_keep)
    (first
      | (go_at_call 133
         refine (HNT.out wb.drew (HO5.out.keep (fun _ _ => rfl) (fun _ h => h))).mono ?_
         rintro e w6 ⟨rfl, rfl⟩))
  rename_i hHeld
  clear hHeld b0 b1 b3
  have hmx : (if inv < mn then (mn : Int) else (inv : Int)) = ((max inv mn : Nat) : Int) := by split <;> omega
  rw [hmx]
  obtain ⟨mm, hmm2⟩ : ∃ mm, max inv mn = mm := ⟨_, rfl⟩
  rw [hmm2]
  have hmm3 : mm ≤ 70000 := by omega
  have HMM := Lib.hid hmm2
  clear hmx hmm2
  have HGc : Hid (RowBlk 209 wb.drew g (rdVs gp inv (k + 1) z (.slice none 0 0))) := Lib.hid HG5.out.drew
  have HTc : Hid (RowBlk 110 wb.drew w.heap.size [.iface 94 (.pointer (some ⟨bm, 0, none⟩)), .int .i64 (t : Int)]) := Lib.hid HT5.out.drew
  have HAc : Hid (RowBlk 45 wb.drew (w.heap.size + 1) [.int .i64 0, .int .u64 0, .slice none 0 0]) := Lib.hid HA5.out.drew
  have HMc : Hid (MemIs 136 wb.drew bm bw l { c with r := c.r + 1 }) := Lib.hid HM5.out.drew
  have HBc : Hid (ButS (fun k => k = bm ∨ k = bw ∨ k = g) w wb.drew) := Lib.hid HB5.out.drew
  generalize wb.drew = wc at HGc HTc HAc HMc HBc ⊢
  have g3 : wc.cell? ⟨g, 3, none⟩ = some (.int .u64 (z : Int)) := HGc.out.cell rfl
  have g4 : wc.cell? ⟨g, 4, none⟩ = some (.slice none 0 0) := HGc.out.cell rfl
  have fg : ∀ j, wc.frozen? ⟨g, j, none⟩ = false := fun j => HGc.out.free
  have t1 : wc.cell? ⟨w.heap.size, 1, none⟩ = some (.int .i64 (t : Int)) := HTc.out.cell rfl
  have a0 := HAc.out.cell (i := 0) rfl
  have a1 := HAc.out.cell (i := 1) rfl
  have a2 := HAc.out.cell (i := 2) rfl
  have z0 : wc.frozen? ⟨w.heap.size + 1, 0, none⟩ = false := HAc.out.free
  have z1 : wc.frozen? ⟨w.heap.size + 1, 1, none⟩ = false := HAc.out.free
  have z2 : wc.frozen? ⟨w.heap.size + 1, 2, none⟩ = false := HAc.out.free
  have l1 := HGc.out.lt
  have l2 := HAc.out.lt
  have l3 := HTc.out.lt
  have l4 : w.heap.size ≤ wc.heap.size := HBc.out.size
  have ng : g ≠ wc.heap.size := by omega
  have ng2 : wc.heap.size ≠ g := by omega
  have na : w.heap.size + 1 ≠ wc.heap.size := by omega
  have na2 : wc.heap.size ≠ w.heap.size + 1 := by omega
  go_wp2_with fail
  have HX : Hid (RowBlk 45 (((((wc.setCell ⟨g, 4, none⟩ (.slice (some ⟨wc.heap.size, 0, none⟩) 2 2)).setCell ⟨w.heap.size + 1, 0, none⟩ (.int .i64 0)).setCell ⟨w.heap.size + 1, 1, none⟩ (.int .u64 (z : Int))).setCell ⟨w.heap.size + 1, 2, none⟩ (.slice none 0 0)).alloc (.cells #[.int .i64 (2 * (mm : Int)), .int .i64 (2 * (t : Int))] 3)) (w.heap.size + 1) [.int .i64 0, .int .u64 (z : Int), .slice none 0 0] ∧ RowBlk 209 (((((wc.setCell ⟨g, 4, none⟩ (.slice (some ⟨wc.heap.size, 0, none⟩) 2 2)).setCell ⟨w.heap.size + 1, 0, none⟩ (.int .i64 0)).setCell ⟨w.heap.size + 1, 1, none⟩ (.int .u64 (z : Int))).setCell ⟨w.heap.size + 1, 2, none⟩ (.slice none 0 0)).alloc (.cells #[.int .i64 (2 * (mm : Int)), .int .i64 (2 * (t : Int))] 3)) g (rdVs gp inv (k + 1) z (.slice (some ⟨wc.heap.size, 0, none⟩) 2 2)) ∧ MemIs 136 (((((wc.setCell ⟨g, 4, none⟩ (.slice (some ⟨wc.heap.size, 0, none⟩) 2 2)).setCell ⟨w.heap.size + 1, 0, none⟩ (.int .i64 0)).setCell ⟨w.heap.size + 1, 1, none⟩ (.int .u64 (z : Int))).setCell ⟨w.heap.size + 1, 2, none⟩ (.slice none 0 0)).alloc (.cells #[.int .i64 (2 * (mm : Int)), .int .i64 (2 * (t : Int))] 3)) bm bw l { c with r := c.r + 1 } ∧ ButS (fun k => k = bm ∨ k = bw ∨ k = g) w (((((wc.setCell ⟨g, 4, none⟩ (.slice (some ⟨wc.heap.size, 0, none⟩) 2 2)).setCell ⟨w.heap.size + 1, 0, none⟩ (.int .i64 0)).setCell ⟨w.heap.size + 1, 1, none⟩ (.int .u64 (z : Int))).setCell ⟨w.heap.size + 1, 2, none⟩ (.slice none 0 0)).alloc (.cells #[.int .i64 (2 * (mm : Int)), .int .i64 (2 * (t : Int))] 3)) ∧ RowBlk 3 (((((wc.setCell ⟨g, 4, none⟩ (.slice (some ⟨wc.heap.size, 0, none⟩) 2 2)).setCell ⟨w.heap.size + 1, 0, none⟩ (.int .i64 0)).setCell ⟨w.heap.size + 1, 1, none⟩ (.int .u64 (z : Int))).setCell ⟨w.heap.size + 1, 2, none⟩ (.slice none 0 0)).alloc (.cells #[.int .i64 (2 * (mm : Int)), .int .i64 (2 * (t : Int))] 3)) wc.heap.size (nums [2 * mm, 2 * t])) := Lib.hid
    ⟨((((HAc.out.other n1 _).put 0 _).put 1 _).put 2 _).alloc _, ((((HGc.out.put 4 _).other n2 _).other n2 _).other n2 _).alloc _, ((((HMc.out.setNew _ _ hgm hgw).setNew _ _ (by omega) (by omega)).setNew _ _ (by omega) (by omega)).setNew _ _ (by omega) (by omega)).alloc _,
      ((((HBc.out.setCell (.inl (.inr (.inr rfl))) _).setCell (.inr (by show w.heap.size ≤ w.heap.size + 1; omega)) _).setCell (.inr (by show w.heap.size ≤ w.heap.size + 1; omega)) _).setCell (.inr (by show w.heap.size ≤ w.heap.size + 1; omega)) _).alloc _, by
      have h1 := RowBlk.new ((((wc.setCell ⟨g, 4, none⟩ (.slice (some ⟨wc.heap.size, 0, none⟩) 2 2)).setCell ⟨w.heap.size + 1, 0, none⟩ (.int .i64 0)).setCell ⟨w.heap.size + 1, 1, none⟩ (.int .u64 (z : Int))).setCell ⟨w.heap.size + 1, 2, none⟩ (.slice none 0 0)) [.int .i64 (2 * (mm : Int)), .int .i64 (2 * (t : Int))] 3
      have e : ((((wc.setCell ⟨g, 4, none⟩ (.slice (some ⟨wc.heap.size, 0, none⟩) 2 2)).setCell ⟨w.heap.size + 1, 0, none⟩ (.int .i64 0)).setCell ⟨w.heap.size + 1, 1, none⟩ (.int .u64 (z : Int))).setCell ⟨w.heap.size + 1, 2, none⟩ (.slice none 0 0)).heap.size = wc.heap.size := by simp [World.setCell]
      rw [e] at h1; exact h1⟩
  generalize (((((wc.setCell ⟨g, 4, none⟩ (.slice (some ⟨wc.heap.size, 0, none⟩) 2 2)).setCell ⟨w.heap.size + 1, 0, none⟩ (.int .i64 0)).setCell ⟨w.heap.size + 1, 1, none⟩ (.int .u64 (z : Int))).setCell ⟨w.heap.size + 1, 2, none⟩ (.slice none 0 0)).alloc (.cells #[.int .i64 (2 * (mm : Int)), .int .i64 (2 * (t : Int))] 3)) = W5 at HX ⊢
  have q0 := HX.out.1.cell (i := 0) rfl
  have q1 := HX.out.1.cell (i := 1) rfl
  have q2 := HX.out.1.cell (i := 2) rfl
  refine bodyPost_ret (v := .tuple #[.agg #[.int .i64 0, .int .u64 (z : Int), .slice none 0 0], .bool true]) (by simp [results, Try.results132, go_sem, q0, q1, q2]) rfl ⟨by rw [HZ.out], HX.out.2.2.1, HX.out.2.2.2.1, wc.heap.size, by rw [HZ.out]; exact HX.out.2.1, ?_, l4⟩
  rw [HZ.out, HMN.out, HMM.out]
  exact HX.out.2.2.2.2
set_option maxRecDepth 100000 in
theorem talKey_any (g : Nat) (vs : List Value) (kv : Value) (w : World) (hg : RowBlk 209 w g vs) (hk : vs[4]? = some kv) : Calls Try.prog 131 #[.pointer (some ⟨g, 0, none⟩)] w fun e w' => e = .returned kv ∧ w = w' := by
  have c4 : w.cell? ⟨g, 4, none⟩ = some kv := hg.cell hk
  have hgl := hg.lt
  clear hg hk
  go_enter Try.func131, Try.ntmps131
  go_wp2
  go_ret
  exact ⟨rfl, rfl⟩
end
end Go.Proofs.Ytcedfcdhdgmelaa
