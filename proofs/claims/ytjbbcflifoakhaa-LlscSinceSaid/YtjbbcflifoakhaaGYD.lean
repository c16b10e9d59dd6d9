/- Walks of linked words: Size, Place. | Walk of linked words' Play. | Linked words at the program: MachOk. | Linked words at the program: MachOk; Place; Play. -/
import Derived.Test.YtjbbcflifoakhaaGYB
import Derived.Test.YtjbbcflifoakhaaZC
import Derived.Carry
import Derived.Test.YtjbbcflifoakhaaGYA
import Derived.Test.YtjbbcflifoakhaaGYC
namespace Go.Proofs.Ytjbbcflifoakhaa
section
open Go.ChangeShapes Go.WideShapes Go.ChangeAt Go.RowKit
set_option linter.unusedVariables false
set_option linter.unusedSimpArgs false
set_option maxHeartbeats 400000 in
theorem llSize_bad (n kv : Int) (hk : kv < 1 ∨ 64 < kv) (W : World) : Calls Try.prog 57 #[.agg #[.int .i64 kv], .int .i64 n] W fun e w' => e = .returned (.tuple #[.int .i64 0, .int .i64 10]) ∧ Below W.heap.size W w' := by
  by_cases h : kv < 1
  · go_enter Try.func57, Try.ntmps57
    go_wp2
    go_ret2
    exact ⟨rfl, (Below.refl _ _).alloc (Nat.le_refl _) _⟩
  · have h2 : 64 < kv := by omega
    clear hk
    go_enter Try.func57, Try.ntmps57
    go_wp2
    go_ret2
    exact ⟨rfl, (Below.refl _ _).alloc (Nat.le_refl _) _⟩
set_option maxHeartbeats 400000 in
theorem llSize_ok (n : Int) (k : Nat) (hk : 1 ≤ k ∧ k ≤ 64) (W : World) : Calls Try.prog 57 #[.agg #[.int .i64 (k : Int)], .int .i64 n] W fun e w' => e = .returned (.tuple #[.int .i64 (k : Int), .int .i64 0]) ∧ Below W.heap.size W w' := by
  have h2 : ¬ (k : Int) < 1 := by omega
  have h3 : ¬ 64 < (k : Int) := by omega
  go_enter Try.func57, Try.ntmps57
  go_wp2
  go_ret2
  exact ⟨rfl, (Below.refl _ _).alloc (Nat.le_refl _) _⟩
theorem infoLks : (Try.prog.info? 149).map (fun i => (i.zero, i.size, i.bytes)) = some (some (.map none), 1, 8) := by kernel_rfl
theorem owns_no_js {P : Program} {k e : TypeId} {w : World} {b n B sz m : Nat} {z v : Value} {f : Int → Value} {xs : List Value} (h : MapJs P k w b n z f) (ho : w.ownsRow B e sz v m xs) : v.ownBlock ≠ some b := by
  intro e1
  obtain ⟨_, ⟨rfl, _⟩ | ⟨g, cap, cur, rfl, _, hh, _⟩⟩ := ho
  · cases e1
  · cases e1; exact h.no_cells hh
/-- the maps so far -/
structure PlR (bp j : Nat) (k : Nat) (v : Value) (ms : List Nat) (w wr : World) : Prop where
  row : RowBlk 147 wr bp [.int .i64 (k : Int), .int .i64 0, v]
  own : wr.ownsRow (bp + 1) 149 1 v j (ms.map fun m => .map (some m))
  len : ms.length = j
  maps : ∀ (i m : Nat), ms[i]? = some m → bp < m ∧ MapJs Try.prog 3 wr m 0 (.pointer none) (fun _ => .pointer none)
  ne : ∀ (i j m : Nat), ms[i]? = some m → ms[j]? = some m → i = j
  below : Below w.heap.size w wr
def LlPlaced (n k : Nat) (w : World) (e : Ending) (w' : World) : Prop :=
  ∃ (bo cap : Nat) (ms : List Nat), e = .returned (.iface 147 (.agg #[.int .i64 (k : Int), .int .i64 0, .slice (some ⟨bo, 0, none⟩) n cap])) ∧ Below w.heap.size w w' ∧ w.heap.size ≤ bo ∧ bo < w'.heap.size ∧ (∀ (p m : Nat), ms[p]? = some m → w'.cell? ⟨bo, p, none⟩ = some (.map (some m))) ∧ ms.length = n ∧
    (∀ (i m : Nat), ms[i]? = some m → w.heap.size ≤ m ∧ MapJs Try.prog 3 w' m 0 (.pointer none) (fun _ => .pointer none)) ∧ ∀ (i j m : Nat), ms[i]? = some m → ms[j]? = some m → i = j
set_option maxRecDepth 100000 in
set_option maxHeartbeats 4000000 in
theorem llPlace (n k : Nat) (hn : 1 ≤ n ∧ n ≤ 16) (w : World) : Calls Try.prog 56 #[.agg #[.int .i64 (k : Int)], .int .i64 (n : Int), .int .i64 0] w (LlPlaced n k w) := by
  have hmm := @run_makeMap Try.prog
  obtain ⟨iI, ia, ib, ic, id⟩ := info_parts infoLks
  go_enter Try.func56, Try.ntmps56
  go_wp2_with fail
  have HR0 : Hid (PlR (w.heap.size + 1) 0 k (.slice none 0 0) [] w ((w.alloc (.cells #[.int .i64 (k : Int)] 60)).alloc (.cells #[.int .i64 (k : Int), .int .i64 0, .slice none 0 0] 147))) := Lib.hid (by
    refine ⟨?_, World.ownsRow_nil _ _ _ _, rfl, fun i m h => by simp at h, fun i j m h => by simp at h, ((Below.refl _ _).alloc (Nat.le_refl _) _).alloc (by simp) _⟩
    have h := RowBlk.new (w.alloc (.cells #[.int .i64 (k : Int)] 60)) [.int .i64 (k : Int), .int .i64 0, .slice none 0 0] 147
    have e : (w.alloc (.cells #[.int .i64 (k : Int)] 60)).heap.size = w.heap.size + 1 := by simp
    rw [e] at h; exact h)
  generalize ((w.alloc (.cells #[.int .i64 (k : Int)] 60)).alloc (.cells #[.int .i64 (k : Int), .int .i64 0, .slice none 0 0] 147)) = w2 at HR0 ⊢
  go_loopw [13] (fun kv wr => ∃ (j : Nat) (v : Value) (ms : List Nat), j ≤ n ∧ kv = .int .i64 j ∧ Hid (PlR (w.heap.size + 1) j k v ms w wr)) (fun kv _ => n - (intOf kv).toNat)
  case atStart => exact ⟨0, _, _, Nat.zero_le _, rfl, HR0⟩
  case round =>
    obtain ⟨j, v, ms, hj, rfl, hR⟩ := hrel
    by_cases hlt : j < n
    · have hc : (j : Int) < (n : Int) := by omega
      have r2 := hR.out.row.cell (i := 2) rfl
      have hrl := hR.out.row.lt
      go_wp2_with (at_builtin; refine append_at1 rfl _ _ 145 rfl (w.heap.size + 2) 149 iI (.map none) Try.underlying145 ia ib ic id rfl v j _ rfl (hR.out.own.alloc (.map #[] 0)) (.map (some wr.heap.size)) (wr.heap.size + 1) (by simp) rfl rfl (by omega) (by simp; omega) ?_)
      intro v1 w5 ho5 hg5 hl5
      obtain ⟨ao1, g1, cap1, hv1, hao1, hrest1⟩ := owns_open ho5
      obtain rfl := hao1 (Nat.succ_pos j)
      clear hrest1 hao1
      have HG5 := Lib.hid hg5
      subst hv1
      have hws : ((wr.alloc (.map #[] 0)).alloc (.cells #[.map (some wr.heap.size)] 149)).heap.size = wr.heap.size + 2 := by simp
      have hkeep : ∀ b, b < wr.heap.size → v.ownBlock ≠ some b → w5.heap[b]? = wr.heap[b]? := fun b hb hne => (hg5.block b (by omega) (fun e => hne e.symm)).trans ((Below.heap_alloc _ _ b (by simp; omega)).trans (Below.heap_alloc _ _ b hb))
      have hs5 : wr.heap.size + 2 ≤ w5.heap.size := by have := hg5.size; omega
      have hvo : v.ownBlock ≠ some (w.heap.size + 1) := row_owns_ne hR.out.row hR.out.own (by decide)
      have hrow5 := hR.out.row.same (hkeep _ hR.out.row.lt hvo)
      have hnew : MapJs Try.prog 3 w5 wr.heap.size 0 (.pointer none) (fun _ => .pointer none) := by
        have h0 : MapJs Try.prog 3 (wr.alloc (.map #[] 0)) wr.heap.size 0 (.pointer none) (fun _ => .pointer none) := MapJs.made _ _ _ _
        refine (h0.alloc (.cells #[.map (some wr.heap.size)] 149)).kept hg5 (fun e => ?_)
        have := hR.out.own.lt wr.heap.size e.symm
        omega
      have hrest : ∀ (i m : Nat), ms[i]? = some m → w.heap.size + 1 < m ∧ m < wr.heap.size ∧ MapJs Try.prog 3 w5 m 0 (.pointer none) (fun _ => .pointer none) := fun i m hi => by
        obtain ⟨h1, h2⟩ := hR.out.maps i m hi
        exact ⟨h1, h2.lt, h2.sameB (hkeep m h2.lt (owns_no_js h2 hR.out.own))⟩
      have hB5 : Below w.heap.size w w5 := by
        have hb0 := hR.out.below
        refine ⟨hg5.os.trans hb0.os, hg5.tape.trans hb0.tape, hg5.output.trans hb0.output, by have := hb0.size; omega, fun b hb => (hkeep b (by omega) (fun e => ?_)).trans (hb0.block b hb)⟩
        have := hR.out.own.lt b e
        omega
      have HN : Hid (PlR (w.heap.size + 1) (j + 1) k (.slice (some ⟨g1, 0, none⟩) (j + 1) cap1) (ms ++ [wr.heap.size]) w (w5.setCell ⟨w.heap.size + 1, 2, none⟩ (.slice (some ⟨g1, 0, none⟩) (j + 1) cap1))) := Lib.hid (by
        have hne1 : ∀ b, w.heap.size + 1 < b → b ≠ w.heap.size + 1 := fun b hb => by omega
        refine ⟨hrow5.put 2 _, ?_, by rw [List.length_append, hR.out.len]; rfl, fun i m hi => ?_, fun i i2 m hi hi2 => ?_, hB5.setCell (by show w.heap.size ≤ w.heap.size + 1; omega) _⟩
        · rw [List.map_append]
          exact owns_set ho5 (a := ⟨w.heap.size + 1, 2, none⟩) (by show w.heap.size + 1 < w.heap.size + 2; omega) _
        · rcases List.getElem?_eq_some_iff.1 hi with ⟨hl, hv⟩
          by_cases hin : i < ms.length
          · rw [List.getElem?_append_left hin] at hi
            obtain ⟨h1, h2, h3⟩ := hrest i m hi
            exact ⟨h1, h3.setCell (by show m ≠ w.heap.size + 1; omega) _⟩
          · rw [List.getElem?_append_right (by omega)] at hi
            have h0 : i - ms.length = 0 := by rw [List.length_append, List.length_singleton] at hl; omega
            rw [h0] at hi; cases hi
            exact ⟨by omega, hnew.setCell (by show wr.heap.size ≠ w.heap.size + 1; omega) _⟩
        · have hx : ∀ (i m : Nat), (ms ++ [wr.heap.size])[i]? = some m → (i < ms.length ∧ ms[i]? = some m ∧ m < wr.heap.size) ∨ (i = ms.length ∧ m = wr.heap.size) := fun i m hi => by
            by_cases hin : i < ms.length
            · rw [List.getElem?_append_left hin] at hi
              exact .inl ⟨hin, hi, (hrest i m hi).2.1⟩
            · have hl := (List.getElem?_eq_some_iff.1 hi).1
              rw [List.getElem?_append_right (by omega)] at hi
              have h0 : i - ms.length = 0 := by rw [List.length_append, List.length_singleton] at hl; omega
              rw [h0] at hi; cases hi
              exact .inr ⟨by omega, rfl⟩
          rcases hx i m hi with ⟨_, h1, h2⟩ | ⟨h1, h2⟩ <;> rcases hx i2 m hi2 with ⟨_, h3, h4⟩ | ⟨h3, h4⟩
          · exact hR.out.ne i i2 m h1 h3
          · omega
          · omega
          · omega)
      have r5 := hrow5.cell (i := 2) rfl
      have fz : w5.frozen? ⟨w.heap.size + 1, 2, none⟩ = false := hrow5.free
      clear hg5 hkeep hrow5 hnew hrest hB5 r2 hmm
      go_wp2_with fail
      go_roundw
      case rel => exact ⟨j + 1, _, _, by omega, by go_num, HN⟩
      case measure => simp [RowKit.intOf]; omega
    · obtain rfl : j = n := by omega
      have hc : ¬ (j : Int) < (j : Int) := by omega
      have r0 := hR.out.row.cell (i := 0) rfl
      have r1 := hR.out.row.cell (i := 1) rfl
      have r2 := hR.out.row.cell (i := 2) rfl
      go_wp2_with fail
      go_ret
      obtain ⟨ao, g, cap, rfl, o1, o2, o3, o4⟩ := owns_open hR.out.own
      obtain rfl := o1 (by omega)
      refine ⟨g, cap, ms, rfl, hR.out.below, by have := o2 (by omega); omega, o3 (by omega), fun p m hp => o4 p _ (by rw [List.getElem?_map, hp]; rfl), hR.out.len, fun i m hi => ⟨by have := (hR.out.maps i m hi).1; omega, (hR.out.maps i m hi).2⟩, hR.out.ne⟩
end
section
open Go.RowKit
set_option linter.unusedVariables false
theorem llPlay_any_new (kv : Int) (w : World) : Calls Try.prog 11 #[.int .i64 kv] w fun e w' => e = .returned (.iface 60 (.agg #[.int .i64 kv])) ∧ w = w' := by
  go_enter Try.func11, Try.ntmps11
  go_wp2
  go_ret
  exact ⟨rfl, rfl⟩
set_option maxRecDepth 100000 in
set_option maxHeartbeats 4000000 in
theorem llPlay_any (n kv : Int) (I : St (llM kv.toNat) → Prop) (size er : Nat) (ao : Option Addr) (b o cap : Nat) (cs : List CallV) (ao3 : Option Addr) (b3 o3 cap3 : Nat) (picks : List Int) (w : World) (ha : 0 < cs.length → ao = some ⟨b, o, none⟩) (hb : 0 < cs.length → b < w.heap.size) (hc : CallsAt w b o cs) (hcap : ao = none → cap = 0)
    (ha3 : 0 < picks.length → ao3 = some ⟨b3, o3, none⟩) (hb3 : 0 < picks.length → b3 < w.heap.size) (hc3 : ICells w b3 o3 picks) (hnp : picks.length ≤ 9223372036854775807)
    (hS : checkL n (thr cs) picks.length = 0 → SizeC 60 (.agg #[.int .i64 kv]) n size er) (hP : checkL n (thr cs) picks.length = 0 → er = 0 → NotFilled 60 (.agg #[.int .i64 kv]) ∧ PlaceC cs I ll0 60 (.agg #[.int .i64 kv]) n ∧ 1 ≤ size ∧ size ≤ 65536 ∧ I (stM cs (List.replicate size 0) ll0)) :
    Calls Try.prog 6 #[.int .i64 n, .int .i64 kv, .slice ao cs.length cap, .slice ao3 picks.length cap3] w (PlayG (llM kv.toNat) n er cs (List.replicate size 0) ll0 picks w) := by
  have HA := Lib.hid ha
  have HB := Lib.hid hb
  have HC := Lib.hid hc
  have HA3 := Lib.hid ha3
  have HB3 := Lib.hid hb3
  have HC3 := Lib.hid hc3
  have HCP := Lib.hid hcap
  have HS := Lib.hid hS
  have HP := Lib.hid hP
  clear ha hb hc ha3 hb3 hc3 hcap hS hP
  go_enter Try.func6, Try.ntmps6
  go_wp2_with fail
  refine (llPlay_any_new kv _).mono ?_
  rintro e w1 ⟨rfl, rfl⟩
  go_wp2_with fail
  generalize hw2 : (w.alloc (.cells #[.slice none 0 0, .slice none 0 0, .int .i64 0, .int .i64 0, .int .i64 0, .int .i64 0, .int .i64 0, .int .i64 0, .int .i64 0] 32)).alloc (.cells #[.iface 60 (.agg #[.int .i64 kv])] 49) = w2
  have HBa : Hid (Below w.heap.size w w2) := Lib.hid (by rw [← hw2]; exact ((Below.refl w.heap.size w).alloc (Nat.le_refl _) _).alloc (by simp) _)
  have hsz2 : w2.heap.size = w.heap.size + 2 := by rw [← hw2]; simp
  have hz2 : RowBlk 32 w2 w.heap.size zeroVs := by rw [← hw2]; exact (RowBlk.new w zeroVs 32).alloc _
  have hob2 : w2.cell? ⟨w.heap.size + 1, 0, none⟩ = some (.iface 60 (.agg #[.int .i64 kv])) := by rw [← hw2, World.cell?_alloc_at _ _ _ _ (by simp)]; rfl
  have HZ2 := Lib.hid hz2
  clear hz2 hw2
  refine (play_any I ll0 60 (.agg #[.int .i64 kv]) n size er ao b o cap cs ao3 b3 o3 cap3 picks (w.heap.size + 1) 1 w2 HA.out (fun h => by have := HB.out h; omega) (HC.out.stays HBa.out HB.out) HCP.out HA3.out (fun h => by have := HB3.out h; omega) (HC3.out.stays HBa.out HB3.out) hnp hob2 HS.out HP.out).mono ?_
  rintro e w3 ⟨a1, n1, c1, a2, n2, c2, i0, i1, i2, i3, i4, i5, i6, v, rfl, rfl, hv1, hv2, hb3⟩
  have hz := HZ2.out.same (hb3.block _ (by omega))
  have HB3' : Hid (Below w.heap.size w w3) := Lib.hid (HBa.out.trans (hb3.mono (by omega)))
  have HV1 := Lib.hid hv1
  have HV2 := Lib.hid hv2
  have r0 := hz.cell (i := 0) rfl
  have r1 := hz.cell (i := 1) rfl
  have r2 := hz.cell (i := 2) rfl
  have r3 := hz.cell (i := 3) rfl
  have r4 := hz.cell (i := 4) rfl
  have r5 := hz.cell (i := 5) rfl
  have r6 := hz.cell (i := 6) rfl
  have r7 := hz.cell (i := 7) rfl
  have r8 := hz.cell (i := 8) rfl
  have fr : ∀ k, w3.frozen? ⟨w.heap.size, k, none⟩ = false := fun k => hz.free
  have HZ3 := Lib.hid hz
  clear hb3 hz hob2 hv1 hv2
  go_wp2_with fail
  have H7 : Hid (RowBlk 32 (((((((((w3.setCell ⟨w.heap.size, 0, none⟩ (.slice a1 n1 c1)).setCell ⟨w.heap.size, 1, none⟩ (.slice a2 n2 c2)).setCell ⟨w.heap.size, 2, none⟩ (.int .i64 i0)).setCell ⟨w.heap.size, 3, none⟩ (.int .i64 i1)).setCell ⟨w.heap.size, 4, none⟩ (.int .i64 i2)).setCell ⟨w.heap.size, 5, none⟩ (.int .i64 i3)).setCell ⟨w.heap.size, 6, none⟩ (.int .i64 i4)).setCell ⟨w.heap.size, 7, none⟩ (.int .i64 i5)).setCell ⟨w.heap.size, 8, none⟩ (.int .i64 i6)) w.heap.size [.slice a1 n1 c1, .slice a2 n2 c2, .int .i64 i0, .int .i64 i1, .int .i64 i2, .int .i64 i3, .int .i64 i4, .int .i64 i5, .int .i64 i6] ∧
      (playErr n cs picks.length er = 0 → RepG w.heap.size (((((((((w3.setCell ⟨w.heap.size, 0, none⟩ (.slice a1 n1 c1)).setCell ⟨w.heap.size, 1, none⟩ (.slice a2 n2 c2)).setCell ⟨w.heap.size, 2, none⟩ (.int .i64 i0)).setCell ⟨w.heap.size, 3, none⟩ (.int .i64 i1)).setCell ⟨w.heap.size, 4, none⟩ (.int .i64 i2)).setCell ⟨w.heap.size, 5, none⟩ (.int .i64 i3)).setCell ⟨w.heap.size, 6, none⟩ (.int .i64 i4)).setCell ⟨w.heap.size, 7, none⟩ (.int .i64 i5)).setCell ⟨w.heap.size, 8, none⟩ (.int .i64 i6)) (.agg #[.slice a1 n1 c1, .slice a2 n2 c2, .int .i64 i0, .int .i64 i1, .int .i64 i2, .int .i64 i3, .int .i64 i4, .int .i64 i5, .int .i64 i6]) (repOf (endM (M := (llM kv.toNat)) cs (List.replicate size 0) ll0 picks))) ∧ Below w.heap.size w (((((((((w3.setCell ⟨w.heap.size, 0, none⟩ (.slice a1 n1 c1)).setCell ⟨w.heap.size, 1, none⟩ (.slice a2 n2 c2)).setCell ⟨w.heap.size, 2, none⟩ (.int .i64 i0)).setCell ⟨w.heap.size, 3, none⟩ (.int .i64 i1)).setCell ⟨w.heap.size, 4, none⟩ (.int .i64 i2)).setCell ⟨w.heap.size, 5, none⟩ (.int .i64 i3)).setCell ⟨w.heap.size, 6, none⟩ (.int .i64 i4)).setCell ⟨w.heap.size, 7, none⟩ (.int .i64 i5)).setCell ⟨w.heap.size, 8, none⟩ (.int .i64 i6))) := Lib.hid
    ⟨(((((((((HZ3.out.put 0 _).put 1 _).put 2 _).put 3 _).put 4 _).put 5 _).put 6 _).put 7 _).put 8 _),
     fun h => ((HV2.out h).mono (by omega)).other HZ3.out (fun k _ hk => by rw [heap_far hk, heap_far hk, heap_far hk, heap_far hk, heap_far hk, heap_far hk, heap_far hk, heap_far hk, heap_far hk]),
     (((((((((HB3'.out.setCell (Nat.le_refl _) _).setCell (Nat.le_refl _) _).setCell (Nat.le_refl _) _).setCell (Nat.le_refl _) _).setCell (Nat.le_refl _) _).setCell (Nat.le_refl _) _).setCell (Nat.le_refl _) _).setCell (Nat.le_refl _) _).setCell (Nat.le_refl _) _)⟩
  generalize ((((((((w3.setCell ⟨w.heap.size, 0, none⟩ (.slice a1 n1 c1)).setCell ⟨w.heap.size, 1, none⟩ (.slice a2 n2 c2)).setCell ⟨w.heap.size, 2, none⟩ (.int .i64 i0)).setCell ⟨w.heap.size, 3, none⟩ (.int .i64 i1)).setCell ⟨w.heap.size, 4, none⟩ (.int .i64 i2)).setCell ⟨w.heap.size, 5, none⟩ (.int .i64 i3)).setCell ⟨w.heap.size, 6, none⟩ (.int .i64 i4)).setCell ⟨w.heap.size, 7, none⟩ (.int .i64 i5)).setCell ⟨w.heap.size, 8, none⟩ (.int .i64 i6) = W7 at H7 ⊢
  have q0 := H7.out.1.cell (i := 0) rfl
  have q1 := H7.out.1.cell (i := 1) rfl
  have q2 := H7.out.1.cell (i := 2) rfl
  have q3 := H7.out.1.cell (i := 3) rfl
  have q4 := H7.out.1.cell (i := 4) rfl
  have q5 := H7.out.1.cell (i := 5) rfl
  have q6 := H7.out.1.cell (i := 6) rfl
  have q7 := H7.out.1.cell (i := 7) rfl
  have q8 := H7.out.1.cell (i := 8) rfl
  exact bodyPost_ret (v := .tuple #[.agg #[.slice a1 n1 c1, .slice a2 n2 c2, .int .i64 i0, .int .i64 i1, .int .i64 i2, .int .i64 i3, .int .i64 i4, .int .i64 i5, .int .i64 i6], .int .i64 (playErr n cs picks.length er : Nat)]) (by simp [results, Try.results6, go_sem, q0, q1, q2, q3, q4, q5, q6, q7, q8]) rfl
    ⟨_, _, _, _, _, _, _, _, _, _, _, _, _, _, rfl, rfl, HV1.out, H7.out.2.1, H7.out.2.2⟩
end
section
open Go.RowKit
set_option linter.unusedVariables false
set_option linter.unusedSimpArgs false
theorem cell_sameH {w w' : World} {b : Nat} (h : w'.heap[b]? = w.heap[b]?) (o : Nat) : w'.cell? ⟨b, o, none⟩ = w.cell? ⟨b, o, none⟩ := by unfold World.cell?; simp only [h]
/-- a link, as the map has it -/
def LkIs (w : World) (G : Nat → Prop) (o : Option Nat) (v : Value) : Prop := match o with
  | none => v = .pointer none
  | some x => ∃ g, v = .pointer (some ⟨g, 0, none⟩) ∧ G g ∧ w.cell? ⟨g, 0, none⟩ = some (.int .u64 (x : Int))
theorem LkIs.keep {w w' : World} {G G' : Nat → Prop} {o : Option Nat} {v : Value} {m : Nat} (h : LkIs w G o v) (hm : ∀ p : Addr, p.block = m → w.cell? p = none) (hb : ∀ b, G b → b ≠ m → w'.heap[b]? = w.heap[b]?) (hG : ∀ b, G b → G' b) : LkIs w' G' o v := by
  cases o with
  | none => exact h
  | some x =>
    obtain ⟨g, h1, h2, h3⟩ := h
    refine ⟨g, h1, hG g h2, ?_⟩
    rw [cell_sameH (hb g h2 (fun e => by subst e; rw [hm _ rfl] at h3; cases h3)) 0]; exact h3
structure LlObj (n k bo : Nat) (mp : Nat → Nat) (w : World) (s : LlS) (FO : Nat → Prop) : Prop where
  fo : FO bo
  own : ∀ p, p < n → w.cell? ⟨bo, p, none⟩ = some (.map (some (mp p)))
  fm : ∀ p, p < n → FO (mp p)
  ne : ∀ p q, p < n → q < n → mp p = mp q → p = q
  maps : ∀ p, p < n → ∃ f, MapJs Try.prog 3 w (mp p) s.n (.pointer none) f ∧ ∀ i, i < k → LkIs w FO (s.lk p i) (f (i : Int))
section
variable {n k bo : Nat} {mp : Nat → Nat}
theorem LlObj.keep {w w' : World} {s : LlS} {FO G : Nat → Prop} (h : LlObj n k bo mp w s FO) (hb : ∀ b, FO b → w'.heap[b]? = w.heap[b]?) (hG : ∀ b, FO b → G b) : LlObj n k bo mp w' s G := by
  refine ⟨hG _ h.fo, fun p hp => (cell_sameH (hb bo h.fo) p).trans (h.own p hp), fun p hp => hG _ (h.fm p hp), h.ne, fun p hp => ?_⟩
  obtain ⟨f, h1, h2⟩ := h.maps p hp
  refine ⟨f, h1.sameB (hb _ (h.fm p hp)), fun i hi => ?_⟩
  exact (h2 i hi).keep (m := mp p) (fun a ha => h1.no_cell a ha) (fun b hb1 _ => hb b hb1) hG
theorem LlObj.turn {w w' : World} {s s' : LlS} {FO G : Nat → Prop} (h : LlObj n k bo mp w s FO) {th : Nat} (hth : th < n) (hb : ∀ b, FO b → b ≠ mp th → w'.heap[b]? = w.heap[b]?) {f' : Int → Value} (hm : MapJs Try.prog 3 w' (mp th) s'.n (.pointer none) f')
    (hN : s.n ≤ s'.n) (hl : ∀ i, i < k → LkIs w' G (s'.lk th i) (f' (i : Int))) (hs : ∀ p i, p ≠ th → s'.lk p i = s.lk p i) (hG : ∀ b, FO b → G b) : LlObj n k bo mp w' s' G := by
  obtain ⟨f0, m0, _⟩ := h.maps th hth
  have hbo : bo ≠ mp th := fun e => by have := h.own th hth; rw [m0.no_cell _ e] at this; cases this
  refine ⟨hG _ h.fo, fun p hp => (cell_sameH (hb bo h.fo hbo) p).trans (h.own p hp), fun p hp => hG _ (h.fm p hp), h.ne, fun p hp => ?_⟩
  by_cases hpt : p = th
  · subst hpt
    exact ⟨f', hm, hl⟩
  · obtain ⟨f, h1, h2⟩ := h.maps p hp
    refine ⟨f, (h1.sameB (hb _ (h.fm p hp) (fun e => hpt (h.ne p th hp hth e)))).mono hN, fun i hi => ?_⟩
    rw [hs p i hpt]
    exact (h2 i hi).keep (m := mp th) (fun a ha => m0.no_cell a ha) hb hG
end
def llObjV (n k bo cap : Nat) : Value := .iface 147 (.agg #[.int .i64 (k : Int), .int .i64 0, .slice (some ⟨bo, 0, none⟩) n cap])
theorem llOpv_iface (m kd p v lk : Nat) : ∃ t u, llOpv m kd p v lk = .iface t u := by
  unfold llOpv
  split
  · exact ⟨_, _, rfl⟩
  · split
    · exact ⟨_, _, rfl⟩
    · exact ⟨_, _, rfl⟩
def llK (n k bo cap : Nat) (mp : Nat → Nat) : MachRel (llM k) where
  objs := [llObjV n k bo cap]
  Obj := LlObj n k bo mp
  Op := fun _ v q _ => v = llOpv (mp q.th) q.kd q.pl q.v q.lk
  obj_keep := fun h hb hG => h.keep hb hG
  op_keep := fun h _ _ => h
  op_iface := fun h => by subst h; exact llOpv_iface _ _ _ _ _
theorem ll_meth (v : Value) (w : World) : (method 269 147 v "Invoke").run Try.prog w = .ok (63, v) w := by kernel_rfl
theorem ll_enter (args : Array Value) (w : World) : (callFunc 63 args).run Try.prog w = .ok (.enter 63 args) w := by kernel_rfl
theorem llL_meth (v : Value) (w : World) : (method 269 157 v "Step").run Try.prog w = .ok (66, v) w := by kernel_rfl
theorem llL_enter (args : Array Value) (w : World) : (callFunc 66 args).run Try.prog w = .ok (.enter 66 args) w := by kernel_rfl
theorem llS_meth (v : Value) (w : World) : (method 269 159 v "Step").run Try.prog w = .ok (67, v) w := by kernel_rfl
theorem llS_enter (args : Array Value) (w : World) : (callFunc 67 args).run Try.prog w = .ok (.enter 67 args) w := by kernel_rfl
theorem llC_meth (v : Value) (w : World) : (method 269 162 v "Step").run Try.prog w = .ok (70, v) w := by kernel_rfl
theorem llC_enter (args : Array Value) (w : World) : (callFunc 70 args).run Try.prog w = .ok (.enter 70 args) w := by kernel_rfl
theorem noKey_llL (v : Value) : NoKey (.iface 157 v) := fun w => run_typeAssert_lacksB Try.underlying125 (by kernel_rfl) (by kernel_rfl) v 108 w
theorem noKey_llS (v : Value) : NoKey (.iface 159 v) := fun w => run_typeAssert_lacksB Try.underlying125 (by kernel_rfl) (by kernel_rfl) v 108 w
theorem noKey_llC (v : Value) : NoKey (.iface 162 v) := fun w => run_typeAssert_lacksB Try.underlying125 (by kernel_rfl) (by kernel_rfl) v 108 w
theorem RefIn.below {w W : World} {k bo n m : Nat} {x : CallV} {v : Value} (h : RefIn w k bo n m x v) (hb : Below w.heap.size w W) : RefIn W k bo n m x v := by
  obtain ⟨h1, h2, h3, N, f, h4, h5⟩ := h
  exact ⟨h1, h2, (hb.cell (p := ⟨bo, x.t.toNat, none⟩) (World.block_lt_of_cell? w ⟨bo, x.t.toNat, none⟩ h3)).trans h3, N, f, h4.sameB (hb.block _ h4.lt), h5⟩
/-- Invoke, as a machine makes it -/
theorem ll_invC (n k bo cap : Nat) (mp : Nat → Nat) (hk : k ≤ 64) (s : LlS) (x : CallV) (ht : 0 ≤ x.t ∧ x.t < n) (W : World) (FO : Nat → Prop) (hO : LlObj n k bo mp W s FO) (hlt : ∀ b, FO b → b < W.heap.size) : InvC (llK n k bo cap mp) (llObjV n k bo cap) x (s, llInv k s x) FO W := by
  refine ⟨_, _, _, rfl, ll_meth _, ll_enter, fun W' hW' => ?_⟩
  have hOW : ∀ w' : World, Below W'.heap.size W' w' → LlObj n k bo mp w' s FO := fun w' hb => hO.keep (fun b hb2 => (hb.block b (Nat.lt_of_lt_of_le (hlt b hb2) hW'.size)).trans (hW'.block b (hlt b hb2))) (fun _ h => h)
  have hO' := hOW W' (Below.refl _ _)
  have hFO : ∀ w' : World, Below W'.heap.size W' w' → ∀ b, FO b → b < w'.heap.size ∧ (FO b ∨ W'.heap.size ≤ b) ∧ ¬ False := fun w' hb b h => ⟨Nat.lt_of_lt_of_le (hlt b h) (Nat.le_trans hW'.size hb.size), .inl h, id⟩
  have bad : ∀ (er : Nat), er ≤ 1000 → er ≠ 0 → llInv k s x = .inr er → (∀ W2 : World, Below W'.heap.size W' W2 → Calls Try.prog 64 #[.agg #[.int .i64 (k : Int), .int .i64 0, .slice (some ⟨bo, 0, none⟩) n cap], callAgg x] W2 (LlRef (er : Int) W2)) →
      Calls Try.prog 63 #[.agg #[.int .i64 (k : Int), .int .i64 0, .slice (some ⟨bo, 0, none⟩) n cap], callAgg x] W' (InvRel (llK n k bo cap mp) (s, llInv k s x) FO W') := fun er h1000 hne hin hr => by
    refine (ll_inv_err k bo n cap x (er : Int) W' (by omega) hr).mono fun en w' ⟨hen, hb⟩ => ?_
    rw [hin]
    exact ⟨ButS.of_below hb, .nilIface, er, fun _ => False, FO, hen, hOW w' hb, ⟨by unfold opOf; rw [if_neg (by omega)], h1000⟩, fun b h => h.elim, hFO w' hb⟩
  by_cases c1 : x.k < 0 ∨ 2 < x.k
  · exact bad 9 (by decide) (by decide) (by unfold llInv; rw [if_pos c1]) (fun W2 _ => ll_ref9 k bo n cap x W2 c1)
  · by_cases ca : k ≤ x.a
    · exact bad 10 (by decide) (by decide) (by unfold llInv; rw [if_neg c1, if_pos (.inl ca)]) (fun W2 _ => ll_ref10a k bo n cap x W2 (by omega) (by omega) hk ca)
    · by_cases cb : x.k = 1 ∧ 4294967296 ≤ x.b
      · exact bad 10 (by decide) (by decide) (by unfold llInv; rw [if_neg c1, if_pos (.inr cb)]) (fun W2 _ => ll_ref10b k bo n cap x W2 cb.1 hk (by omega) cb.2)
      · have hc2 : ¬ (k ≤ x.a ∨ (x.k = 1 ∧ 4294967296 ≤ x.b)) := fun h => h.elim ca cb
        have htn : x.t.toNat < n := by omega
        obtain ⟨f, m1, m2⟩ := hO'.maps _ htn
        have hl := m2 x.a (by omega)
        have hRef : RefIn W' k bo n (mp x.t.toNat) x (f (x.a : Int)) := ⟨ht.1, ht.2, hO'.own _ htn, _, f, m1, rfl⟩
        by_cases c3 : ¬ x.k = 0 ∧ s.lk x.t.toNat x.a = none
        · rw [c3.2] at hl
          exact bad 8 (by decide) (by decide) (by unfold llInv; rw [if_neg c1, if_neg hc2, if_pos c3]) (fun W2 hW2 => ll_ref8 k bo n cap _ x 8 _ true W2 (by omega) (by omega) hk (by omega) (fun h => by omega) (hRef.below hW2) (.inl ⟨hl, rfl⟩) c3.1 rfl)
        · have hin : llInv k s x = .inl ⟨x.k.toNat, x.t.toNat, x.a, x.b, (s.lk x.t.toNat x.a).getD 0⟩ := by unfold llInv; rw [if_neg c1, if_neg hc2, if_neg c3]
          have hlk : ¬ x.k = 0 → ∃ g, f (x.a : Int) = .pointer (some ⟨g, 0, none⟩) ∧ W'.cell? ⟨g, 0, none⟩ = some (.int .u64 (((s.lk x.t.toNat x.a).getD 0 : Nat) : Int)) := fun h0 => by
            cases hl2 : s.lk x.t.toNat x.a with
            | none => exact absurd ⟨h0, hl2⟩ c3
            | some y =>
              rw [hl2] at hl
              obtain ⟨g, h1, _, h3⟩ := hl
              exact ⟨g, h1, h3⟩
          refine (ll_inv_ok k bo n cap (mp x.t.toNat) x (f (x.a : Int)) ((s.lk x.t.toNat x.a).getD 0) W' (by omega) (by omega) hk (by omega) hRef (fun h2 => hlk (by omega)) (fun W2 hW2 => ?_)).mono fun en w' ⟨hen, hb⟩ => ?_
          · by_cases k0 : x.k = 0
            · exact ll_ref0 k bo n cap x W2 k0 hk (by omega)
            · obtain ⟨g, hg, _⟩ := hlk k0
              exact ll_ref8 k bo n cap _ x 0 _ false W2 (by omega) (by omega) hk (by omega) (fun h => by omega) (hRef.below hW2) (.inr ⟨g, hg, rfl⟩) k0 rfl
          · rw [hin]
            refine ⟨ButS.of_below hb, _, 0, fun _ => False, FO, hen, hOW w' hb, ?_, fun b h => h.elim, hFO w' hb⟩
            show opOf (llOpv (mp x.t.toNat) x.k.toNat x.a x.b ((s.lk x.t.toNat x.a).getD 0)) 0 = _
            unfold opOf; rw [if_pos rfl]
end
section
open Go.RowKit
set_option linter.unusedVariables false
set_option linter.unusedSimpArgs false
theorem ll_stepC (n k bo cap : Nat) (mp : Nat → Nat) (hk : k ≤ 64) (cs : List CallV) (st : St (llM k)) (i : Nat) (q : LlQ) (hI : LlF n k cs st) (hO : LlOp n k cs st.s i (.inl q)) (hcn : st.cn.r + st.cn.w + st.cn.s + st.cn.a < st.ticks ∧ st.cn.f = 0) (ht : st.ticks ≤ 70000) (W : World) (opv : Value) (bm bw : Nat) (F FO : Nat → Prop)
    (hop : opv = llOpv (mp q.th) q.kd q.pl q.v q.lk) (hOb : LlObj n k bo mp W st.s FO) (hM : MemIs 106 W bm bw st.ws st.cn) (hs : Sep bm bw F FO W) : StepC (llK n k bo cap mp) (stepQ (M := llM k) st.s (.inl q) st.ws st.cn st.ticks) st.ticks opv bm bw F FO W := by
  obtain ⟨x, hx, h1, h2, h3, h4, hth, hpl, hkd, hst, hlkb⟩ := hO
  have hlen := hI.len
  have hcnt := hI.cnt
  have hOW : ∀ W' : World, Below W.heap.size W W' → LlObj n k bo mp W' st.s FO := fun W' hW' => hOb.keep (fun b hb => hW'.block b (hs.2 b hb).1) (fun _ h => h)
  have hMW : ∀ W' : World, Below W.heap.size W W' → MemIs 106 W' bm bw st.ws st.cn := fun W' hW' => hM.of_blocks (hW'.block _ hM.lt1) (hW'.block _ hM.lt2)
  have hB := hI.wB
  subst hop
  -- what a step's ButS says of the object's blocks
  have hblk : ∀ {W' w' : World}, Below W.heap.size W W' → ButS (fun b => b = bm ∨ b = bw ∨ b = mp q.th) W' w' → ∀ b, FO b → b ≠ mp q.th → w'.heap[b]? = W'.heap[b]? := fun {W' w'} hW' hb b hb2 hne => hb.block b (Nat.lt_of_lt_of_le (hs.2 b hb2).1 hW'.size) (fun h => h.elim (hs.2 b hb2).2.1 (fun h => h.elim (hs.2 b hb2).2.2 hne))
  have hbut : ∀ {W' w' : World}, ButS (fun b => b = bm ∨ b = bw ∨ b = mp q.th) W' w' → ButS (fun b => b = bm ∨ b = bw ∨ F b ∨ FO b) W' w' := fun hb => hb.mono (fun b _ h => h.elim .inl (fun h => h.elim (fun h => .inr (.inl h)) (fun h => .inr (.inr (.inr (h ▸ hOb.fm _ hth))))))
  by_cases k0 : q.kd = 0
  · have e : llOpv (mp q.th) q.kd q.pl q.v q.lk = .iface 157 (.agg #[.int .i64 (q.pl : Int), .int .i64 (q.pl : Int), .map (some (mp q.th))]) := by unfold llOpv; rw [if_pos k0]
    have hQ : stepQ (M := llM k) st.s (.inl q) st.ws st.cn st.ticks = ⟨⟨llPut st.s.lk q.th q.pl (some (st.ws.getD q.pl 0)), st.s.n + 1⟩, .inl q, st.ws, { st.cn with r := st.cn.r + 1 }, some ⟨0, st.ws.getD q.pl 0 % 4294967296, []⟩⟩ := by
      unfold stepQ llM
      simp only [llAcc, llNext, k0, if_pos, if_neg (show ¬ (0 : Nat) = 1 by decide), Acc.run]
    rw [hQ, e]
    refine ⟨_, _, _, rfl, llL_meth _, llL_enter, fun W' hW' => ?_⟩
    have hO' := hOW W' hW'
    obtain ⟨f, m1, m2⟩ := hO'.maps q.th hth
    refine (ll_load (mp q.th) bm bw q.pl st.s.n (st.ws.getD q.pl 0) f st.ticks st.ws st.cn W' (hMW W' hW') m1 (by unfold maxLen; omega) (by omega) (by omega) (by omega) (by omega) rfl).mono fun en w' ⟨hen, hm, hb, g, hg1, hg2, hg3, hg4⟩ => ?_
    refine ⟨hm, hbut hb, fun _ => False, fun b => FO b ∨ b = g, fun b h => h.elim, fun b h => ?_, ?_, e.symm, ?_⟩
    · rcases h with h | rfl
      · exact ⟨Nat.lt_of_lt_of_le (hs.2 b h).1 (Nat.le_trans hW'.size hb.size), .inl h, id⟩
      · exact ⟨hg2, .inr hg1, id⟩
    · refine hO'.turn hth (hblk hW' hb) hg4 (Nat.le_succ _) (fun i hi => ?_) (fun p i hp => llPut_other _ _ (fun h => hp h.1)) (fun b h => .inl h)
      show LkIs w' (fun b => FO b ∨ b = g) (llPut st.s.lk q.th q.pl (some (st.ws.getD q.pl 0)) q.th i) (updF f (q.pl : Int) (.pointer (some ⟨g, 0, none⟩)) (i : Int))
      by_cases hip : i = q.pl
      · subst hip
        rw [llPut_same, updF_same]
        exact ⟨g, rfl, .inr rfl, hg3⟩
      · rw [llPut_other _ _ (fun h => hip h.2), updF_other _ _ (by omega)]
        exact (m2 i hi).keep (m := mp q.th) (fun a ha => m1.no_cell a ha) (hblk hW' hb) (fun b h => .inl h)
    · exact ⟨_, hen, ListAt.nil _ _ _ _⟩
  · by_cases k1 : q.kd = 1
    · have e : llOpv (mp q.th) q.kd q.pl q.v q.lk = .iface 159 (.agg #[.int .i64 (q.pl : Int), .int .i64 (q.pl : Int), .map (some (mp q.th)), .int .u64 (q.v : Int)]) := by unfold llOpv; rw [if_neg k0, if_pos k1]
      obtain ⟨hv, lk, hlk⟩ := hst k1
      have hlk2 := (hI.lB _ _ _ hlk).2.2
      have hQ : stepQ (M := llM k) st.s (.inl q) st.ws st.cn st.ticks = ⟨⟨llPut st.s.lk q.th q.pl none, st.s.n⟩, .inl q, ((Acc.sw q.pl lk (llSucc lk q.v)).run st.ws st.cn).2.1, ((Acc.sw q.pl lk (llSucc lk q.v)).run st.ws st.cn).2.2, some ⟨0, yesN (decide (st.ws.getD q.pl 0 = lk)), []⟩⟩ := by
        unfold stepQ llM
        simp only [llAcc, llNext, k1, hlk, Option.getD_some, if_pos, if_neg (show ¬ (1 : Nat) = 0 by decide)]
        congr 3
        simp only [Acc.run, yesN]
        by_cases hw : st.ws.getD q.pl 0 = lk
        · rw [if_pos hw, if_pos (decide_eq_true hw)]
        · rw [if_neg hw, if_neg (by rw [decide_eq_false hw]; decide)]
      rw [hQ, e]
      refine ⟨_, _, _, rfl, llS_meth _, llS_enter, fun W' hW' => ?_⟩
      have hO' := hOW W' hW'
      obtain ⟨f, m1, m2⟩ := hO'.maps q.th hth
      have hl := m2 q.pl hpl
      rw [hlk] at hl
      obtain ⟨g, g1, g2, g3⟩ := hl
      refine (ll_store (mp q.th) bm bw q.pl st.s.n q.v lk g f st.ticks st.ws st.cn W' (hMW W' hW') m1 (by omega) (by omega) (by omega) (by omega) hlk2 g1 g3).mono fun en w' ⟨hen, hm, hb, hg4⟩ => ?_
      refine ⟨hm, hbut hb, fun _ => False, FO, fun b h => h.elim, fun b h => ⟨Nat.lt_of_lt_of_le (hs.2 b h).1 (Nat.le_trans hW'.size hb.size), .inl h, id⟩, ?_, e.symm, ?_⟩
      · refine hO'.turn hth (hblk hW' hb) hg4 (Nat.le_refl _) (fun i hi => ?_) (fun p i hp => llPut_other _ _ (fun h => hp h.1)) (fun b h => h)
        show LkIs w' FO (llPut st.s.lk q.th q.pl none q.th i) (updF f (q.pl : Int) (.pointer none) (i : Int))
        by_cases hip : i = q.pl
        · subst hip
          rw [llPut_same, updF_same]
          rfl
        · rw [llPut_other _ _ (fun h => hip h.2), updF_other _ _ (by omega)]
          exact (m2 i hi).keep (m := mp q.th) (fun a ha => m1.no_cell a ha) (hblk hW' hb) (fun b h => h)
      · exact ⟨_, hen, ListAt.nil _ _ _ _⟩
    · have e : llOpv (mp q.th) q.kd q.pl q.v q.lk = .iface 162 (.agg #[.int .i64 (q.pl : Int), .int .u64 (q.lk : Int)]) := by unfold llOpv; rw [if_neg k0, if_neg k1]
      have hQ : stepQ (M := llM k) st.s (.inl q) st.ws st.cn st.ticks = ⟨st.s, .inl q, st.ws, { st.cn with r := st.cn.r + 1 }, some ⟨0, yesN (decide (st.ws.getD q.pl 0 = q.lk)), []⟩⟩ := by
        unfold stepQ llM
        simp only [llAcc, llNext, if_neg k1, if_neg k0, Acc.run]
        congr 3
        simp only [yesN]
        by_cases hw : st.ws.getD q.pl 0 = q.lk
        · rw [if_pos hw, if_pos (decide_eq_true hw)]
        · rw [if_neg hw, if_neg (by rw [decide_eq_false hw]; decide)]
      rw [hQ, e]
      refine ⟨_, _, _, rfl, llC_meth _, llC_enter, fun W' hW' => ?_⟩
      have hO' := hOW W' hW'
      refine (ll_check bm bw q.pl q.lk st.ticks st.ws st.cn W' (hMW W' hW') (by omega) (by omega) (by omega)).mono fun en w' ⟨hen, hm, hb⟩ => ?_
      refine ⟨hm, ButS.of_but hb (.inl rfl) (.inr (.inl rfl)), fun _ => False, FO, fun b h => h.elim, fun b h => ⟨Nat.lt_of_lt_of_le (hs.2 b h).1 (Nat.le_trans hW'.size hb.size), .inl h, id⟩, ?_, e.symm, ?_⟩
      · exact hO'.keep (fun b hb2 => hb.block b (Nat.lt_of_lt_of_le (hs.2 b hb2).1 hW'.size) (hs.2 b hb2).2.1 (hs.2 b hb2).2.2) (fun _ h => h)
      · exact ⟨_, hen, ListAt.nil _ _ _ _⟩
theorem ll_ok (n k bo cap : Nat) (mp : Nat → Nat) (hk : k ≤ 64) (cs : List CallV) (hth : ∀ x ∈ cs, 0 ≤ x.t ∧ x.t < n) : MachOk (llK n k bo cap mp) cs (LlF n k cs) where
  olen := rfl
  inv := fun st i x _ hx h0 h1 W FO hO hlt => by
    have hx0 : x.o = 0 := by have : ((llM k).m : Int) = 1 := rfl; omega
    have e : objOf (llK n k bo cap mp).objs x.o = llObjV n k bo cap := by rw [hx0]; rfl
    rw [e]
    exact ll_invC n k bo cap mp hk st.s x (hth x (List.mem_of_getElem? hx)) W FO hO hlt
  step := fun st p e v q hI hw hc hv hq hcn ht W opv bm bw F FO hop hOb hM hs => by
    have hr0 : v.resp = 0 := by
      obtain ⟨v', hv', hr, _⟩ := hw.cur p e hc
      rw [hv] at hv'; cases hv'; exact hr
    have hO := hI.ev e v hv hr0
    rw [hq] at hO
    exact ll_stepC n k bo cap mp hk cs st v.i q hI hO hcn ht W opv bm bw F FO hop hOb hM hs
  key := fun W s q opv F FO hop _ => by
    have hop' : opv = llOpv (mp q.th) q.kd q.pl q.v q.lk := hop
    subst hop'
    unfold llOpv
    split
    · exact .inl ⟨noKey_llL _, rfl⟩
    · split
      · exact .inl ⟨noKey_llS _, rfl⟩
      · exact .inl ⟨noKey_llC _, rfl⟩
  turn := fun st p i x hI _ hno hx => llF_turn hth hI hno hx
  stepI := fun st p i e v hI hw ht _ hc hv => by
    obtain ⟨v', hv', hr, _⟩ := hw.cur p e hc
    rw [hv] at hv'; cases hv'
    exact llF_step hI ht hc hv hr
  idle := fun st hI => llF_idle hI
/-- why linked words are not made -/
def llErr (kv : Int) : Nat := if 1 ≤ kv ∧ kv ≤ 64 then 0 else 10
def llSz (kv : Int) : Nat := if 1 ≤ kv ∧ kv ≤ 64 then kv.toNat else 0
theorem llSizeC (n kv : Int) : SizeC 60 (.agg #[.int .i64 kv]) n (llSz kv) (llErr kv) := ⟨57, fun w' => by kernel_rfl, fun args w' => by kernel_rfl, fun W => by
  unfold llSz llErr
  by_cases h : 1 ≤ kv ∧ kv ≤ 64
  · rw [if_pos h, if_pos h]
    have := llSize_ok n kv.toNat (by omega) W
    rw [show ((kv.toNat : Nat) : Int) = kv by omega] at this
    rw [show ((kv.toNat : Nat) : Int) = kv by omega]
    exact this
  · rw [if_neg h, if_neg h]
    exact llSize_bad n kv (by omega) W⟩
theorem llPlaceC (n k : Nat) (hn : 1 ≤ n ∧ n ≤ 16) (hk : 1 ≤ k ∧ k ≤ 64) (cs : List CallV) (hth : ∀ x ∈ cs, 0 ≤ x.t ∧ x.t < n) : PlaceC (M := llM k) cs (LlF n k cs) ll0 60 (.agg #[.int .i64 (k : Int)]) (n : Int) := ⟨56, fun w' => by kernel_rfl, fun args w' => by kernel_rfl, fun W => (llPlace n k hn W).mono fun e w' ⟨bo, cap, ms, he, hb, g1, g2, g3, g4, g5, g6⟩ => by
  have hms : ∀ p, p < n → ms[p]? = some (ms.getD p 0) := fun p hp => by rw [List.getD_eq_getElem?_getD, List.getElem?_eq_getElem (by omega)]; rfl
  refine ⟨llObjV n k bo cap, he, ⟨llK n k bo cap (fun p => ms.getD p 0), fun b => W.heap.size ≤ b ∧ b < w'.heap.size, ⟨_, _, rfl⟩, rfl, ll_ok n k bo cap _ hk.2 cs hth, ?_, fun b h => h⟩, hb⟩
  refine ⟨⟨g1, g2⟩, fun p hp => g3 p _ (hms p hp), fun p hp => ⟨(g5 p _ (hms p hp)).1, (g5 p _ (hms p hp)).2.lt⟩, fun p q hp hq e => g6 p q _ (hms p hp) (by rw [hms q hq, e]), fun p hp => ⟨_, (g5 p _ (hms p hp)).2, fun i hi => rfl⟩⟩⟩
theorem llNotFilled (kv : Int) : NotFilled 60 (.agg #[.int .i64 kv]) := fun w => run_typeAssert_lacksB Try.underlying98 (by kernel_rfl) (by kernel_rfl) (.agg #[.int .i64 kv]) 49 w
theorem llCheck_threads {n : Int} {cs : List CallV} {np : Nat} (h : checkL n (thr cs) np = 0) : (1 ≤ n.toNat ∧ n.toNat ≤ 16) ∧ n = (n.toNat : Int) ∧ ∀ x ∈ cs, 0 ≤ x.t ∧ x.t < (n.toNat : Int) := by
  have h2 := check_zero h
  have h3 := wrongL_threads h2.1
  refine ⟨by omega, by omega, fun x hx => ?_⟩
  have := h3.2 x.t (List.mem_map.2 ⟨x, hx, rfl⟩)
  omega
theorem ll_play (n kv : Int) (ao : Option Addr) (b o cap : Nat) (cs : List CallV) (ao3 : Option Addr) (b3 o3 cap3 : Nat) (picks : List Int) (w : World) (ha : 0 < cs.length → ao = some ⟨b, o, none⟩) (hb : 0 < cs.length → b < w.heap.size) (hc : CallsAt w b o cs) (hcap : ao = none → cap = 0)
    (ha3 : 0 < picks.length → ao3 = some ⟨b3, o3, none⟩) (hb3 : 0 < picks.length → b3 < w.heap.size) (hc3 : ICells w b3 o3 picks) (hnp : picks.length ≤ 9223372036854775807) :
    Calls Try.prog 6 #[.int .i64 n, .int .i64 kv, .slice ao cs.length cap, .slice ao3 picks.length cap3] w (PlayG (llM kv.toNat) n (llErr kv) cs (List.replicate (llSz kv) 0) ll0 picks w) :=
  llPlay_any n kv (LlF n.toNat kv.toNat cs) (llSz kv) (llErr kv) ao b o cap cs ao3 b3 o3 cap3 picks w ha hb hc hcap ha3 hb3 hc3 hnp (fun _ => llSizeC n kv) (fun h her => by
    obtain ⟨h1, h2, h3⟩ := llCheck_threads h
    have hk : 1 ≤ kv ∧ kv ≤ 64 := by
      unfold llErr at her
      split at her
      · next h => exact h
      · cases her
    have hsz : llSz kv = kv.toNat := by unfold llSz; rw [if_pos hk]
    have hp := llPlaceC n.toNat kv.toNat h1 (by omega) cs h3
    rw [← h2, show ((kv.toNat : Nat) : Int) = kv by omega] at hp
    rw [hsz]
    exact ⟨llNotFilled kv, hp, by omega, by omega, llF_first⟩)
end
end Go.Proofs.Ytjbbcflifoakhaa
