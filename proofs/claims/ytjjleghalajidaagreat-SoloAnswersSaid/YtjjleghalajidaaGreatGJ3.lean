/- More kinds: raise, share, shareAny. | The last kinds: publish, perform. | A universal object: perform. | model.Apply, for any object that may be, by one plain function. -/
import Derived.Test.YtjjleghalajidaaGreatGJ2
import Derived.Test.YtjjleghalajidaaGreatGS3
import Derived.Deep.CutRange
import Derived.Deep.RegionHeld3
namespace Go.Proofs.YtjjleghalajidaaGreat
section
open Go.ChangeShapes Go.WideShapes Go.ChangeAt Go.RowKit
set_option linter.unusedVariables false
set_option linter.unusedSimpArgs false
set_option maxRecDepth 100000

theorem OpP.drewN {m : List Nat} {r : MdR} {w w' : World} {e : Ending} (h : OpP m r w e w') (n : Nat) : OpP m r w e (w'.drewN n) := by
  obtain ⟨fid, ex, rfl, hk, hb⟩ := h
  exact ⟨fid, ex, rfl, ⟨hk.1, fun W B v h1 h2 h3 h4 => hk.2 W B v ⟨h1.os, h1.tape, h1.output, h1.size, h1.block⟩ h2 h3 h4⟩, below_drewN hb n⟩
/-- a max register -/
def mdMax (p : Int) (m : List Nat) (kd : Int) (a : Nat) : MdR := if kd = 1 then mdShow m 0 else if 2 ^ p.toNat ≤ a then ⟨m, 10, 0, []⟩ else ⟨[max (m.getD 0 0) a], 0, 0, []⟩
set_option maxHeartbeats 4000000 in
theorem raise1_any (g x a : Nat) (t ob kd b c : Int) (v : Value) (B : Nat) (w : World) (h : OwnW w B v [x]) (hB : B ≤ w.heap.size) (hg : w.heap[g]? = some (callO t ob kd (a : Int) b c)) (hne : v.ownBlock ≠ some g) :
    Calls Tryz.prog 153 #[v, .pointer (some ⟨g, 0, none⟩)] w (ChP B w ⟨[max x a], 0, 0, []⟩) := by
  obtain ⟨g1, cap, rfl, hg1, hlt1, hc, hf⟩ := h.opened (by simp)
  have d1 := hc 0 x rfl
  have f1 := hf 0
  obtain ⟨z, hz⟩ : ∃ z : Nat, max x a = z := ⟨_, rfl⟩
  have hmax : max (x : Int) (a : Int) = (z : Int) := by rw [← hz]; omega
  rw [hz]
  have HO := Lib.hid (h.stored 0 z)
  have HR := Lib.hid h.room
  have HB2 : Hid (∀ u, Below B w (w.setCell ⟨g1, 0, none⟩ u)) := Lib.hid (fun u => (Below.refl B w).setCell (p := ⟨g1, 0, none⟩) hg1 u)
  have hlt := blk_lt hg
  have c3 : w.cell? ⟨g, 3, none⟩ = some (.int .u64 (a : Int)) := Tb.cell_of_blkT hg rfl
  have hn1 : g1 ≠ g := fun e => hne (by rw [← e]; rfl)
  have hn3 : g1 ≠ w.heap.size := by omega
  have hn4 : w.heap.size ≠ g1 := by omega
  simp only [List.length_singleton, List.set_cons_zero] at *
  clear h hg hc hf hne hz
  go_enter Tryz.func153, Tryz.ntmps153
  go_wp2_with fail
  go_region
  go_wp2
  refine bodyPost_ret (v := .tuple #[.slice (some ⟨g1, 0, none⟩) 1 cap, .agg #[.int .i64 0, .int .u64 0, .slice none 0 0]]) (by simp [results, Tryz.results153, go_sem]) rfl ⟨_, _, rfl, ⟨(HO.out.alloc _).argB, HR.out⟩, ⟨ArgB.nil _ _, room_nil⟩, ((HB2.out _).alloc (by simp; omega) _).drew⟩

set_option maxHeartbeats 1000000 in
theorem raise_any (pn : Nat) (m : List Nat) (t ob kd b c : Int) (a : Nat) (hp : 1 ≤ pn ∧ pn ≤ 12) (hk : kd = 0 ∨ kd = 1) (h1 : m.length = 1) (w : World) :
    Calls Tryz.prog 118 #[.int .i64 (pn : Int), callV t ob kd (a : Int) b c] w (OpP m (mdMax (pn : Int) m kd a) w) := by
  have hmf : ∀ (fn : Fn) (first cap : Array Value) (w : World), (Instr.makeFunc fn first cap).run Tryz.prog w = .ok (.func fn first cap) w := fun _ _ _ _ => rfl
  obtain ⟨x, rfl⟩ := one_len h1
  rcases hk with rfl | rfl
  · obtain ⟨z, hz⟩ : ∃ z : Nat, 2 ^ pn = z := ⟨_, rfl⟩
    have hz2 : z ≤ 4096 := by rw [← hz]; exact Nat.pow_le_pow_right (by omega) hp.2 (n := 2)
    have hwz : IntKind.u64.wrap (2 ^ pn) = (z : Int) := by
      have e : (2 : Int) ^ pn = ((2 ^ pn : Nat) : Int) := by rw [Int.natCast_pow]; rfl
      rw [e, hz]
      exact IntWalk.u64_in _ (by omega)
    have hp1 := hp.1
    have hp2 := hp.2
    by_cases ha : z ≤ a
    · have hm : mdMax (pn : Int) [x] 0 a = ⟨[x], 10, 0, []⟩ := by unfold mdMax; rw [if_neg (by decide), Int.toNat_natCast, hz, if_pos ha]
      rw [hm]
      have HF : Hid (∀ w, Calls Tryz.prog 113 #[.int .i64 10] w (OpP [x] ⟨[x], 10, 0, []⟩ w)) := Lib.hid (fun w => fail_any 10 w [x])
      have hd : decide ((z : Int) ≤ (a : Int)) = true := decide_eq_true (by omega)
      have hd2 : decide ((a : Int) < (z : Int)) = false := decide_eq_false (by omega)
      clear hm hz hp
      go_enter Tryz.func118, Tryz.ntmps118
      go_wp2_with fail
      go_quiet (fail)
      go_wp2_with (go_at_call 113; refine (HF.out _).mono ?_; intro e w3 h3; obtain ⟨fid, ex, rfl, hk3, hb3⟩ := (OpP.lift h3 (below_drewN ((Below.refl _ _).alloc (Nat.le_refl _) _) _)))
      go_ret
      exact ⟨fid, ex, rfl, hk3, hb3⟩
    · have hm : mdMax (pn : Int) [x] 0 a = ⟨[max x a], 0, 0, []⟩ := by unfold mdMax; rw [if_neg (by decide), Int.toNat_natCast, hz, if_neg ha]; rfl
      rw [hm]
      have HX : Hid (OpP [x] ⟨[max x a], 0, 0, []⟩ w (.returned (.func (.func 153) #[] #[.pointer (some ⟨w.heap.size, 0, none⟩)])) (w.alloc (callO t ob 0 (a : Int) b c))) := Lib.hid (OpP_box (fun args w => by kernel_rfl) (fun W B v ho hB hg hne => raise1_any _ x a _ _ _ _ _ v B W ho hB hg hne))
      generalize (⟨[max x a], 0, 0, []⟩ : MdR) = r at *
      have hd : decide ((z : Int) ≤ (a : Int)) = false := decide_eq_false (by omega)
      have hd2 : decide ((a : Int) < (z : Int)) = true := decide_eq_true (by omega)
      clear hm hz hp
      go_enter Tryz.func118, Tryz.ntmps118
      go_wp2_with fail
      go_quiet (fail)
      go_wp2
      go_ret
      exact HX.out.drewN _
  · have HS : Hid (∀ W, Calls Tryz.prog 147 #[.int .u64 0] W (OpP [x] (mdMax (pn : Int) [x] 1 a) W)) := Lib.hid (fun W => show_any 0 W [x] (by simp))
    generalize mdMax (pn : Int) [x] 1 a = r at *
    go_enter Tryz.func118, Tryz.ntmps118
    go_wp2_with (go_at_call 147; refine (HS.out _).mono ?_; intro e w3 h3; obtain ⟨fid, ex, rfl, hk3, hb3⟩ := (OpP.lift h3 ((Below.refl _ _).alloc (Nat.le_refl _) _)))
    go_ret
    exact ⟨fid, ex, rfl, hk3, hb3⟩

/-- snapshots -/
def mdSnap (values most : Nat) (m : List Nat) (th : Nat) (kd : Int) (a : Nat) : MdR := if kd = 1 then mdList m values else mdUpd m values most th th a
def mdMulti (values most : Nat) (m : List Nat) (th : Nat) (kd : Int) (a b : Nat) : MdR := if kd = 1 then mdList m values else if values ≤ a then ⟨m, 10, 0, []⟩ else mdUpd m values most th a b
set_option maxHeartbeats 1000000 in
theorem share_any (values most th : Nat) (m : List Nat) (ob kd b c : Int) (a : Nat) (hv : 1 ≤ values ∧ values ≤ 16) (hth : th < values) (hm : most ≤ 64) (hk : kd = 0 ∨ kd = 1) (h1 : m.length = 2 * values) (hx64 : ∀ x ∈ m, x < 18446744073709551616) (w : World) :
    Calls Tryz.prog 119 #[.int .i64 (values : Int), .int .i64 (most : Int), callV (th : Int) ob kd (a : Int) b c] w (OpP m (mdSnap values most m th kd a) w) := by
  rcases hk with rfl | rfl
  · have HS : Hid (∀ W, Calls Tryz.prog 155 #[.int .i64 (values : Int), .int .i64 (most : Int), .int .i64 (th : Int), .int .i64 (th : Int), .int .u64 (a : Int)] W (OpP m (mdSnap values most m th 0 a) W)) := Lib.hid (fun W => upd_any values most th th a W m (by omega) hth (by omega) (by omega) hx64)
    generalize mdSnap values most m th 0 a = r at *
    go_enter Tryz.func119, Tryz.ntmps119
    go_wp2_with (go_at_call 155; refine (HS.out _).mono ?_; intro e w3 h3; obtain ⟨fid, ex, rfl, hk3, hb3⟩ := (OpP.lift h3 ((Below.refl _ _).alloc (Nat.le_refl _) _)))
    go_ret
    exact ⟨fid, ex, rfl, hk3, hb3⟩
  · have HS : Hid (∀ W, Calls Tryz.prog 154 #[.int .i64 (values : Int)] W (OpP m (mdSnap values most m th 1 a) W)) := Lib.hid (fun W => list_any values W m hv.1 (by omega) (by omega))
    generalize mdSnap values most m th 1 a = r at *
    go_enter Tryz.func119, Tryz.ntmps119
    go_wp2_with (go_at_call 154; refine (HS.out _).mono ?_; intro e w3 h3; obtain ⟨fid, ex, rfl, hk3, hb3⟩ := (OpP.lift h3 ((Below.refl _ _).alloc (Nat.le_refl _) _)))
    go_ret
    exact ⟨fid, ex, rfl, hk3, hb3⟩
set_option maxHeartbeats 1000000 in
theorem shareAny_any (values most n th : Nat) (m : List Nat) (ob kd c : Int) (a b : Nat) (hv : 1 ≤ values ∧ values ≤ 16) (hth : th < n) (hn : n ≤ 16) (hm : most ≤ 64) (hk : kd = 0 ∨ kd = 1) (h1 : m.length = values + n) (hx64 : ∀ x ∈ m, x < 18446744073709551616) (w : World) :
    Calls Tryz.prog 120 #[.int .i64 (values : Int), .int .i64 (most : Int), callV (th : Int) ob kd (a : Int) (b : Int) c] w (OpP m (mdMulti values most m th kd a b) w) := by
  have hv1 := hv.1
  have hv2 := hv.2
  rcases hk with rfl | rfl
  · by_cases ha : values ≤ a
    · have hq : mdMulti values most m th 0 a b = ⟨m, 10, 0, []⟩ := by unfold mdMulti; rw [if_neg (by decide), if_pos ha]
      rw [hq]
      have HF : Hid (∀ w, Calls Tryz.prog 113 #[.int .i64 10] w (OpP m ⟨m, 10, 0, []⟩ w)) := Lib.hid (fun w => fail_any 10 w m)
      have hd : decide ((values : Int) ≤ (a : Int)) = true := decide_eq_true (by omega)
      clear hq
      go_enter Tryz.func120, Tryz.ntmps120
      go_wp2_with (go_at_call 113; refine (HF.out _).mono ?_; intro e w3 h3; obtain ⟨fid, ex, rfl, hk3, hb3⟩ := (OpP.lift h3 ((Below.refl _ _).alloc (Nat.le_refl _) _)))
      go_ret
      exact ⟨fid, ex, rfl, hk3, hb3⟩
    · have hq : mdMulti values most m th 0 a b = mdUpd m values most th a b := by unfold mdMulti; rw [if_neg (by decide), if_neg ha]
      rw [hq]
      have hd : decide ((values : Int) ≤ (a : Int)) = false := decide_eq_false (by omega)
      have hd3 : ¬ values ≤ a := ha
      have ha2 : a < 16 := by omega
      have HS : Hid (∀ W, Calls Tryz.prog 155 #[.int .i64 (values : Int), .int .i64 (most : Int), .int .i64 (th : Int), .int .i64 (a : Int), .int .u64 (b : Int)] W (OpP m (mdUpd m values most th a b) W)) := Lib.hid (fun W => upd_any values most th a b W m (by omega) (by omega) (by omega) (by omega) hx64)
      generalize mdUpd m values most th a b = r at *
      clear hq
      go_enter Tryz.func120, Tryz.ntmps120
      go_wp2_with (go_at_call 155; refine (HS.out _).mono ?_; intro e w3 h3; obtain ⟨fid, ex, rfl, hk3, hb3⟩ := (OpP.lift h3 ((Below.refl _ _).alloc (Nat.le_refl _) _)))
      go_ret
      exact ⟨fid, ex, rfl, hk3, hb3⟩
  · have HS : Hid (∀ W, Calls Tryz.prog 154 #[.int .i64 (values : Int)] W (OpP m (mdMulti values most m th 1 a b) W)) := Lib.hid (fun W => list_any values W m hv.1 (by omega) (by omega))
    generalize mdMulti values most m th 1 a b = r at *
    go_enter Tryz.func120, Tryz.ntmps120
    go_wp2_with (go_at_call 154; refine (HS.out _).mono ?_; intro e w3 h3; obtain ⟨fid, ex, rfl, hk3, hb3⟩ := (OpP.lift h3 ((Below.refl _ _).alloc (Nat.le_refl _) _)))
    go_ret
    exact ⟨fid, ex, rfl, hk3, hb3⟩
end
section
open Go.ChangeShapes Go.WideShapes Go.ChangeAt Go.RowKit
set_option linter.unusedVariables false
set_option linter.unusedSimpArgs false
set_option maxRecDepth 100000

/-- a pin register: n words from a on -/
def pubL (a n : Nat) : List Nat := (List.range n).map (fun i => (a + i) % 18446744073709551616)
def mdPin (p : Nat) (m : List Nat) (th kd : Int) (a : Nat) : MdR := if kd = 1 then mdList m p else if th ≠ 0 then ⟨m, 11, 0, []⟩ else ⟨pubL a m.length, 0, 0, []⟩
theorem pubL_step (a j : Nat) (m : List Nat) (h : j < m.length) : (pubL a j ++ m.drop j).set j ((a + j) % 18446744073709551616) = pubL a (j + 1) ++ m.drop (j + 1) := by
  have e : (pubL a j).length = j := by unfold pubL; simp
  have e1 : pubL a (j + 1) = pubL a j ++ [(a + j) % 18446744073709551616] := by unfold pubL; rw [List.range_succ, List.map_append]; rfl
  have e2 : m.drop j = m[j] :: m.drop (j + 1) := List.drop_eq_getElem_cons h
  rw [e1, e2, List.set_append_right _ _ (by omega), e, Nat.sub_self, List.set_cons_zero, List.append_assoc]
  rfl
theorem pubL_len (a j : Nat) (m : List Nat) (h : j ≤ m.length) : (pubL a j ++ m.drop j).length = m.length := by
  unfold pubL; simp; omega
theorem pubL_all (a : Nat) (m : List Nat) : pubL a m.length ++ m.drop m.length = pubL a m.length := by
  rw [List.drop_length, List.append_nil]
set_option maxHeartbeats 4000000 in
theorem publish1_any (g a : Nat) (t ob kd b c : Int) (m : List Nat) (v : Value) (B : Nat) (w : World) (h : OwnW w B v m) (hB : B ≤ w.heap.size) (hg : w.heap[g]? = some (callO t ob kd (a : Int) b c)) (hne : v.ownBlock ≠ some g) (hm1 : 1 ≤ m.length) (hm8 : m.length ≤ 8) (ha : a < 18446744073709551616) :
    Calls Tryz.prog 159 #[v, .pointer (some ⟨g, 0, none⟩)] w (ChP B w ⟨pubL a m.length, 0, 0, []⟩) := by
  obtain ⟨g1, cap, rfl, hg1, hlt1, hc, hf⟩ := h.opened (by omega)
  have HO := Lib.hid (h.alloc ansO)
  have hlt := blk_lt hg
  have HG : Hid ((w.alloc ansO).heap[g]? = some (callO t ob kd (a : Int) b c)) := Lib.hid ((Below.heap_alloc _ _ _ hlt).trans hg)
  have HBK : Hid ((w.alloc ansO).heap[w.heap.size]? = some ansO) := Lib.hid (heap_alloc_new _ _)
  have HBB : Hid (Below B w (w.alloc ansO)) := Lib.hid ((Below.refl B w).alloc hB _)
  have hn1 : g1 ≠ g := fun e => hne (by rw [← e]; rfl)
  have hn2 : g ≠ g1 := fun e => hn1 e.symm
  have hn3 : g1 ≠ w.heap.size := by omega
  have hn4 : w.heap.size ≠ g1 := by omega
  have HP0 : Hid (pubL a 0 ++ m.drop 0 = m) := Lib.hid (by simp [pubL])
  have HPA := Lib.hid (pubL_all a m)
  have HST := Lib.hid (fun j h => pubL_step a j m h)
  have HLN := Lib.hid (fun j h => pubL_len a j m h)
  unfold ansO at *
  generalize hw0 : w.alloc (.cells #[.int .i64 0, .int .u64 0, .slice none 0 0] 57) = w0 at *
  have hsz : w.heap.size < w0.heap.size := by rw [← hw0]; simp
  clear h hg hc hf hne
  go_enter Tryz.func159, Tryz.ntmps159
  go_wp2_with fail
  go_loopw [8] (fun k wr => ∃ j : Nat, j ≤ m.length ∧ k = .int .i64 j ∧ OwnW wr B (.slice (some ⟨g1, 0, none⟩) m.length cap) (pubL a j ++ m.drop j) ∧ wr.heap[g]? = some (callO t ob kd (a : Int) b c) ∧ wr.heap[w.heap.size]? = some (.cells #[.int .i64 0, .int .u64 0, .slice none 0 0] 57) ∧ Below B w wr) (fun k _ => m.length - (intOf k).toNat)
  case atStart => exact ⟨0, Nat.zero_le _, rfl, by rw [HP0.out]; exact HO.out, HG.out, HBK.out, HBB.out⟩
  case round =>
    obtain ⟨j, hj, rfl, ho, hgb, hbk, hbl⟩ := hrel
    by_cases hlt2 : j < m.length
    · obtain ⟨g1', cap', e0, _, hlt3, hc, hf⟩ := ho.opened (by rw [HLN.out j hj]; omega)
      have e1 : g1' = g1 := by simp at e0; exact e0.1.symm
      subst e1
      obtain ⟨y, hy⟩ : ∃ y, (pubL a j ++ m.drop j)[j]? = some y := ⟨_, List.getElem?_eq_getElem (by rw [HLN.out j hj]; exact hlt2)⟩
      have d1 := hc j y hy
      have f1 := hf j
      have c3 : wr.cell? ⟨g, 3, none⟩ = some (.int .u64 (a : Int)) := Tb.cell_of_blkT hgb rfl
      obtain ⟨z, hz⟩ : ∃ z : Nat, (a + j) % 18446744073709551616 = z := ⟨_, rfl⟩
      have hwz : IntKind.u64.wrap ((a : Int) + (j : Int)) = (z : Int) := by
        rw [← hz]
        simp [IntKind.wrap, IntKind.signed, IntKind.bits]
      have HO1 : Hid (OwnW (wr.setCell ⟨g1', j, none⟩ (.int .u64 (z : Int))) B (.slice (some ⟨g1', 0, none⟩) m.length cap) (pubL a (j + 1) ++ m.drop (j + 1))) := Lib.hid (by rw [← HST.out j hlt2, hz]; exact ho.stored j z)
      have HG1 : Hid ((wr.setCell ⟨g1', j, none⟩ (.int .u64 (z : Int))).heap[g]? = some (callO t ob kd (a : Int) b c)) := Lib.hid ((Below.heap_setCell wr ⟨g1', j, none⟩ _ g (fun e => hn2 e)).trans hgb)
      have HK1 : Hid ((wr.setCell ⟨g1', j, none⟩ (.int .u64 (z : Int))).heap[w.heap.size]? = some (.cells #[.int .i64 0, .int .u64 0, .slice none 0 0] 57)) := Lib.hid ((Below.heap_setCell wr ⟨g1', j, none⟩ _ w.heap.size (fun e => hn4 e)).trans hbk)
      have HB1 := Lib.hid (hbl.setCell (p := ⟨g1', j, none⟩) hg1 (.int .u64 (z : Int)))
      clear hy hz hc hf ho hgb hbk hbl e0
      go_wp2_with fail
      go_roundw
      case rel => exact ⟨j + 1, by omega, by go_num, HO1.out, HG1.out, HK1.out, HB1.out⟩
      case measure => simp [intOf]; omega
    · have : j = m.length := by omega
      subst this
      have HO1 : Hid (OwnW wr B (.slice (some ⟨g1, 0, none⟩) m.length cap) (pubL a m.length)) := Lib.hid (by rw [← HPA.out]; exact ho)
      have HNE := Lib.hid (HO1.out.ne_ans hbk)
      have k0 := Tb.cell_of_blkT (k := 0) hbk rfl
      have k1 := Tb.cell_of_blkT (k := 1) hbk rfl
      have k2 := Tb.cell_of_blkT (k := 2) hbk rfl
      have z0 := Tb.free_of_blkT (k := 0) hbk
      have z1 := Tb.free_of_blkT (k := 1) hbk
      have z2 := Tb.free_of_blkT (k := 2) hbk
      clear ho hgb hbk
      go_wp2_with fail
      refine bodyPost_ret (v := .tuple #[.slice (some ⟨g1, 0, none⟩) m.length cap, .agg #[.int .i64 0, .int .u64 0, .slice none 0 0]]) (by simp [results, Tryz.results159, go_sem, k0, k1, k2]) rfl ⟨_, _, rfl, ⟨(HO1.out.put3 HNE.out _ _ _).argB, HO1.out.room⟩, ⟨ArgB.nil _ _, room_nil⟩, put3_below hbl hB _ _ _⟩

set_option maxHeartbeats 1000000 in
theorem publish_any (p : Nat) (m : List Nat) (t ob kd b c : Int) (a : Nat) (hp : 1 ≤ p ∧ p ≤ 8) (hk : kd = 0 ∨ kd = 1) (h1 : m.length = p) (ha : a < 18446744073709551616) (w : World) :
    Calls Tryz.prog 123 #[.int .i64 (p : Int), callV t ob kd (a : Int) b c] w (OpP m (mdPin p m t kd a) w) := by
  have hmf : ∀ (fn : Fn) (first cap : Array Value) (w : World), (Instr.makeFunc fn first cap).run Tryz.prog w = .ok (.func fn first cap) w := fun _ _ _ _ => rfl
  rcases hk with rfl | rfl
  · by_cases ht : t = 0
    · subst ht
      have hq : mdPin p m 0 0 a = ⟨pubL a m.length, 0, 0, []⟩ := by unfold mdPin; rw [if_neg (by decide), if_neg (by simp)]
      rw [hq]
      have HX : Hid (OpP m ⟨pubL a m.length, 0, 0, []⟩ w (.returned (.func (.func 159) #[] #[.pointer (some ⟨w.heap.size, 0, none⟩)])) (w.alloc (callO 0 ob 0 (a : Int) b c))) := Lib.hid (OpP_box (fun args w => by kernel_rfl) (fun W B v ho hB hg hne => publish1_any _ a _ _ _ _ _ m v B W ho hB hg hne (by omega) (by omega) ha))
      generalize (⟨pubL a m.length, 0, 0, []⟩ : MdR) = r at *
      clear hq
      go_enter Tryz.func123, Tryz.ntmps123
      go_wp2_with fail
      go_ret
      exact HX.out
    · have hq : mdPin p m t 0 a = ⟨m, 11, 0, []⟩ := by unfold mdPin; rw [if_neg (by decide), if_pos ht]
      rw [hq]
      have HF : Hid (∀ w, Calls Tryz.prog 113 #[.int .i64 11] w (OpP m ⟨m, 11, 0, []⟩ w)) := Lib.hid (fun w => fail_any 11 w m)
      clear hq
      go_enter Tryz.func123, Tryz.ntmps123
      go_wp2_with (go_at_call 113; refine (HF.out _).mono ?_; intro e w3 h3; obtain ⟨fid, ex, rfl, hk3, hb3⟩ := (OpP.lift h3 ((Below.refl _ _).alloc (Nat.le_refl _) _)))
      go_ret
      exact ⟨fid, ex, rfl, hk3, hb3⟩
  · have HS : Hid (∀ W, Calls Tryz.prog 154 #[.int .i64 (p : Int)] W (OpP m (mdPin p m t 1 a) W)) := Lib.hid (fun W => list_any p W m hp.1 (by omega) (by omega))
    generalize mdPin p m t 1 a = r at *
    go_enter Tryz.func123, Tryz.ntmps123
    go_wp2_with (go_at_call 154; refine (HS.out _).mono ?_; intro e w3 h3; obtain ⟨fid, ex, rfl, hk3, hb3⟩ := (OpP.lift h3 ((Below.refl _ _).alloc (Nat.le_refl _) _)))
    go_ret
    exact ⟨fid, ex, rfl, hk3, hb3⟩
end
section
open Go.ChangeShapes Go.WideShapes Go.ChangeAt Go.RowKit
set_option linter.unusedVariables false
set_option linter.unusedSimpArgs false
set_option maxRecDepth 100000

def mdUniv (p q : Int) (m : List Nat) (kd : Int) (a : Nat) : MdR :=
  if 4294967296 ≤ a then ⟨m, 10, 0, []⟩ else if q ≤ (m.getD 0 0 : Int) then ⟨m, 6, 0, []⟩ else ⟨(m.getD 0 0 + 1) :: (sqAp p kd m.tail a).1, (sqAp p kd m.tail a).2.2, (sqAp p kd m.tail a).2.1, []⟩

/-- in a region that draws: append of a slice, nil or not, onto a row of the call's own; what else there is stays -/
theorem step_onto_ownO {P : Program} {w : World} {ops : Array Oper} {o : Oper} {a : Act} {K : Act → World → Prop} {Q : Exit → Act → World → Prop} {E : Prop} (hgd : o.guard = none) (s x : Operand) (t : TypeId)
    (ho : o.op = .call { callee := .builtin .append, args := #[s, x], argTypes := #[t, t] })
    (base : Nat) (e : TypeId) (i : TypeInfo) (z : Value) (bytes : Nat) (ht : P.underlying t = some (.slice e)) (hi : P.info? e = some i) (hz : i.zero = some z)
    (hsize : i.size = 1) (hby : i.bytes = bytes) (hzs : z.cells.size = 1) (hbs : bytes ≤ 4096)
    (v : Value) (n : Nat) (xs : List Value) (hs : a.eval s = v) (hown : w.ownsRow base e 1 v n xs) (ad : Addr) (cap m : Nat) (us : List Value) (hx : a.eval x = .slice (some ad) m cap) (hn : us.length = m)
    (hc : ∀ (j : Nat) (u : Value), us[j]? = some u → w.cell? (ad.add j) = some u) (h1 : us.all (fun u => u.oneCell') = true) (hle : n + m ≤ 4294967296) (hbase : base ≤ w.heap.size)
    (h : ∀ v' w', w'.ownsRow base e 1 v' (n + m) (xs ++ us) → Below base w w' → (∀ k, k < w.heap.size → v.ownBlock ≠ some k → w'.heap[k]? = w.heap[k]?) → K (a.put o.dst v') w') :
    if Region.wanted o (yielded ops a.tmps) = true then Oper.wp P o a w K Q else E := by
  have hw : Region.wanted o (yielded ops a.tmps) = true := by simp [Region.wanted, hgd]
  rw [if_pos hw]
  refine wp_append_own _ s x t ho base e i z 1 bytes ht hi hz hsize hby hzs (by decide) v n xs hs hown ad m cap us hx (by rw [hn, Nat.mul_one]) hc (by simpa using h1) (by unfold maxLen; omega) ?_ hbase ?_
  · have : (n + m) * bytes ≤ 4294967296 * 4096 := Nat.mul_le_mul (by omega) hbs
    omega
  · intro v' w' ho2 hg hnn
    exact h v' w' ho2 ((Below.refl _ _).grown hg hbase (fun k hk => (hown.lt k hk).1)) (fun k hk hne => hg.block k hk (fun e => hne e.symm))

theorem step_onto_none {P : Program} {w : World} {ops : Array Oper} {o : Oper} {a : Act} {K : Act → World → Prop} {Q : Exit → Act → World → Prop} {E : Prop} (hgd : o.guard = none) (s x : Operand) (t : TypeId)
    (ho : o.op = .call { callee := .builtin .append, args := #[s, x], argTypes := #[t, t] })
    (base : Nat) (e : TypeId) (i : TypeInfo) (size : Nat) (ht : P.underlying t = some (.slice e)) (hi : P.info? e = some i)
    (v : Value) (n : Nat) (xs : List Value) (hs : a.eval s = v) (hown : w.ownsRow base e size v n xs) (hx : a.eval x = .slice none 0 0)
    (h : K (a.put o.dst v) w) : if Region.wanted o (yielded ops a.tmps) = true then Oper.wp P o a w K Q else E := by
  have hw : Region.wanted o (yielded ops a.tmps) = true := by simp [Region.wanted, hgd]
  rw [if_pos hw]
  have hrun := run_append_owned_none (P := P) (w := w) base t o.type e i size ht hi v n xs hown
  unfold Oper.wp
  simp [execOp, ho, resolve, invoke, builtin, hs, hx, hrun, Result.andThen]
  exact h

/-- all but the first of a slice that has room for more -/
theorem run_tail (g1 n cap : Nat) (h : ¬ cap = 1) (w : World) : (Instr.slice 37 (.slice (some ⟨g1, 0, none⟩) (n + 1) cap) (some (.int .i64 1)) none none).run Tryz.prog w = .ok (.slice (some ⟨g1, 1, none⟩) n (cap - 1)) w := by
  go_simp
  intro h2
  omega

set_option maxHeartbeats 4000000 in
theorem perform1_full (gE gP gC x qn : Nat) (p : Int) (t ob kd a b c : Int) (r : List Nat) (v : Value) (B : Nat) (w : World) (h : OwnW w B v (x :: r)) (hB : B ≤ w.heap.size) (hE : w.cell? ⟨gE, 0, none⟩ = some (.int .i64 (qn : Int))) (hq : qn ≤ 256) (hx : qn ≤ x) :
    Calls Tryz.prog 156 #[v, .pointer (some ⟨gE, 0, none⟩), .pointer (some ⟨gP, 0, none⟩), .pointer (some ⟨gC, 0, none⟩)] w (ChP B w ⟨x :: r, 6, 0, []⟩) := by
  obtain ⟨g1, cap, rfl, hg1, hlt1, hc, hf⟩ := h.opened (by simp)
  have d1 := hc 0 x rfl
  have HO := Lib.hid h
  have HR := Lib.hid h.room
  have hlt := World.block_lt_of_cell? w _ hE
  simp only at hlt
  have dd : decide ((qn : Int) ≤ (x : Int)) = true := decide_eq_true (by omega)
  have dd2 : decide ((x : Int) < (qn : Int)) = false := decide_eq_false (by omega)
  have dd3 : (qn : Int) ≤ (x : Int) := by omega
  have hlen : (x :: r).length = r.length + 1 := rfl
  rw [hlen] at *
  clear h hc hf hlen
  go_enter Tryz.func156, Tryz.ntmps156
  go_wp2_with fail
  go_region
  go_wp2
  refine bodyPost_ret (v := .tuple #[.slice (some ⟨g1, 0, none⟩) (r.length + 1) cap, .agg #[.int .i64 6, .int .u64 0, .slice none 0 0]]) (by simp [results, Tryz.results156, go_sem]) rfl ⟨_, _, rfl, ⟨(HO.out.alloc _).argB, HR.out⟩, ⟨ArgB.nil _ _, room_nil⟩, ((Below.refl B w).alloc hB _).drew⟩

theorem put3_cells {w : World} {b : Nat} {u0 u1 u2 : Value} (k0 : w.cell? ⟨b, 0, none⟩ = some u0) (k1 : w.cell? ⟨b, 1, none⟩ = some u1) (k2 : w.cell? ⟨b, 2, none⟩ = some u2) (x y z : Value) :
    (((w.setCell ⟨b, 0, none⟩ x).setCell ⟨b, 1, none⟩ y).setCell ⟨b, 2, none⟩ z).cell? ⟨b, 0, none⟩ = some x ∧ (((w.setCell ⟨b, 0, none⟩ x).setCell ⟨b, 1, none⟩ y).setCell ⟨b, 2, none⟩ z).cell? ⟨b, 1, none⟩ = some y ∧ (((w.setCell ⟨b, 0, none⟩ x).setCell ⟨b, 1, none⟩ y).setCell ⟨b, 2, none⟩ z).cell? ⟨b, 2, none⟩ = some z := by
  have e (i j : Nat) (h : i ≠ j) : (⟨b, i, none⟩ : Addr) ≠ ⟨b, j, none⟩ := fun h2 => h (by injection h2)
  have a1 : (w.setCell ⟨b, 0, none⟩ x).cell? ⟨b, 0, none⟩ = some x := World.cell?_setCell_same _ _ _ k0
  have a2 : (w.setCell ⟨b, 0, none⟩ x).cell? ⟨b, 1, none⟩ = some u1 := (World.cell?_setCell_other _ _ _ _ (e 0 1 (by decide))).trans k1
  have a3 : (w.setCell ⟨b, 0, none⟩ x).cell? ⟨b, 2, none⟩ = some u2 := (World.cell?_setCell_other _ _ _ _ (e 0 2 (by decide))).trans k2
  have b1 : ((w.setCell ⟨b, 0, none⟩ x).setCell ⟨b, 1, none⟩ y).cell? ⟨b, 0, none⟩ = some x := (World.cell?_setCell_other _ _ _ _ (e 1 0 (by decide))).trans a1
  have b2 : ((w.setCell ⟨b, 0, none⟩ x).setCell ⟨b, 1, none⟩ y).cell? ⟨b, 1, none⟩ = some y := World.cell?_setCell_same _ _ _ a2
  have b3 : ((w.setCell ⟨b, 0, none⟩ x).setCell ⟨b, 1, none⟩ y).cell? ⟨b, 2, none⟩ = some u2 := (World.cell?_setCell_other _ _ _ _ (e 1 2 (by decide))).trans a3
  exact ⟨(World.cell?_setCell_other _ _ _ _ (e 2 0 (by decide))).trans b1, (World.cell?_setCell_other _ _ _ _ (e 2 1 (by decide))).trans b2, World.cell?_setCell_same _ _ _ b3⟩
theorem new3_cells (w : World) (x y z : Value) (t : TypeId) : (w.alloc (.cells #[x, y, z] t)).cell? ⟨w.heap.size, 0, none⟩ = some x ∧ (w.alloc (.cells #[x, y, z] t)).cell? ⟨w.heap.size, 1, none⟩ = some y ∧ (w.alloc (.cells #[x, y, z] t)).cell? ⟨w.heap.size, 2, none⟩ = some z :=
  ⟨Tb.cell_of_blkT (heap_alloc_new _ _) rfl, Tb.cell_of_blkT (heap_alloc_new _ _) rfl, Tb.cell_of_blkT (heap_alloc_new _ _) rfl⟩
theorem row_one (w : World) (y B : Nat) (hB : B ≤ w.heap.size) : OwnW (w.alloc (.cells #[.int .u64 (y : Int)] 55)) B (.slice (some ⟨w.heap.size, 0, none⟩) 1 1) [y] := by
  have := World.ownsRow_lit (base := B) (e := 55) (size := 1) w #[.int .u64 (y : Int)] 1 hB (by unfold maxLen; omega) (by simp)
  exact this
theorem own_cons {x : Nat} {l : List Nat} : [wU x] ++ l.map wU = (x :: l).map wU := rfl
theorem sqDo_len (t k : Nat) (l : List Nat) (a : Nat) (h : l.length ≤ 8) : (sqDo t k l a).1.length ≤ 9 := by
  unfold sqDo
  split <;> (try split) <;> (try split) <;> simp <;> omega
theorem sqAp_len9 (t k : Int) (l : List Nat) (a : Nat) (h : l.length ≤ 8) : (sqAp t k l a).1.length ≤ 9 := by
  unfold sqAp
  split
  · split
    · exact sqDo_len t.toNat k.toNat l a h
    · show l.length ≤ _; omega
  · show l.length ≤ _; omega
theorem sqAp_len (t k : Int) (l : List Nat) (a : Nat) (h : l.length ≤ 8) : (sqAp t k l a).1.length ≤ 4294967296 := by
  unfold sqAp
  split
  · split
    · have := sqDo_len t.toNat k.toNat l a h; omega
    · show l.length ≤ _; omega
  · show l.length ≤ _; omega
set_option maxHeartbeats 8000000 in
theorem perform1_go (gE gP gC x qn a : Nat) (p : Int) (t ob kd b c : Int) (r : List Nat) (v : Value) (B : Nat) (w : World) (h : OwnW w B v (x :: r)) (hB : B ≤ w.heap.size)
    (hE : w.cell? ⟨gE, 0, none⟩ = some (.int .i64 (qn : Int))) (hP : w.cell? ⟨gP, 0, none⟩ = some (.int .i64 p)) (hC : w.heap[gC]? = some (callO t ob kd (a : Int) b c)) (hq : qn ≤ 256) (hx : x < qn) (hl : r.length ≤ 8) (hx64 : ∀ x ∈ r, x < 18446744073709551616) (ha : a < 18446744073709551616) (d : List Nat × Nat × Nat) (hd : sqAp p kd r a = d) :
    Calls Tryz.prog 156 #[v, .pointer (some ⟨gE, 0, none⟩), .pointer (some ⟨gP, 0, none⟩), .pointer (some ⟨gC, 0, none⟩)] w (ChP B w ⟨(x + 1) :: d.1, d.2.2, d.2.1, []⟩) := by
  have hcap0 := h.room
  obtain ⟨g1, cap, rfl, hg1, hlt1, hc, hf⟩ := h.opened (by simp)
  have hcap : r.length + 1 ≤ cap := hcap0 _ _ _ rfl
  have d1 := hc 0 x rfl
  have HAP : Hid (∀ (v' : Value) W, ArgW W v' r → Calls Tryz.prog 157 #[.int .i64 p, v', .int .i64 kd, .int .u64 (a : Int)] W (ApP W d)) := Lib.hid (fun v' W hA => by rw [← hd]; exact apply_any p kd v' r a W hA (by omega) hx64 ha)
  have ltE := World.block_lt_of_cell? w _ hE
  have ltP := World.block_lt_of_cell? w _ hP
  simp only at ltE ltP
  have ltC := blk_lt hC
  have c2 : w.cell? ⟨gC, 2, none⟩ = some (.int .i64 kd) := Tb.cell_of_blkT hC rfl
  have c3 : w.cell? ⟨gC, 3, none⟩ = some (.int .u64 (a : Int)) := Tb.cell_of_blkT hC rfl
  have dd : decide ((qn : Int) ≤ (x : Int)) = false := decide_eq_false (by omega)
  have dd2 : decide ((x : Int) < (qn : Int)) = true := decide_eq_true (by omega)
  have dd3 : ¬ (qn : Int) ≤ (x : Int) := by omega
  have dd4 : ¬ qn ≤ x := by omega
  have HAT : Hid (∀ W, Below w.heap.size w W → ArgW W (.slice (some ⟨g1, 1, none⟩) r.length (cap - 1)) r) := Lib.hid (fun W hb => argW_tail (o := 0) (x := x) (fun i y hy => (hb.cell (p := ⟨g1, _, none⟩) hlt1).trans (by rw [Nat.zero_add]; exact hc i y hy)))
  have HA0 : Hid (Below w.heap.size w (w.alloc ansO)) := Lib.hid ((Below.refl _ _).alloc (Nat.le_refl _) _)
  have HBK : Hid ((w.alloc ansO).heap[w.heap.size]? = some ansO) := Lib.hid (heap_alloc_new _ _)
  have hlen : (x :: r).length = r.length + 1 := rfl
  rw [hlen] at *
  clear h hc hf hlen hcap0 hC
  unfold ansO at *
  by_cases hc1 : cap = 1
  · subst hc1
    have ht0 : r = [] := List.length_eq_zero_iff.1 (by omega)
    subst ht0
    simp only [List.length_nil, Nat.zero_add] at *
    go_enter Tryz.func156, Tryz.ntmps156
    go_wp2_with fail
    go_quiet (fail)
    have hW0 : Hid (Below w.heap.size w ((w.alloc (.cells #[.int .i64 0, .int .u64 0, .slice none 0 0] 57)).drewN nq)) := Lib.hid (below_drewN HA0.out nq)
    have hK0 : Hid (((w.alloc (.cells #[.int .i64 0, .int .u64 0, .slice none 0 0] 57)).drewN nq).heap[w.heap.size]? = some (.cells #[.int .i64 0, .int .u64 0, .slice none 0 0] 57)) := Lib.hid HBK.out
    generalize (w.alloc (.cells #[.int .i64 0, .int .u64 0, .slice none 0 0] 57)).drewN nq = W1 at *
    have e1 := (hW0.out.cell (p := ⟨g1, 0, none⟩) hlt1).trans d1
    have eP := (hW0.out.cell (p := ⟨gP, 0, none⟩) ltP).trans hP
    have e2 := (hW0.out.cell (p := ⟨gC, 2, none⟩) ltC).trans c2
    have e3 := (hW0.out.cell (p := ⟨gC, 3, none⟩) ltC).trans c3
    have hltW := blk_lt hK0.out
    have nP : gP ≠ W1.heap.size := by have := hW0.out.size; omega
    have nC : gC ≠ W1.heap.size := by have := hW0.out.size; omega
    have nP2 : W1.heap.size ≠ gP := fun e => nP e.symm
    have nC2 : W1.heap.size ≠ gC := fun e => nC e.symm
    have lP : gP < W1.heap.size := by have := hW0.out.size; omega
    have lC : gC < W1.heap.size := by have := hW0.out.size; omega
    clear d1 hP c2 c3 hE
    go_upto_region 3 with fail
    go_cut [7, 8] from 9 to 35 (fun v7 v8 wx => ∃ (b8 : Nat) (ao7 : Option Addr) (cap7 : Nat), v7 = .slice ao7 d.1.length cap7 ∧ v8 = .pointer (some ⟨b8, 0, none⟩) ∧ Hid (wx.cell? ⟨b8, 0, none⟩ = some (.int .i64 (d.2.2 : Int)) ∧ wx.cell? ⟨b8, 1, none⟩ = some (.int .u64 (d.2.1 : Int)) ∧ wx.cell? ⟨b8, 2, none⟩ = some (.slice none 0 0)) ∧ Hid (OwnW wx W1.heap.size (.slice ao7 d.1.length cap7) d.1) ∧ Hid (Below W1.heap.size W1 wx))
    case first =>
      go_region_held3 (fun w' => w'.cell? ⟨gP, 0, none⟩ = some (.int .i64 p) ∧ w'.cell? ⟨gC, 2, none⟩ = some (.int .i64 kd) ∧ w'.cell? ⟨gC, 3, none⟩ = some (.int .u64 (a : Int)))
        (first | exact ⟨eP, e2, e3⟩ | (refine ⟨?_, ?_, ?_⟩ <;> simp [World.cell?_setCell_ne, nP, nC, nP2, nC2, eP, e2, e3]; done) | go_keep)
        (first
          | (go_at_call 157
             refine (HAP.out _ _ (argW_none _ _ _)).mono ?_
             rintro e w3 ⟨v3, rfl, ho3, hb3⟩
             have HBW : Hid (Below W1.heap.size W1 w3) := Lib.hid (by first | exact ((Below.refl _ _).drew.trans hb3) | exact (((Below.refl _ _).alloc (Nat.le_refl _) _).drew.trans (hb3.mono (by simp))) | exact (((Below.refl _ _).drew.alloc (Nat.le_refl _) _).trans (hb3.mono (by simp))))
             have n1 := (HBW.out.cell (p := ⟨gP, 0, none⟩) (by show gP < _; have := hW0.out.size; omega)).trans eP
             have n2 := (HBW.out.cell (p := ⟨gC, 2, none⟩) (by show gC < _; have := hW0.out.size; omega)).trans e2
             have n3 := (HBW.out.cell (p := ⟨gC, 3, none⟩) (by show gC < _; have := hW0.out.size; omega)).trans e3
             clear eP e2 e3
             have eP := n1
             have e2 := n2
             have e3 := n3
             clear n1 n2 n3
             obtain ⟨ao7, cap7, rfl⟩ := ho3.arg.isSlice
             have zw := HBW.out.size
             first
               | (have hz : w3.heap[W1.heap.size]? = some (.cells #[.int .i64 0, .int .u64 0, .slice none 0 0] 57) := (hb3.block _ (by simp)).trans (heap_alloc_new _ _)
                  have k0 := Tb.cell_of_blkT (k := 0) hz rfl
                  have k1 := Tb.cell_of_blkT (k := 1) hz rfl
                  have k2 := Tb.cell_of_blkT (k := 2) hz rfl
                  have z0 := Tb.free_of_blkT (k := 0) hz
                  have z1 := Tb.free_of_blkT (k := 1) hz
                  have z2 := Tb.free_of_blkT (k := 2) hz
                  have zl := blk_lt hz
                  have HO3 : Hid (OwnW w3 W1.heap.size (.slice ao7 d.1.length cap7) d.1) := Lib.hid (ho3.mono (by simp))
                  have HNE := Lib.hid (HO3.out.ne_ans hz)
                  clear hz)
               | (have HO3 : Hid (OwnW w3 W1.heap.size (.slice ao7 d.1.length cap7) d.1) := Lib.hid (ho3.mono (by simp)))
             clear ho3 hb3)
          | fail)
      all_goals (go_wp2_with fail; go_meet)
      all_goals first
        | exact ⟨W1.heap.size, ao7, cap7, rfl, rfl, Lib.hid (put3_cells k0 k1 k2 _ _ _), Lib.hid (HO3.out.put3 HNE.out _ _ _), Lib.hid (put3_below HBW.out (Nat.le_refl _) _ _ _)⟩
        | exact ⟨w3.heap.size, ao7, cap7, rfl, rfl, Lib.hid (new3_cells _ _ _ _ _), Lib.hid (HO3.out.alloc _), Lib.hid (HBW.out.alloc zw _)⟩
    case rest =>
      obtain ⟨b8, ao7, cap7, rfl, rfl, HC8, HO7, HBc⟩ := hcut
      have hBW : B ≤ W1.heap.size := Nat.le_trans hB hW0.out.size
      have hsz := HBc.out.size
      have m1 := (HBc.out.cell (p := ⟨g1, 0, none⟩) (by show g1 < _; have := hW0.out.size; omega)).trans e1
      have HKc := Lib.hid ((HBc.out.block _ hltW).trans hK0.out)
      obtain ⟨q0, q1, q2⟩ := HC8.out
      have HDL : Hid (d.1.length ≤ 4294967296) := Lib.hid (by rw [← hd]; exact sqAp_len p kd [] a (by simp))
      have hwx : IntKind.u64.wrap ((x : Int) + 1) = ((x + 1 : Nat) : Int) := by
        have e : (x : Int) + 1 = ((x + 1 : Nat) : Int) := by omega
        rw [e]; exact IntWalk.u64_in _ (by omega)
      have hb8 := World.block_lt_of_cell? wc _ q0
      simp only at hb8
      have hAlt : w.heap.size < wc.heap.size := Nat.lt_of_lt_of_le hltW hsz
      obtain ⟨iI, ia, ib, ic, id⟩ := info_parts info22
      have HROW : Hid (((wc.drew).alloc (.cells #[.int .u64 ((x + 1 : Nat) : Int)] 55)).ownsRow wc.heap.size 55 1 (.slice (some ⟨wc.heap.size, 0, none⟩) 1 1) 1 [.int .u64 ((x + 1 : Nat) : Int)]) := Lib.hid (row_one wc.drew (x + 1) wc.heap.size (Nat.le_refl _))
      have HONE := Lib.hid (wU_one d.1)
      have HLN : Hid ((d.1.map wU).length = d.1.length) := Lib.hid (by simp)
      obtain ⟨_, ⟨hv, h0⟩ | ⟨g7, c7, cur, hv, hg7, hb7, _⟩⟩ := HO7.out
      · have hvv : ao7 = none ∧ d.1.length = 0 ∧ cap7 = 0 := by injection hv with h1 h2 h3; exact ⟨h1, h2, h3⟩
        obtain ⟨rfl, hdl, rfl⟩ := hvv
        have hd0 : d.1 = [] := List.length_eq_zero_iff.1 hdl
        have HO2 : Hid (OwnW ((wc.drew).alloc (.cells #[.int .u64 ((x + 1 : Nat) : Int)] 55)) wc.heap.size (.slice (some ⟨wc.heap.size, 0, none⟩) 1 1) ((x + 1) :: d.1)) := Lib.hid (by rw [hd0]; exact row_one wc.drew (x + 1) wc.heap.size (Nat.le_refl _))
        have HOF : Hid (∀ e0 v0 z0 : Value, OwnW ((((wc.setCell ⟨w.heap.size, 0, none⟩ e0).setCell ⟨w.heap.size, 1, none⟩ v0).setCell ⟨w.heap.size, 2, none⟩ z0).alloc (.cells #[.int .u64 ((x : Int) + 1)] 55)) wc.heap.size (.slice (some ⟨wc.heap.size, 0, none⟩) 1 1) ((x + 1) :: d.1)) := Lib.hid (fun e0 v0 z0 => by
          have h := row_one (((wc.setCell ⟨w.heap.size, 0, none⟩ e0).setCell ⟨w.heap.size, 1, none⟩ v0).setCell ⟨w.heap.size, 2, none⟩ z0) (x + 1) wc.heap.size (by simp)
          have es : (((wc.setCell ⟨w.heap.size, 0, none⟩ e0).setCell ⟨w.heap.size, 1, none⟩ v0).setCell ⟨w.heap.size, 2, none⟩ z0).heap.size = wc.heap.size := by simp
          rw [es] at h
          rw [hd0]
          exact h)
        rw [hdl] at *
        clear hv hd
        go_wp2_with fail
        have kc0 := Tb.cell_of_blkT (k := 0) HKc.out rfl
        have kc1 := Tb.cell_of_blkT (k := 1) HKc.out rfl
        have kc2 := Tb.cell_of_blkT (k := 2) HKc.out rfl
        have zc0 := Tb.free_of_blkT (k := 0) HKc.out
        have zc1 := Tb.free_of_blkT (k := 1) HKc.out
        have zc2 := Tb.free_of_blkT (k := 2) HKc.out
        go_region_law (refine step_onto_none (w := (wc.drew).alloc (.cells #[.int .u64 ((x + 1 : Nat) : Int)] 55)) rfl _ _ 37 rfl wc.heap.size 55 iI 1 Tryz.underlying37 ia _ 1 _ rfl HROW.out rfl ?_)
        all_goals (go_wp2_with fail)
        all_goals exact bodyPost_ret (v := .tuple #[.slice (some ⟨wc.heap.size, 0, none⟩) 1 1, .agg #[.int .i64 (d.2.2 : Int), .int .u64 (d.2.1 : Int), .slice none 0 0]]) (by simp [results, Tryz.results156, go_sem, kc0, kc1, kc2, hAlt]) rfl ⟨_, _, rfl, ⟨((HOF.out _ _ _).drewN 1).argB.mono (Nat.le_trans hBW hsz), (HOF.out (.int .i64 0) (.int .i64 0) (.int .i64 0)).room⟩, ⟨ArgB.nil _ _, room_nil⟩, ((put3_below ((hW0.out.mono hB).trans (HBc.out.mono hBW)) hB _ _ _).alloc (by simp; omega) _).drew⟩
      · have hg7l := blk_lt hb7
        have hvv : ao7 = some ⟨g7, 0, none⟩ := by injection hv
        subst hvv
        have HCC : Hid (∀ (j : Nat) (u : Value), (d.1.map wU)[j]? = some u → ((wc.drew).alloc (.cells #[.int .u64 ((x + 1 : Nat) : Int)] 55)).cell? ((⟨g7, 0, none⟩ : Addr).add j) = some u) := Lib.hid (fun j u hu => by
          rw [List.getElem?_map] at hu
          obtain ⟨y, hy, rfl⟩ := Option.map_eq_some_iff.1 hu
          have hj := (List.getElem?_eq_some_iff.1 hy).1
          rw [addr_add _ j g7 0 rfl, Nat.zero_add]
          refine (World.cell?_alloc_past (w := wc.drew) _ _ _ hg7l).trans ?_
          have := World.ownsRow.cellAt HO7.out j (by omega)
          rw [List.getElem?_map, hy] at this
          exact this)
        have HM2 : Hid (∀ (v2 : Value) (w2 : World), w2.ownsRow wc.heap.size 55 1 v2 (1 + d.1.length) ([.int .u64 ((x + 1 : Nat) : Int)] ++ d.1.map wU) → OwnW w2 wc.heap.size v2 ((x + 1) :: d.1)) := Lib.hid (fun v2 w2 ho => by
          unfold OwnW
          rw [List.length_cons, Nat.add_comm, ← own_cons]
          exact ho)
        have HKP : Hid (∀ (w2 : World), (∀ k, k < ((wc.drew).alloc (.cells #[.int .u64 ((x + 1 : Nat) : Int)] 55)).heap.size → (Value.slice (some ⟨wc.heap.size, 0, none⟩) 1 1).ownBlock ≠ some k → w2.heap[k]? = ((wc.drew).alloc (.cells #[.int .u64 ((x + 1 : Nat) : Int)] 55)).heap[k]?) → ∀ k, k < wc.heap.size → w2.heap[k]? = wc.heap[k]?) := Lib.hid (fun w2 h k hk => by
          rw [h k (by simp; omega) (fun e => by simp [Value.ownBlock] at e; omega)]
          exact Below.heap_alloc wc.drew _ k hk)
        have hle : 1 + d.1.length ≤ 4294967296 := by rw [← hd]; have := sqAp_len9 p kd [] a (by simp); omega
        clear hv hb7 hd
        go_wp2_with fail
        go_region_law (refine step_onto_ownO (w := (wc.drew).alloc (.cells #[.int .u64 ((x + 1 : Nat) : Int)] 55)) rfl _ _ 37 rfl wc.heap.size 55 iI (.int .u64 0) 8 Tryz.underlying37 ia ib ic id rfl (by decide) _ 1 _ rfl HROW.out ⟨g7, 0, none⟩ cap7 d.1.length (d.1.map wU) rfl HLN.out HCC.out HONE.out hle (by simp) ?_; intro v2 w2 ho2 hb2 hkp; (have HO2 := Lib.hid (HM2.out v2 w2 ho2)); (have hkeep := HKP.out w2 hkp); (have hbk2 := (hkeep _ hAlt).trans HKc.out); (have k0 := Tb.cell_of_blkT (k := 0) hbk2 rfl); (have k1 := Tb.cell_of_blkT (k := 1) hbk2 rfl); (have k2 := Tb.cell_of_blkT (k := 2) hbk2 rfl); (have z0 := Tb.free_of_blkT (k := 0) hbk2); (have z1 := Tb.free_of_blkT (k := 1) hbk2); (have z2 := Tb.free_of_blkT (k := 2) hbk2); (have y0 := (World.cell?_of_block (a := ⟨b8, 0, none⟩) (hkeep b8 hb8)).trans q0); (have y1 := (World.cell?_of_block (a := ⟨b8, 1, none⟩) (hkeep b8 hb8)).trans q1); (have y2 := (World.cell?_of_block (a := ⟨b8, 2, none⟩) (hkeep b8 hb8)).trans q2); (have HNE := Lib.hid (HO2.out.ne_ans hbk2)); (have HBF : Hid (Below wc.heap.size wc w2) := Lib.hid (((Below.refl _ _).drew.alloc (by simp) _).trans hb2)); clear ho2 hb2 hkp hkeep hbk2)
        all_goals (go_wp2_with fail)
        all_goals exact bodyPost_ret (v := .tuple #[v2, .agg #[.int .i64 (d.2.2 : Int), .int .u64 (d.2.1 : Int), .slice none 0 0]]) (by simp [results, Tryz.results156, go_sem, k0, k1, k2]) rfl ⟨_, _, rfl, ⟨((HO2.out.put3 HNE.out _ _ _).argB).mono (Nat.le_trans hBW hsz), HO2.out.room⟩, ⟨ArgB.nil _ _, room_nil⟩, put3_below ((hW0.out.mono hB).trans ((HBc.out.mono hBW).trans (HBF.out.mono (Nat.le_trans hBW hsz)))) hB _ _ _⟩
  · have h1c : 1 < cap := by omega
    go_enter Tryz.func156, Tryz.ntmps156
    go_wp2_with fail
    go_quiet (fail)
    have hW0 : Hid (Below w.heap.size w ((w.alloc (.cells #[.int .i64 0, .int .u64 0, .slice none 0 0] 57)).drewN nq)) := Lib.hid (below_drewN HA0.out nq)
    have hK0 : Hid (((w.alloc (.cells #[.int .i64 0, .int .u64 0, .slice none 0 0] 57)).drewN nq).heap[w.heap.size]? = some (.cells #[.int .i64 0, .int .u64 0, .slice none 0 0] 57)) := Lib.hid HBK.out
    generalize (w.alloc (.cells #[.int .i64 0, .int .u64 0, .slice none 0 0] 57)).drewN nq = W1 at *
    have e1 := (hW0.out.cell (p := ⟨g1, 0, none⟩) hlt1).trans d1
    have eP := (hW0.out.cell (p := ⟨gP, 0, none⟩) ltP).trans hP
    have e2 := (hW0.out.cell (p := ⟨gC, 2, none⟩) ltC).trans c2
    have e3 := (hW0.out.cell (p := ⟨gC, 3, none⟩) ltC).trans c3
    have hltW := blk_lt hK0.out
    have nP : gP ≠ W1.heap.size := by have := hW0.out.size; omega
    have nC : gC ≠ W1.heap.size := by have := hW0.out.size; omega
    have nP2 : W1.heap.size ≠ gP := fun e => nP e.symm
    have nC2 : W1.heap.size ≠ gC := fun e => nC e.symm
    have lP : gP < W1.heap.size := by have := hW0.out.size; omega
    have lC : gC < W1.heap.size := by have := hW0.out.size; omega
    clear d1 hP c2 c3 hE
    have HTL := run_tail g1 r.length cap (by omega)
    go_upto_region 3 with fail
    go_cut [7, 8] from 9 to 35 (fun v7 v8 wx => ∃ (b8 : Nat) (ao7 : Option Addr) (cap7 : Nat), v7 = .slice ao7 d.1.length cap7 ∧ v8 = .pointer (some ⟨b8, 0, none⟩) ∧ Hid (wx.cell? ⟨b8, 0, none⟩ = some (.int .i64 (d.2.2 : Int)) ∧ wx.cell? ⟨b8, 1, none⟩ = some (.int .u64 (d.2.1 : Int)) ∧ wx.cell? ⟨b8, 2, none⟩ = some (.slice none 0 0)) ∧ Hid (OwnW wx W1.heap.size (.slice ao7 d.1.length cap7) d.1) ∧ Hid (Below W1.heap.size W1 wx))
    case first =>
      go_region_held3 (fun w' => w'.cell? ⟨gP, 0, none⟩ = some (.int .i64 p) ∧ w'.cell? ⟨gC, 2, none⟩ = some (.int .i64 kd) ∧ w'.cell? ⟨gC, 3, none⟩ = some (.int .u64 (a : Int)))
        (first | exact ⟨eP, e2, e3⟩ | (refine ⟨?_, ?_, ?_⟩ <;> simp [World.cell?_setCell_ne, nP, nC, nP2, nC2, eP, e2, e3]; done) | go_keep)
        (first
          | (go_at_call 157
             refine (HAP.out _ _ (by first | exact HAT.out _ hW0.out.drew | exact HAT.out _ ((hW0.out.alloc hW0.out.size _).drew) | exact HAT.out _ ((hW0.out.drew.alloc hW0.out.size _)))).mono ?_
             rintro e w3 ⟨v3, rfl, ho3, hb3⟩
             have HBW : Hid (Below W1.heap.size W1 w3) := Lib.hid (by first | exact ((Below.refl _ _).drew.trans hb3) | exact (((Below.refl _ _).alloc (Nat.le_refl _) _).drew.trans (hb3.mono (by simp))) | exact (((Below.refl _ _).drew.alloc (Nat.le_refl _) _).trans (hb3.mono (by simp))))
             have n1 := (HBW.out.cell (p := ⟨gP, 0, none⟩) (by show gP < _; have := hW0.out.size; omega)).trans eP
             have n2 := (HBW.out.cell (p := ⟨gC, 2, none⟩) (by show gC < _; have := hW0.out.size; omega)).trans e2
             have n3 := (HBW.out.cell (p := ⟨gC, 3, none⟩) (by show gC < _; have := hW0.out.size; omega)).trans e3
             clear eP e2 e3
             have eP := n1
             have e2 := n2
             have e3 := n3
             clear n1 n2 n3
             obtain ⟨ao7, cap7, rfl⟩ := ho3.arg.isSlice
             have zw := HBW.out.size
             first
               | (have hz : w3.heap[W1.heap.size]? = some (.cells #[.int .i64 0, .int .u64 0, .slice none 0 0] 57) := (hb3.block _ (by simp)).trans (heap_alloc_new _ _)
                  have k0 := Tb.cell_of_blkT (k := 0) hz rfl
                  have k1 := Tb.cell_of_blkT (k := 1) hz rfl
                  have k2 := Tb.cell_of_blkT (k := 2) hz rfl
                  have z0 := Tb.free_of_blkT (k := 0) hz
                  have z1 := Tb.free_of_blkT (k := 1) hz
                  have z2 := Tb.free_of_blkT (k := 2) hz
                  have zl := blk_lt hz
                  have HO3 : Hid (OwnW w3 W1.heap.size (.slice ao7 d.1.length cap7) d.1) := Lib.hid (ho3.mono (by simp))
                  have HNE := Lib.hid (HO3.out.ne_ans hz)
                  clear hz)
               | (have HO3 : Hid (OwnW w3 W1.heap.size (.slice ao7 d.1.length cap7) d.1) := Lib.hid (ho3.mono (by simp)))
             clear ho3 hb3)
          | fail)
      all_goals (go_wp2_with fail; go_meet)
      all_goals first
        | exact ⟨W1.heap.size, ao7, cap7, rfl, rfl, Lib.hid (put3_cells k0 k1 k2 _ _ _), Lib.hid (HO3.out.put3 HNE.out _ _ _), Lib.hid (put3_below HBW.out (Nat.le_refl _) _ _ _)⟩
        | exact ⟨w3.heap.size, ao7, cap7, rfl, rfl, Lib.hid (new3_cells _ _ _ _ _), Lib.hid (HO3.out.alloc _), Lib.hid (HBW.out.alloc zw _)⟩
    case rest =>
      obtain ⟨b8, ao7, cap7, rfl, rfl, HC8, HO7, HBc⟩ := hcut
      have hBW : B ≤ W1.heap.size := Nat.le_trans hB hW0.out.size
      have hsz := HBc.out.size
      have m1 := (HBc.out.cell (p := ⟨g1, 0, none⟩) (by show g1 < _; have := hW0.out.size; omega)).trans e1
      have HKc := Lib.hid ((HBc.out.block _ hltW).trans hK0.out)
      obtain ⟨q0, q1, q2⟩ := HC8.out
      have HDL : Hid (d.1.length ≤ 4294967296) := Lib.hid (by rw [← hd]; exact sqAp_len p kd r a hl)
      have hwx : IntKind.u64.wrap ((x : Int) + 1) = ((x + 1 : Nat) : Int) := by
        have e : (x : Int) + 1 = ((x + 1 : Nat) : Int) := by omega
        rw [e]; exact IntWalk.u64_in _ (by omega)
      have hb8 := World.block_lt_of_cell? wc _ q0
      simp only at hb8
      have hAlt : w.heap.size < wc.heap.size := Nat.lt_of_lt_of_le hltW hsz
      obtain ⟨iI, ia, ib, ic, id⟩ := info_parts info22
      have HROW : Hid (((wc.drew).alloc (.cells #[.int .u64 ((x + 1 : Nat) : Int)] 55)).ownsRow wc.heap.size 55 1 (.slice (some ⟨wc.heap.size, 0, none⟩) 1 1) 1 [.int .u64 ((x + 1 : Nat) : Int)]) := Lib.hid (row_one wc.drew (x + 1) wc.heap.size (Nat.le_refl _))
      have HONE := Lib.hid (wU_one d.1)
      have HLN : Hid ((d.1.map wU).length = d.1.length) := Lib.hid (by simp)
      obtain ⟨_, ⟨hv, h0⟩ | ⟨g7, c7, cur, hv, hg7, hb7, _⟩⟩ := HO7.out
      · have hvv : ao7 = none ∧ d.1.length = 0 ∧ cap7 = 0 := by injection hv with h1 h2 h3; exact ⟨h1, h2, h3⟩
        obtain ⟨rfl, hdl, rfl⟩ := hvv
        have hd0 : d.1 = [] := List.length_eq_zero_iff.1 hdl
        have HO2 : Hid (OwnW ((wc.drew).alloc (.cells #[.int .u64 ((x + 1 : Nat) : Int)] 55)) wc.heap.size (.slice (some ⟨wc.heap.size, 0, none⟩) 1 1) ((x + 1) :: d.1)) := Lib.hid (by rw [hd0]; exact row_one wc.drew (x + 1) wc.heap.size (Nat.le_refl _))
        have HOF : Hid (∀ e0 v0 z0 : Value, OwnW ((((wc.setCell ⟨w.heap.size, 0, none⟩ e0).setCell ⟨w.heap.size, 1, none⟩ v0).setCell ⟨w.heap.size, 2, none⟩ z0).alloc (.cells #[.int .u64 ((x : Int) + 1)] 55)) wc.heap.size (.slice (some ⟨wc.heap.size, 0, none⟩) 1 1) ((x + 1) :: d.1)) := Lib.hid (fun e0 v0 z0 => by
          have h := row_one (((wc.setCell ⟨w.heap.size, 0, none⟩ e0).setCell ⟨w.heap.size, 1, none⟩ v0).setCell ⟨w.heap.size, 2, none⟩ z0) (x + 1) wc.heap.size (by simp)
          have es : (((wc.setCell ⟨w.heap.size, 0, none⟩ e0).setCell ⟨w.heap.size, 1, none⟩ v0).setCell ⟨w.heap.size, 2, none⟩ z0).heap.size = wc.heap.size := by simp
          rw [es] at h
          rw [hd0]
          exact h)
        rw [hdl] at *
        clear hv hd
        go_wp2_with fail
        have kc0 := Tb.cell_of_blkT (k := 0) HKc.out rfl
        have kc1 := Tb.cell_of_blkT (k := 1) HKc.out rfl
        have kc2 := Tb.cell_of_blkT (k := 2) HKc.out rfl
        have zc0 := Tb.free_of_blkT (k := 0) HKc.out
        have zc1 := Tb.free_of_blkT (k := 1) HKc.out
        have zc2 := Tb.free_of_blkT (k := 2) HKc.out
        go_region_law (refine step_onto_none (w := (wc.drew).alloc (.cells #[.int .u64 ((x + 1 : Nat) : Int)] 55)) rfl _ _ 37 rfl wc.heap.size 55 iI 1 Tryz.underlying37 ia _ 1 _ rfl HROW.out rfl ?_)
        all_goals (go_wp2_with fail)
        all_goals exact bodyPost_ret (v := .tuple #[.slice (some ⟨wc.heap.size, 0, none⟩) 1 1, .agg #[.int .i64 (d.2.2 : Int), .int .u64 (d.2.1 : Int), .slice none 0 0]]) (by simp [results, Tryz.results156, go_sem, kc0, kc1, kc2, hAlt]) rfl ⟨_, _, rfl, ⟨((HOF.out _ _ _).drewN 1).argB.mono (Nat.le_trans hBW hsz), (HOF.out (.int .i64 0) (.int .i64 0) (.int .i64 0)).room⟩, ⟨ArgB.nil _ _, room_nil⟩, ((put3_below ((hW0.out.mono hB).trans (HBc.out.mono hBW)) hB _ _ _).alloc (by simp; omega) _).drew⟩
      · have hg7l := blk_lt hb7
        have hvv : ao7 = some ⟨g7, 0, none⟩ := by injection hv
        subst hvv
        have HCC : Hid (∀ (j : Nat) (u : Value), (d.1.map wU)[j]? = some u → ((wc.drew).alloc (.cells #[.int .u64 ((x + 1 : Nat) : Int)] 55)).cell? ((⟨g7, 0, none⟩ : Addr).add j) = some u) := Lib.hid (fun j u hu => by
          rw [List.getElem?_map] at hu
          obtain ⟨y, hy, rfl⟩ := Option.map_eq_some_iff.1 hu
          have hj := (List.getElem?_eq_some_iff.1 hy).1
          rw [addr_add _ j g7 0 rfl, Nat.zero_add]
          refine (World.cell?_alloc_past (w := wc.drew) _ _ _ hg7l).trans ?_
          have := World.ownsRow.cellAt HO7.out j (by omega)
          rw [List.getElem?_map, hy] at this
          exact this)
        have HM2 : Hid (∀ (v2 : Value) (w2 : World), w2.ownsRow wc.heap.size 55 1 v2 (1 + d.1.length) ([.int .u64 ((x + 1 : Nat) : Int)] ++ d.1.map wU) → OwnW w2 wc.heap.size v2 ((x + 1) :: d.1)) := Lib.hid (fun v2 w2 ho => by
          unfold OwnW
          rw [List.length_cons, Nat.add_comm, ← own_cons]
          exact ho)
        have HKP : Hid (∀ (w2 : World), (∀ k, k < ((wc.drew).alloc (.cells #[.int .u64 ((x + 1 : Nat) : Int)] 55)).heap.size → (Value.slice (some ⟨wc.heap.size, 0, none⟩) 1 1).ownBlock ≠ some k → w2.heap[k]? = ((wc.drew).alloc (.cells #[.int .u64 ((x + 1 : Nat) : Int)] 55)).heap[k]?) → ∀ k, k < wc.heap.size → w2.heap[k]? = wc.heap[k]?) := Lib.hid (fun w2 h k hk => by
          rw [h k (by simp; omega) (fun e => by simp [Value.ownBlock] at e; omega)]
          exact Below.heap_alloc wc.drew _ k hk)
        have hle : 1 + d.1.length ≤ 4294967296 := by rw [← hd]; have := sqAp_len9 p kd r a hl; omega
        clear hv hb7 hd
        go_wp2_with fail
        go_region_law (refine step_onto_ownO (w := (wc.drew).alloc (.cells #[.int .u64 ((x + 1 : Nat) : Int)] 55)) rfl _ _ 37 rfl wc.heap.size 55 iI (.int .u64 0) 8 Tryz.underlying37 ia ib ic id rfl (by decide) _ 1 _ rfl HROW.out ⟨g7, 0, none⟩ cap7 d.1.length (d.1.map wU) rfl HLN.out HCC.out HONE.out hle (by simp) ?_; intro v2 w2 ho2 hb2 hkp; (have HO2 := Lib.hid (HM2.out v2 w2 ho2)); (have hkeep := HKP.out w2 hkp); (have hbk2 := (hkeep _ hAlt).trans HKc.out); (have k0 := Tb.cell_of_blkT (k := 0) hbk2 rfl); (have k1 := Tb.cell_of_blkT (k := 1) hbk2 rfl); (have k2 := Tb.cell_of_blkT (k := 2) hbk2 rfl); (have z0 := Tb.free_of_blkT (k := 0) hbk2); (have z1 := Tb.free_of_blkT (k := 1) hbk2); (have z2 := Tb.free_of_blkT (k := 2) hbk2); (have y0 := (World.cell?_of_block (a := ⟨b8, 0, none⟩) (hkeep b8 hb8)).trans q0); (have y1 := (World.cell?_of_block (a := ⟨b8, 1, none⟩) (hkeep b8 hb8)).trans q1); (have y2 := (World.cell?_of_block (a := ⟨b8, 2, none⟩) (hkeep b8 hb8)).trans q2); (have HNE := Lib.hid (HO2.out.ne_ans hbk2)); (have HBF : Hid (Below wc.heap.size wc w2) := Lib.hid (((Below.refl _ _).drew.alloc (by simp) _).trans hb2)); clear ho2 hb2 hkp hkeep hbk2)
        all_goals (go_wp2_with fail)
        all_goals exact bodyPost_ret (v := .tuple #[v2, .agg #[.int .i64 (d.2.2 : Int), .int .u64 (d.2.1 : Int), .slice none 0 0]]) (by simp [results, Tryz.results156, go_sem, k0, k1, k2]) rfl ⟨_, _, rfl, ⟨((HO2.out.put3 HNE.out _ _ _).argB).mono (Nat.le_trans hBW hsz), HO2.out.room⟩, ⟨ArgB.nil _ _, room_nil⟩, put3_below ((hW0.out.mono hB).trans ((HBc.out.mono hBW).trans (HBF.out.mono (Nat.le_trans hBW hsz)))) hB _ _ _⟩

set_option maxHeartbeats 2000000 in
theorem perform_any (p : Int) (qn : Nat) (m : List Nat) (t ob kd b c : Int) (a : Nat) (hq : 1 ≤ qn ∧ qn ≤ 256) (hm : 0 < m.length) (hl : m.length ≤ 9) (hx64 : ∀ x ∈ m, x < 18446744073709551616) (ha : a < 18446744073709551616) (w : World) :
    Calls Tryz.prog 121 #[.int .i64 p, .int .i64 (qn : Int), callV t ob kd (a : Int) b c] w (OpP m (mdUniv p (qn : Int) m kd a) w) := by
  have hmf : ∀ (fn : Fn) (first cap : Array Value) (w : World), (Instr.makeFunc fn first cap).run Tryz.prog w = .ok (.func fn first cap) w := fun _ _ _ _ => rfl
  obtain ⟨x, r, rfl⟩ : ∃ x r, m = x :: r := by
    cases m with
    | nil => simp at hm
    | cons x r => exact ⟨x, r, rfl⟩
  obtain ⟨w1, hw1⟩ : ∃ w1, w1 = w.alloc (.cells #[.int .i64 p] 3) := ⟨_, rfl⟩
  obtain ⟨w2, hw2⟩ : ∃ w2, w2 = w1.alloc (.cells #[.int .i64 (qn : Int)] 3) := ⟨_, rfl⟩
  obtain ⟨w3, hw3⟩ : ∃ w3, w3 = w2.alloc (callO t ob kd (a : Int) b c) := ⟨_, rfl⟩
  have s1 : w1.heap.size = w.heap.size + 1 := by rw [hw1, World.size_alloc]
  have s2 : w2.heap.size = w.heap.size + 1 + 1 := by rw [hw2, World.size_alloc, s1]
  have s3 : w3.heap.size = w.heap.size + 1 + 1 + 1 := by rw [hw3, World.size_alloc, s2]
  have b1 : Below w.heap.size w w1 := by rw [hw1]; exact (Below.refl _ _).alloc (Nat.le_refl _) _
  have b2 : Below w1.heap.size w1 w2 := by rw [hw2]; exact (Below.refl _ _).alloc (Nat.le_refl _) _
  have b3 : Below w2.heap.size w2 w3 := by rw [hw3]; exact (Below.refl _ _).alloc (Nat.le_refl _) _
  have c1 : w1.cell? ⟨w.heap.size, 0, none⟩ = some (.int .i64 p) := by rw [hw1]; exact cell_new0 _ _ _ rfl
  have c2 : w2.cell? ⟨w.heap.size + 1, 0, none⟩ = some (.int .i64 (qn : Int)) := by rw [hw2]; exact cell_new0 _ _ _ s1.symm
  have c3 : w3.heap[w.heap.size + 1 + 1]? = some (callO t ob kd (a : Int) b c) := by rw [hw3, ← s2]; exact heap_alloc_new _ _
  have b23 : Below w1.heap.size w1 w3 := b2.trans (b3.mono (by omega))
  have b03 : Below w.heap.size w w3 := b1.trans (b23.mono (by omega))
  by_cases hbig : 4294967296 ≤ a
  · have hq' : mdUniv p (qn : Int) (x :: r) kd a = ⟨x :: r, 10, 0, []⟩ := by unfold mdUniv; rw [if_pos hbig]
    rw [hq']
    have HF : Hid (∀ w, Calls Tryz.prog 113 #[.int .i64 10] w (OpP (x :: r) ⟨x :: r, 10, 0, []⟩ w)) := Lib.hid (fun w => fail_any 10 w _)
    have hd : decide ((4294967296 : Int) ≤ (a : Int)) = true := decide_eq_true (by omega)
    have HB := Lib.hid b03
    rw [hw3, hw2, hw1] at HB
    clear hq' hw1 hw2 hw3 s1 s2 s3 b1 b2 b3 c1 c2 c3 b23 b03
    go_enter Tryz.func121, Tryz.ntmps121
    go_wp2_with (go_at_call 113; refine (HF.out _).mono ?_; intro e w3 h3; obtain ⟨fid, ex, rfl, hk3, hb3⟩ := (OpP.lift h3 HB.out))
    go_ret
    exact ⟨fid, ex, rfl, hk3, hb3⟩
  · have HX : Hid (OpP (x :: r) (mdUniv p (qn : Int) (x :: r) kd a) w (.returned (.func (.func 156) #[] #[.pointer (some ⟨w.heap.size + 1, 0, none⟩), .pointer (some ⟨w.heap.size, 0, none⟩), .pointer (some ⟨w.heap.size + 1 + 1, 0, none⟩)])) w3) := by
      refine Lib.hid ⟨_, [.pointer (some ⟨w.heap.size + 1, 0, none⟩), .pointer (some ⟨w.heap.size, 0, none⟩), .pointer (some ⟨w.heap.size + 1 + 1, 0, none⟩)], rfl, ⟨fun args w => by kernel_rfl, fun W B v hb hB ho hg => ?_⟩, b03⟩
      have e1 : W.cell? ⟨w.heap.size, 0, none⟩ = some (.int .i64 p) := (hb.cell (p := ⟨w.heap.size, 0, none⟩) (by dsimp only; omega)).trans ((b23.cell (p := ⟨w.heap.size, 0, none⟩) (by dsimp only; omega)).trans c1)
      have e2 : W.cell? ⟨w.heap.size + 1, 0, none⟩ = some (.int .i64 (qn : Int)) := (hb.cell (p := ⟨w.heap.size + 1, 0, none⟩) (by dsimp only; omega)).trans ((b3.cell (p := ⟨w.heap.size + 1, 0, none⟩) (by dsimp only; omega)).trans c2)
      have e3 : W.heap[w.heap.size + 1 + 1]? = some (callO t ob kd (a : Int) b c) := (hb.block _ (by omega)).trans c3
      unfold mdUniv
      rw [if_neg hbig]
      have e : (x :: r).getD 0 0 = x := rfl
      rw [e]
      by_cases hful : qn ≤ x
      · rw [if_pos (by omega)]
        exact perform1_full _ _ _ x qn p 0 0 0 0 0 0 r v B W ho hB e2 hq.2 hful
      · rw [if_neg (by omega)]
        exact perform1_go _ _ _ x qn a p t ob kd b c r v B W ho hB e2 e1 e3 hq.2 (by omega) (by simp at hl; omega) (fun y hy => hx64 y (by simp [hy])) ha _ rfl
    rw [hw3, hw2, hw1] at HX
    have hd : decide ((4294967296 : Int) ≤ (a : Int)) = false := decide_eq_false (by omega)
    clear hw1 hw2 hw3 s1 s2 s3 b1 b2 b3 c1 c2 c3 b23 b03
    go_enter Tryz.func121, Tryz.ntmps121
    go_wp2_with fail
    go_ret
    exact HX.out
end
section
open Go.ChangeShapes Go.WideShapes Go.ChangeAt Go.RowKit
set_option linter.unusedVariables false
set_option linter.unusedSimpArgs false
set_option maxRecDepth 100000

/-- what an operation makes of any object's model, and answers -/
def mdOp (n k p q : Int) (m : List Nat) (x : CallM) : MdR :=
  if ¬ (0 ≤ x.kd ∧ x.kd < Tb.tbKn k p) then ⟨m, 9, 0, []⟩
  else if k = 0 then mdCell p m x.kd x.a x.b x.c
  else if k = 1 then mdCons m x.kd x.a
  else if k = 2 then mdTally m x.kd
  else if k = 3 then mdAdder m x.kd x.a
  else if k = 4 then mdMax p m x.kd x.a
  else if k = 5 then mdSnap n.toNat p.toNat m x.th.toNat x.kd x.a
  else if k = 6 then mdMulti p.toNat q.toNat m x.th.toNat x.kd x.a x.b
  else if k = 7 then mdUniv p q m x.kd x.a
  else if k = 8 then mdQ m x.th x.kd x.a
  else mdPin p.toNat m x.th x.kd x.a
def CallM.v (x : CallM) : Value := callV x.th x.ob x.kd (x.a : Int) (x.b : Int) (x.c : Int)
/-- a call's words are words -/
structure CallM.Ok (x : CallM) : Prop where
  a : x.a < 18446744073709551616
  b : x.b < 18446744073709551616
  c : x.c < 18446744073709551616

theorem operation_any (n k p q : Int) (m : List Nat) (x : CallM) (w : World) (hok : Tb.tbErr n k p q = 0) (his : mdIs n k p m = true) (hth : 0 ≤ x.th ∧ x.th < n) (hx : x.Ok) (hx64 : ∀ y ∈ m, y < 18446744073709551616) (hl : m.length ≤ 2000000) :
    Calls Tryz.prog 95 #[.int .i64 n, Tb.specV k p q, x.v] w (OpP m (mdOp n k p q m x) w) := by
  obtain ⟨th, ob, kd, a, b, c⟩ := x
  obtain ⟨ha, hb, hc⟩ := hx
  simp only at ha hb hc hth
  have h := okS hok
  have hn1 := h.n1
  have hn2 := h.n16
  unfold CallM.v mdOp
  simp only
  by_cases hk : 0 ≤ kd ∧ kd < Tb.tbKn k p
  case neg =>
    rw [if_pos hk]
    exact op_kind n p q th ob kd a b c k m hk w
  rw [if_neg (not_not_intro hk)]
  obtain ⟨tn, rfl⟩ : ∃ tn : Nat, th = tn := ⟨th.toNat, by omega⟩
  obtain ⟨nn, rfl⟩ : ∃ nn : Nat, n = nn := ⟨n.toNat, by omega⟩
  have hk9 := Tb.tb_nine ⟨h.k0, h.k9⟩
  have e2 : ∀ k : Int, k = 1 ∨ k = 2 ∨ k = 4 ∨ k = 5 ∨ k = 6 ∨ k = 8 ∨ k = 9 → Tb.tbKn k p = 2 := by
    intro k hk
    rcases hk with rfl | rfl | rfl | rfl | rfl | rfl | rfl <;> rfl
  rcases hk9 with rfl | rfl | rfl | rfl | rfl | rfl | rfl | rfl | rfl | rfl
  · have hp := h.h0 rfl
    have hm : (m.length : Int) = p := by simpa [mdIs, mdLen] using his
    have e4 : Tb.tbKn 0 p = 4 := rfl
    exact op_0 _ p q _ ob kd _ _ _ m _ hk (fun W => access_any p m _ ob kd a b c hp (by rw [e4] at hk; exact hk) hm hx64 ha hb W) w
  · have hm : m.length = 1 := by have : (m.length : Int) = 1 := by simpa [mdIs, mdLen] using his
                                 omega
    rw [e2 1 (by simp)] at hk
    exact op_1 _ p q _ ob kd _ _ _ m _ (by rw [e2 1 (by simp)]; exact hk) (fun W => agree_any m _ ob kd _ _ a (by omega) hm hx64 W) w
  · have hm : m.length = 1 := by have : (m.length : Int) = 1 := by simpa [mdIs, mdLen] using his
                                 omega
    rw [e2 2 (by simp)] at hk
    exact op_2 _ p q _ ob kd _ _ _ m _ (by rw [e2 2 (by simp)]; exact hk) (fun W => count_any m _ ob kd _ _ _ (by omega) hm hx64 W) w
  · have hm : m.length = 1 := by have : (m.length : Int) = 1 := by simpa [mdIs, mdLen] using his
                                 omega
    have e3 : Tb.tbKn 3 p = 3 := rfl
    rw [e3] at hk
    exact op_3 _ p q _ ob kd _ _ _ m _ (by rw [e3]; exact hk) (fun W => sum_any m _ ob kd _ _ a (by omega) hm hx64 ha W) w
  · have hp := h.h4 rfl
    have hm : m.length = 1 := by have : (m.length : Int) = 1 := by simpa [mdIs, mdLen] using his
                                 omega
    rw [e2 4 (by simp)] at hk
    obtain ⟨pn, rfl⟩ : ∃ pn : Nat, p = pn := ⟨p.toNat, by omega⟩
    exact op_4 _ _ q _ ob kd _ _ _ m _ (by rw [e2 4 (by simp)]; exact hk) (fun W => raise_any pn m _ ob kd _ _ a (by omega) (by omega) hm W) w
  · have hp := h.h5 rfl
    have hm : m.length = 2 * nn := by have : (m.length : Int) = 2 * nn := by simpa [mdIs, mdLen] using his
                                      omega
    rw [e2 5 (by simp)] at hk
    obtain ⟨pn, rfl⟩ : ∃ pn : Nat, p = pn := ⟨p.toNat, by omega⟩
    exact op_5 _ _ q _ ob kd _ _ _ m _ (by rw [e2 5 (by simp)]; exact hk) (fun W => share_any nn pn tn m ob kd _ _ a (by omega) (by omega) (by omega) (by omega) hm hx64 W) w
  · have hp := h.h6 rfl
    obtain ⟨pn, rfl⟩ : ∃ pn : Nat, p = pn := ⟨p.toNat, by omega⟩
    obtain ⟨qn, rfl⟩ : ∃ qn : Nat, q = qn := ⟨q.toNat, by omega⟩
    have hm : m.length = pn + nn := by have : (m.length : Int) = pn + nn := by simpa [mdIs, mdLen] using his
                                       omega
    rw [e2 6 (by simp)] at hk
    exact op_6 _ _ _ _ ob kd _ _ _ m _ (by rw [e2 6 (by simp)]; exact hk) (fun W => shareAny_any pn qn nn tn m ob kd _ a b (by omega) (by omega) (by omega) (by omega) (by omega) hm hx64 W) w
  · have hp := h.h7 rfl
    obtain ⟨qn, rfl⟩ : ∃ qn : Nat, q = qn := ⟨q.toNat, by omega⟩
    have hm := his
    unfold mdIs at hm
    rw [if_pos rfl, Bool.and_eq_true, decide_eq_true_eq] at hm
    have h8 : m.tail.length ≤ 8 := by
      have := hm.2
      unfold sqRight at this
      simp only [Bool.and_eq_true, decide_eq_true_eq] at this
      have := sqHi_le p.toNat
      omega
    rw [List.length_tail] at h8
    exact op_7 _ p _ _ ob kd _ _ _ m _ hk (fun W => perform_any p qn m _ ob kd _ _ a (by omega) hm.1 (by omega) hx64 ha W) w
  · have hm : m.length % 2 = 0 := by simpa [mdIs] using his
    rw [e2 8 (by simp)] at hk
    exact op_8 _ p q _ ob kd _ _ _ m _ (by rw [e2 8 (by simp)]; exact hk) (fun W => pass_any tn a ob kd _ _ m (by omega) (by omega) hl hm W) w
  · have hp := h.h9 rfl
    obtain ⟨pn, rfl⟩ : ∃ pn : Nat, p = pn := ⟨p.toNat, by omega⟩
    have hm : m.length = pn := by have : (m.length : Int) = pn := by simpa [mdIs, mdLen] using his
                                  omega
    rw [e2 9 (by simp)] at hk
    exact op_9 _ _ q _ ob kd _ _ _ m _ (by rw [e2 9 (by simp)]; exact hk) (fun W => publish_any pn m _ ob kd _ _ a (by omega) (by omega) hm ha W) w

/-- MODEL.APPLY -/
theorem mapply_any (n k p q : Int) (m : List Nat) (x : CallM) (v : Value) (w : World) (hA : ArgW w v m) (hR : Room v) (hok : Tb.tbErr n k p q = 0) (his : mdIs n k p m = true) (hth : 0 ≤ x.th ∧ x.th < n) (hx : x.Ok) (hx64 : ∀ y ∈ m, y < 18446744073709551616) (hl : m.length ≤ 2000000) :
    Calls Tryz.prog 56 #[.int .i64 n, Tb.specV k p q, v, x.v] w (ChP w.heap.size w (mdOp n k p q m x)) :=
  apply_ok n k p q x.th x.ob x.kd x.a x.b x.c m _ v w hA hR (by omega) (by rw [mdRight_yes m hok]; exact his) hth (fun W => operation_any n k p q m x W hok his hth hx hx64 hl)
end
end Go.Proofs.YtjjleghalajidaaGreat
