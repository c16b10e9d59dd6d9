/- Walks of Between and Most. -/
import Derived.Test.YtcedfcdhdgmelaaG8a
import Derived.Test.YtcedfcdhdgmelaaGZ3
namespace Go.Proofs.Ytcedfcdhdgmelaa
open Go.RowKit
set_option linter.unusedVariables false
set_option linter.unusedSimpArgs false
theorem cnt_snoc {f : EvR → Bool} {evs : List EvR} {y : EvR} {j : Nat} (h : evs[j]? = some y) : (evs.take (j + 1)).countP f = (evs.take j).countP f + (if f y = true then 1 else 0) := by
  rw [take_snoc h, List.countP_append, List.countP_singleton]
theorem cnt_le (f : EvR → Bool) (evs : List EvR) (j : Nat) : (evs.take j).countP f ≤ evs.length := Nat.le_trans List.countP_le_length (by rw [List.length_take]; exact Nat.min_le_right _ _)
theorem doneB_eq {cs : List CallV} {x y : EvR} {z : CallV} (hz : cs[y.i]? = some z) : doneB cs x y = (decide (y.ans.err = 0) && decide (z.o = 0 ∧ z.k = 0) && decide (¬ y.resp = 0 ∧ y.resp < x.inv)) := by unfold doneB cntEv; rw [isCntC_some hz]
theorem begunB_eq {cs : List CallV} {x y : EvR} {z : CallV} (hz : cs[y.i]? = some z) : begunB cs x y = (decide (y.ans.err = 0) && decide (z.o = 0 ∧ z.k = 0) && decide (y.inv < x.resp)) := by unfold begunB cntEv; rw [isCntC_some hz]
set_option maxRecDepth 100000 in
set_option maxHeartbeats 2000000 in
theorem most_yes (r : RepR) (aoE : Option Addr) (gE capE gw m B : Nat) (w : World) (hao : 0 < r.evs.length → aoE = some ⟨gE, 0, none⟩) (hev : EvAllG B w gE r.evs) (hm : ∀ x ∈ r.evs, x.steps ≤ m) (hel : r.evs.length ≤ 70000) :
    Calls Try.prog 17 #[.agg (repVs (.slice aoE r.evs.length capE) gw r).toArray, .int .i64 (m : Int)] w fun e w' => e = .returned (.bool true) ∧ Below w.heap.size w w' := by
  have HAO := Lib.hid hao
  have HMO := Lib.hid hm
  have HEV : Hid (EvAllG B (w.alloc (.cells (repVs (.slice aoE r.evs.length capE) gw r).toArray 31)) gE r.evs) := Lib.hid (hev.below ((Below.refl _ _).alloc (Nat.le_refl _) _) (Nat.le_refl _))
  have HRE : Hid (RowBlk 31 (w.alloc (.cells (repVs (.slice aoE r.evs.length capE) gw r).toArray 31)) w.heap.size (repVs (.slice aoE r.evs.length capE) gw r)) := Lib.hid (RowBlk.new _ _ _)
  have HB3 : Hid (Below w.heap.size w (w.alloc (.cells (repVs (.slice aoE r.evs.length capE) gw r).toArray 31))) := Lib.hid ((Below.refl _ _).alloc (Nat.le_refl _) _)
  clear hao hev hm
  rw [show (repVs (.slice aoE r.evs.length capE) gw r).toArray = #[.slice aoE r.evs.length capE, .slice (some ⟨gw, 0, none⟩) r.ws.length r.ws.length, .int .i64 (r.cn.r : Int), .int .i64 (r.cn.w : Int), .int .i64 (r.cn.s : Int), .int .i64 (r.cn.a : Int), .int .i64 (r.cn.f : Int), .int .i64 (r.ticks : Int), .int .i64 (r.idle : Int)] from rfl] at HEV HRE HB3 ⊢
  go_enter Try.func17, Try.ntmps17
  go_wp2_with fail
  generalize w.alloc (.cells #[.slice aoE r.evs.length capE, .slice (some ⟨gw, 0, none⟩) r.ws.length r.ws.length, .int .i64 (r.cn.r : Int), .int .i64 (r.cn.w : Int), .int .i64 (r.cn.s : Int), .int .i64 (r.cn.a : Int), .int .i64 (r.cn.f : Int), .int .i64 (r.ticks : Int), .int .i64 (r.idle : Int)] 31) = w0 at HEV HRE HB3 ⊢
  go_loopw [9] (fun kv wr => ∃ (j : Nat), j ≤ r.evs.length ∧ kv = .int .i64 j ∧ Hid (Below w0.heap.size w0 wr)) (fun kv _ => r.evs.length - (intOf kv).toNat)
  case atStart => exact ⟨0, Nat.zero_le _, rfl, Lib.hid (Below.refl _ _)⟩
  case round =>
    obtain ⟨j, hj, rfl, hBr⟩ := hrel
    by_cases hlt : j < r.evs.length
    · obtain rfl := HAO.out (by omega)
      obtain ⟨x, hx⟩ : ∃ x, r.evs[j]? = some x := ⟨r.evs[j], List.getElem?_eq_getElem (by omega)⟩
      have hst := HMO.out x (List.mem_of_getElem? hx)
      obtain ⟨_, la, ka, lc, kc, hv⟩ := (HEV.out.below hBr.out (Nat.le_refl _)) j x hx
      have v3 := hv.c3
      have r0 : wr.cell? ⟨w.heap.size, 0, none⟩ = some (.slice (some ⟨gE, 0, none⟩) r.evs.length capE) := (HRE.out.same (hBr.out.block _ HRE.out.lt)).cell rfl
      have hi0 : (0 : Int) ≤ (j : Int) := Int.natCast_nonneg _
      have hi1 : (j : Int) < (r.evs.length : Int) := by omega
      have b1 : ¬ (m : Int) < (x.steps : Int) := by omega
      clear hv hx
      go_wp2_with fail
      go_roundw
      case rel => exact ⟨j + 1, by omega, by go_num, hBr⟩
      case measure => simp [intOf]; omega
    · have hjn : ¬ (j : Int) < (r.evs.length : Int) := by omega
      go_wp2_with fail
      go_ret
      exact ⟨rfl, HB3.out.trans (hBr.out.mono HB3.out.size)⟩
set_option maxRecDepth 100000 in
set_option maxHeartbeats 8000000 in
theorem between_yes (cs : List CallV) (r : RepR) (aoE : Option Addr) (gE capE gw : Nat) (ao : Option Addr) (b o cap B : Nat) (w : World) (hA : BetweenOk cs r.evs) (hao : 0 < r.evs.length → aoE = some ⟨gE, 0, none⟩) (hev : EvAllG B w gE r.evs) (hc : CallsAt w b o cs) (ha : 0 < cs.length → ao = some ⟨b, o, none⟩)
    (hcl : cs.length ≤ 9223372036854775807) (hel : r.evs.length ≤ 70000) :
    Calls Try.prog 16 #[.agg (repVs (.slice aoE r.evs.length capE) gw r).toArray, .slice ao cs.length cap] w fun e w' => e = .returned (.bool true) ∧ Below w.heap.size w w' := by
  have hbl : ∀ h0 : 0 < cs.length, b < w.heap.size := fun h0 => by
    obtain ⟨x, hx⟩ : ∃ x, cs[0]? = some x := ⟨cs[0], List.getElem?_eq_getElem h0⟩
    exact World.block_lt_of_cell? w ⟨b, _, none⟩ (hc 0 x hx).1
  have HAO := Lib.hid hao
  have HAG := Lib.hid hA
  have HA := Lib.hid ha
  have HEV : Hid (EvAllG B (w.alloc (.cells (repVs (.slice aoE r.evs.length capE) gw r).toArray 31)) gE r.evs) := Lib.hid (hev.below ((Below.refl _ _).alloc (Nat.le_refl _) _) (Nat.le_refl _))
  have HRE : Hid (RowBlk 31 (w.alloc (.cells (repVs (.slice aoE r.evs.length capE) gw r).toArray 31)) w.heap.size (repVs (.slice aoE r.evs.length capE) gw r)) := Lib.hid (RowBlk.new _ _ _)
  have HB3 : Hid (Below w.heap.size w (w.alloc (.cells (repVs (.slice aoE r.evs.length capE) gw r).toArray 31))) := Lib.hid ((Below.refl _ _).alloc (Nat.le_refl _) _)
  have HCW : Hid (∀ W, Below w.heap.size w W → CallsAt W b o cs) := Lib.hid (fun W hW => hc.stays hW hbl)
  clear hao hev hA hc ha hbl
  rw [show (repVs (.slice aoE r.evs.length capE) gw r).toArray = #[.slice aoE r.evs.length capE, .slice (some ⟨gw, 0, none⟩) r.ws.length r.ws.length, .int .i64 (r.cn.r : Int), .int .i64 (r.cn.w : Int), .int .i64 (r.cn.s : Int), .int .i64 (r.cn.a : Int), .int .i64 (r.cn.f : Int), .int .i64 (r.ticks : Int), .int .i64 (r.idle : Int)] from rfl] at HEV HRE HB3 ⊢
  go_enter Try.func16, Try.ntmps16
  go_wp2_with fail
  generalize w.alloc (.cells #[.slice aoE r.evs.length capE, .slice (some ⟨gw, 0, none⟩) r.ws.length r.ws.length, .int .i64 (r.cn.r : Int), .int .i64 (r.cn.w : Int), .int .i64 (r.cn.s : Int), .int .i64 (r.cn.a : Int), .int .i64 (r.cn.f : Int), .int .i64 (r.ticks : Int), .int .i64 (r.idle : Int)] 31) = w0 at HEV HRE HB3 ⊢
  have HCALL : Hid (∀ W, Below w0.heap.size w0 W → CallsAt W b o cs) := Lib.hid (fun W hW => HCW.out W (HB3.out.trans (hW.mono HB3.out.size)))
  go_loopw [15] (fun kv wr => ∃ (j : Nat), j ≤ r.evs.length ∧ kv = .int .i64 j ∧ Hid (Below w0.heap.size w0 wr)) (fun kv _ => r.evs.length - (intOf kv).toNat)
  case atStart => exact ⟨0, Nat.zero_le _, rfl, Lib.hid (Below.refl _ _)⟩
  case round =>
    obtain ⟨j, hj, rfl, hBr⟩ := hrel
    have z0 := hBr.out.size
    by_cases hlt : j < r.evs.length
    · obtain rfl := HAO.out (by omega)
      obtain ⟨x, hx⟩ : ∃ x, r.evs[j]? = some x := ⟨r.evs[j], List.getElem?_eq_getElem (by omega)⟩
      have hxm := List.mem_of_getElem? hx
      have hb1 := HAG.out.1 x hxm
      obtain ⟨y, hy⟩ : ∃ y, cs[x.i]? = some y := ⟨cs[x.i], List.getElem?_eq_getElem hb1⟩
      have HXM := Lib.hid hxm
      have HY := Lib.hid hy
      obtain ⟨hgB, la, ka, lc, kc, hv⟩ := (HEV.out.below hBr.out (Nat.le_refl _)) j x hx
      have v0 := hv.c0
      have v1 := hv.c1
      have v2 := hv.c2
      have v3 := hv.c3
      have v4 := hv.c4
      have v5 := hv.c5
      have v6 := hv.c6
      have v7 := hv.c7
      have hgl := World.block_lt_of_cell? wr ⟨gE, j * 8, none⟩ v0
      have r0 : wr.cell? ⟨w.heap.size, 0, none⟩ = some (.slice (some ⟨gE, 0, none⟩) r.evs.length capE) := (HRE.out.same (hBr.out.block _ HRE.out.lt)).cell rfl
      obtain rfl := HA.out (by omega)
      obtain ⟨c0, c1, c2, c3, c4, c5, _⟩ := HCALL.out wr hBr.out x.i y hy
      have hi0 : (0 : Int) ≤ (j : Int) := Int.natCast_nonneg _
      have hi1 : (j : Int) < (r.evs.length : Int) := by omega
      have hk0 : (0 : Int) ≤ (x.i : Int) := Int.natCast_nonneg _
      have hk1 : (x.i : Int) < (cs.length : Int) := by omega
      have b1 : ¬ (x.i : Int) < 0 := by omega
      have b2 : ¬ (cs.length : Int) ≤ (x.i : Int) := by omega
      have hrl := HRE.out.lt
      have nr2 : w.heap.size < wr.heap.size := by omega
      have hbl : b < wr.heap.size := World.block_lt_of_cell? wr ⟨b, o + x.i * 6, none⟩ c0
      clear hv hx hy hxm
      by_cases q1 : y.o = 0
      · rw [q1] at c1
        by_cases q2 : y.k = 1
        · rw [q2] at c2
          by_cases h1 : x.resp = 0
          · have v2' : wr.cell? ⟨gE, j * 8 + 2, none⟩ = some (.int .i64 0) := by rw [h1] at v2; exact v2
            clear v2 h1 q1 q2
            go_wp2_with fail
            go_roundw
            case rel => exact ⟨j + 1, by omega, by go_num, Lib.hid ((hBr.out.alloc z0 _).alloc (by simp; omega) _)⟩
            case measure => simp [intOf]; omega
          · have h1' : ¬ (x.resp : Int) = 0 := by omega
            have h1a : ((x.resp : Int) == 0) = false := by rw [beq_eq_false_iff_ne]; exact h1'
            by_cases h2 : x.ans.err = 0
            · have v4' : wr.cell? ⟨gE, j * 8 + 4, none⟩ = some (.int .i64 0) := by rw [h2] at v4; exact v4
              have HEX : Hid (BetweenE cs r.evs x) := Lib.hid (HAG.out.2 x HXM.out y HY.out q1 q2 h1 h2)
              clear v4
              have v4 := v4'
              clear v4' h1 h2 q1 q2
              go_wp2_with fail
              have HXR : Hid (RowBlk 47 ((wr.alloc (.cells #[.int .i64 (x.i : Int), .int .i64 (x.inv : Int), .int .i64 (x.resp : Int), .int .i64 (x.steps : Int), .int .i64 0, .int .u64 (x.ans.val : Int), .slice la x.ans.list.length lc, .slice ka x.key.length kc] 47)).alloc (.cells #[.int .i64 y.t, .int .i64 0, .int .i64 1, .int .u64 (y.a : Int), .int .u64 (y.b : Int), .int .u64 (y.c : Int)] 49)) wr.heap.size [.int .i64 (x.i : Int), .int .i64 (x.inv : Int), .int .i64 (x.resp : Int), .int .i64 (x.steps : Int), .int .i64 (0), .int .u64 (x.ans.val : Int), .slice la x.ans.list.length lc, .slice ka x.key.length kc]) := Lib.hid ((RowBlk.new _ _ _).alloc _)
              have HBx : Hid (Below w0.heap.size w0 ((wr.alloc (.cells #[.int .i64 (x.i : Int), .int .i64 (x.inv : Int), .int .i64 (x.resp : Int), .int .i64 (x.steps : Int), .int .i64 0, .int .u64 (x.ans.val : Int), .slice la x.ans.list.length lc, .slice ka x.key.length kc] 47)).alloc (.cells #[.int .i64 y.t, .int .i64 0, .int .i64 1, .int .u64 (y.a : Int), .int .u64 (y.b : Int), .int .u64 (y.c : Int)] 49))) := Lib.hid ((hBr.out.alloc z0 _).alloc (by simp; omega) _)
              have hsx : ((wr.alloc (.cells #[.int .i64 (x.i : Int), .int .i64 (x.inv : Int), .int .i64 (x.resp : Int), .int .i64 (x.steps : Int), .int .i64 0, .int .u64 (x.ans.val : Int), .slice la x.ans.list.length lc, .slice ka x.key.length kc] 47)).alloc (.cells #[.int .i64 y.t, .int .i64 0, .int .i64 1, .int .u64 (y.a : Int), .int .u64 (y.b : Int), .int .u64 (y.c : Int)] 49)).heap.size = wr.heap.size + 2 := by simp
              have HSX := Lib.hid hsx
              generalize (wr.alloc (.cells #[.int .i64 (x.i : Int), .int .i64 (x.inv : Int), .int .i64 (x.resp : Int), .int .i64 (x.steps : Int), .int .i64 0, .int .u64 (x.ans.val : Int), .slice la x.ans.list.length lc, .slice ka x.key.length kc] 47)).alloc (.cells #[.int .i64 y.t, .int .i64 0, .int .i64 1, .int .u64 (y.a : Int), .int .u64 (y.b : Int), .int .u64 (y.c : Int)] 49) = wx at HXR HBx HSX ⊢
              generalize wr.heap.size = N0 at *
              clear hsx v0 v1 v2 v3 v4 v5 v6 v7 c0 c1 c2 c3 c4 c5 r0
              go_loopw [8, 9, 60] (fun dv cv kv wq => ∃ (j2 d c : Nat), j2 ≤ r.evs.length ∧ kv = .int .i64 j2 ∧ dv = .int .u64 d ∧ cv = .int .u64 c ∧ Hid (d = (r.evs.take j2).countP (doneB cs x)) ∧ Hid (c = (r.evs.take j2).countP (begunB cs x)) ∧ Hid (Below wx.heap.size wx wq)) (fun _ _ kv _ => r.evs.length - (intOf kv).toNat)
              case atStart => exact ⟨0, 0, 0, Nat.zero_le _, rfl, rfl, rfl, Lib.hid rfl, Lib.hid rfl, Lib.hid (Below.refl _ _)⟩
              case round =>
                obtain ⟨j2, d, c, hj2, rfl, rfl, rfl, hC, hC2, hBq⟩ := hrel
                have zq := hBq.out.size
                have zx := HSX.out
                have hxr := HXR.out.same (hBq.out.block _ HXR.out.lt)
                have x1 : wr.cell? ⟨N0, 1, none⟩ = some (.int .i64 (x.inv : Int)) := hxr.cell rfl
                have x2 : wr.cell? ⟨N0, 2, none⟩ = some (.int .i64 (x.resp : Int)) := hxr.cell rfl
                have x5 : wr.cell? ⟨N0, 5, none⟩ = some (.int .u64 (x.ans.val : Int)) := hxr.cell rfl
                have nx : N0 < wr.heap.size := hxr.lt
                have HBQ : Hid (Below w0.heap.size w0 wr) := Lib.hid (HBx.out.trans (hBq.out.mono (by omega)))
                clear hxr
                by_cases hlt2 : j2 < r.evs.length
                · obtain ⟨u, hu⟩ : ∃ u, r.evs[j2]? = some u := ⟨r.evs[j2], List.getElem?_eq_getElem (by omega)⟩
                  have hum := List.mem_of_getElem? hu
                  have hub := HAG.out.1 u hum
                  obtain ⟨z, hz⟩ : ∃ z, cs[u.i]? = some z := ⟨cs[u.i], List.getElem?_eq_getElem hub⟩
                  have HU := Lib.hid hu
                  have HUM := Lib.hid hum
                  have HZ := Lib.hid hz
                  obtain ⟨_, la2, ka2, lc2, kc2, hv⟩ := (HEV.out.below HBQ.out (Nat.le_refl _)) j2 u hu
                  have u0 := hv.c0
                  have u1 := hv.c1
                  have u2 := hv.c2
                  have u3 := hv.c3
                  have u4 := hv.c4
                  have u5 := hv.c5
                  have u6 := hv.c6
                  have u7 := hv.c7
                  have r0 : wr.cell? ⟨w.heap.size, 0, none⟩ = some (.slice (some ⟨gE, 0, none⟩) r.evs.length capE) := (HRE.out.same (HBQ.out.block _ HRE.out.lt)).cell rfl
                  obtain ⟨c0, c1, c2, c3, c4, c5, _⟩ := HCALL.out wr HBQ.out u.i z hz
                  have ki0 : (0 : Int) ≤ (j2 : Int) := Int.natCast_nonneg _
                  have ki1 : (j2 : Int) < (r.evs.length : Int) := by omega
                  have kk0 : (0 : Int) ≤ (u.i : Int) := Int.natCast_nonneg _
                  have kk1 : (u.i : Int) < (cs.length : Int) := by omega
                  have kb1 : ¬ (u.i : Int) < 0 := by omega
                  have kb2 : ¬ (cs.length : Int) ≤ (u.i : Int) := by omega
                  have m1 : gE < wr.heap.size := World.block_lt_of_cell? wr ⟨gE, j2 * 8, none⟩ u0
                  have m2 : b < wr.heap.size := World.block_lt_of_cell? wr ⟨b, o + u.i * 6, none⟩ c0
                  have m3 : w.heap.size < wr.heap.size := World.block_lt_of_cell? wr ⟨w.heap.size, 0, none⟩ r0
                  have hd70 : d ≤ 70000 := by rw [hC.out]; exact Nat.le_trans (cnt_le _ _ _) hel
                  have hc70 : c ≤ 70000 := by rw [hC2.out]; exact Nat.le_trans (cnt_le _ _ _) hel
                  clear hv hu hz hum
                  by_cases he0 : u.ans.err = 0
                  · have u4' : wr.cell? ⟨gE, j2 * 8 + 4, none⟩ = some (.int .i64 0) := by rw [he0] at u4; exact u4
                    clear u4
                    by_cases p1 : z.o = 0
                    · rw [p1] at c1
                      by_cases p2 : z.k = 0
                      · rw [p2] at c2
                        by_cases g1 : u.resp = 0
                        · have u2' : wr.cell? ⟨gE, j2 * 8 + 2, none⟩ = some (.int .i64 0) := by rw [g1] at u2; exact u2
                          clear u2
                          by_cases hin : u.inv < x.resp
                          · have hina : (u.inv : Int) < (x.resp : Int) := by omega
                            have HD : Hid (doneB cs x u = false) := Lib.hid (by rw [doneB_eq HZ.out, decide_eq_true he0, decide_eq_true (show z.o = 0 ∧ z.k = 0 from ⟨p1, p2⟩), decide_eq_false (show ¬ (¬ u.resp = 0 ∧ u.resp < x.inv) by omega)]; rfl)
                            have HBG : Hid (begunB cs x u = true) := Lib.hid (by rw [begunB_eq HZ.out, decide_eq_true he0, decide_eq_true (show z.o = 0 ∧ z.k = 0 from ⟨p1, p2⟩), decide_eq_true hin]; rfl)
                            clear g1 p1 p2 hin he0
                            go_wp2_with fail
                            go_roundw
                            case rel => exact ⟨j2 + 1, d, c + 1, by omega, by go_num, rfl, by go_num, Lib.hid (by rw [cnt_snoc HU.out, HD.out, ← hC.out]; rfl), Lib.hid (by rw [cnt_snoc HU.out, HBG.out, ← hC2.out]; rfl), Lib.hid (hBq.out.alloc zq _)⟩
                            case measure => simp [intOf]; omega
                          · have hina : ¬ (u.inv : Int) < (x.resp : Int) := by omega
                            have HD : Hid (doneB cs x u = false) := Lib.hid (by rw [doneB_eq HZ.out, decide_eq_true he0, decide_eq_true (show z.o = 0 ∧ z.k = 0 from ⟨p1, p2⟩), decide_eq_false (show ¬ (¬ u.resp = 0 ∧ u.resp < x.inv) by omega)]; rfl)
                            have HBG : Hid (begunB cs x u = false) := Lib.hid (by rw [begunB_eq HZ.out, decide_eq_true he0, decide_eq_true (show z.o = 0 ∧ z.k = 0 from ⟨p1, p2⟩), decide_eq_false hin]; rfl)
                            clear g1 p1 p2 hin he0
                            go_wp2_with fail
                            go_roundw
                            case rel => exact ⟨j2 + 1, d, c, by omega, by go_num, rfl, rfl, Lib.hid (by rw [cnt_snoc HU.out, HD.out, ← hC.out]; rfl), Lib.hid (by rw [cnt_snoc HU.out, HBG.out, ← hC2.out]; rfl), Lib.hid (hBq.out.alloc zq _)⟩
                            case measure => simp [intOf]; omega
                        · have g1' : ¬ (u.resp : Int) = 0 := by omega
                          have g1a : ((u.resp : Int) != 0) = true := by rw [bne_iff_ne]; exact g1'
                          have g1b : ((u.resp : Int) == 0) = false := by rw [beq_eq_false_iff_ne]; exact g1'
                          by_cases g2 : u.resp < x.inv
                          · have g2a : (u.resp : Int) < (x.inv : Int) := by omega
                            by_cases hin : u.inv < x.resp
                            · have hina : (u.inv : Int) < (x.resp : Int) := by omega
                              have HD : Hid (doneB cs x u = true) := Lib.hid (by rw [doneB_eq HZ.out, decide_eq_true he0, decide_eq_true (show z.o = 0 ∧ z.k = 0 from ⟨p1, p2⟩), decide_eq_true (show ¬ u.resp = 0 ∧ u.resp < x.inv from ⟨g1, g2⟩)]; rfl)
                              have HBG : Hid (begunB cs x u = true) := Lib.hid (by rw [begunB_eq HZ.out, decide_eq_true he0, decide_eq_true (show z.o = 0 ∧ z.k = 0 from ⟨p1, p2⟩), decide_eq_true hin]; rfl)
                              clear g1 p1 p2 hin he0
                              go_wp2_with fail
                              go_roundw
                              case rel => exact ⟨j2 + 1, d + 1, c + 1, by omega, by go_num, by go_num, by go_num, Lib.hid (by rw [cnt_snoc HU.out, HD.out, ← hC.out]; rfl), Lib.hid (by rw [cnt_snoc HU.out, HBG.out, ← hC2.out]; rfl), Lib.hid (hBq.out.alloc zq _)⟩
                              case measure => simp [intOf]; omega
                            · have hina : ¬ (u.inv : Int) < (x.resp : Int) := by omega
                              have HD : Hid (doneB cs x u = true) := Lib.hid (by rw [doneB_eq HZ.out, decide_eq_true he0, decide_eq_true (show z.o = 0 ∧ z.k = 0 from ⟨p1, p2⟩), decide_eq_true (show ¬ u.resp = 0 ∧ u.resp < x.inv from ⟨g1, g2⟩)]; rfl)
                              have HBG : Hid (begunB cs x u = false) := Lib.hid (by rw [begunB_eq HZ.out, decide_eq_true he0, decide_eq_true (show z.o = 0 ∧ z.k = 0 from ⟨p1, p2⟩), decide_eq_false hin]; rfl)
                              clear g1 p1 p2 hin he0
                              go_wp2_with fail
                              go_roundw
                              case rel => exact ⟨j2 + 1, d + 1, c, by omega, by go_num, by go_num, rfl, Lib.hid (by rw [cnt_snoc HU.out, HD.out, ← hC.out]; rfl), Lib.hid (by rw [cnt_snoc HU.out, HBG.out, ← hC2.out]; rfl), Lib.hid (hBq.out.alloc zq _)⟩
                              case measure => simp [intOf]; omega
                          · have g2a : ¬ (u.resp : Int) < (x.inv : Int) := by omega
                            have g2b : decide ((u.resp : Int) < (x.inv : Int)) = false := decide_eq_false g2a
                            by_cases hin : u.inv < x.resp
                            · have hina : (u.inv : Int) < (x.resp : Int) := by omega
                              have HD : Hid (doneB cs x u = false) := Lib.hid (by rw [doneB_eq HZ.out, decide_eq_true he0, decide_eq_true (show z.o = 0 ∧ z.k = 0 from ⟨p1, p2⟩), decide_eq_false (show ¬ (¬ u.resp = 0 ∧ u.resp < x.inv) by omega)]; rfl)
                              have HBG : Hid (begunB cs x u = true) := Lib.hid (by rw [begunB_eq HZ.out, decide_eq_true he0, decide_eq_true (show z.o = 0 ∧ z.k = 0 from ⟨p1, p2⟩), decide_eq_true hin]; rfl)
                              clear g1 p1 p2 hin he0
                              go_wp2_with fail
                              go_roundw
                              case rel => exact ⟨j2 + 1, d, c + 1, by omega, by go_num, rfl, by go_num, Lib.hid (by rw [cnt_snoc HU.out, HD.out, ← hC.out]; rfl), Lib.hid (by rw [cnt_snoc HU.out, HBG.out, ← hC2.out]; rfl), Lib.hid (hBq.out.alloc zq _)⟩
                              case measure => simp [intOf]; omega
                            · have hina : ¬ (u.inv : Int) < (x.resp : Int) := by omega
                              have HD : Hid (doneB cs x u = false) := Lib.hid (by rw [doneB_eq HZ.out, decide_eq_true he0, decide_eq_true (show z.o = 0 ∧ z.k = 0 from ⟨p1, p2⟩), decide_eq_false (show ¬ (¬ u.resp = 0 ∧ u.resp < x.inv) by omega)]; rfl)
                              have HBG : Hid (begunB cs x u = false) := Lib.hid (by rw [begunB_eq HZ.out, decide_eq_true he0, decide_eq_true (show z.o = 0 ∧ z.k = 0 from ⟨p1, p2⟩), decide_eq_false hin]; rfl)
                              clear g1 p1 p2 hin he0
                              go_wp2_with fail
                              go_roundw
                              case rel => exact ⟨j2 + 1, d, c, by omega, by go_num, rfl, rfl, Lib.hid (by rw [cnt_snoc HU.out, HD.out, ← hC.out]; rfl), Lib.hid (by rw [cnt_snoc HU.out, HBG.out, ← hC2.out]; rfl), Lib.hid (hBq.out.alloc zq _)⟩
                              case measure => simp [intOf]; omega
                      · by_cases p3 : z.k = 1
                        · rw [p3] at c2
                          have p2 := p3
                          by_cases g1 : u.resp = 0
                          · have u2' : wr.cell? ⟨gE, j2 * 8 + 2, none⟩ = some (.int .i64 0) := by rw [g1] at u2; exact u2
                            clear u2
                            have HD : Hid (doneB cs x u = false) := Lib.hid (by rw [doneB_eq HZ.out, decide_eq_false (show ¬ (z.o = 0 ∧ z.k = 0) by omega), Bool.and_false, Bool.false_and])
                            have HBG : Hid (begunB cs x u = false) := Lib.hid (by rw [begunB_eq HZ.out, decide_eq_false (show ¬ (z.o = 0 ∧ z.k = 0) by omega), Bool.and_false, Bool.false_and])
                            clear g1 p1 p2
                            go_wp2_with fail
                            go_roundw
                            case rel => exact ⟨j2 + 1, d, c, by omega, by go_num, rfl, rfl, Lib.hid (by rw [cnt_snoc HU.out, HD.out, ← hC.out]; rfl), Lib.hid (by rw [cnt_snoc HU.out, HBG.out, ← hC2.out]; rfl), Lib.hid (hBq.out.alloc zq _)⟩
                            case measure => simp [intOf]; omega
                          · have g1' : ¬ (u.resp : Int) = 0 := by omega
                            have g1a : ((u.resp : Int) != 0) = true := by rw [bne_iff_ne]; exact g1'
                            have g1b : ((u.resp : Int) == 0) = false := by rw [beq_eq_false_iff_ne]; exact g1'
                            by_cases g2 : u.resp < x.inv
                            · have hri := HEX.out.reads u HUM.out z HZ.out p1 p2 he0 g1 g2
                              have g3 : ¬ (x.ans.val : Int) < (u.ans.val : Int) := by omega
                              have g2a : (u.resp : Int) < (x.inv : Int) := by omega
                              have HD : Hid (doneB cs x u = false) := Lib.hid (by rw [doneB_eq HZ.out, decide_eq_false (show ¬ (z.o = 0 ∧ z.k = 0) by omega), Bool.and_false, Bool.false_and])
                              have HBG : Hid (begunB cs x u = false) := Lib.hid (by rw [begunB_eq HZ.out, decide_eq_false (show ¬ (z.o = 0 ∧ z.k = 0) by omega), Bool.and_false, Bool.false_and])
                              clear g1 p1 p2
                              go_wp2_with fail
                              go_roundw
                              case rel => exact ⟨j2 + 1, d, c, by omega, by go_num, rfl, rfl, Lib.hid (by rw [cnt_snoc HU.out, HD.out, ← hC.out]; rfl), Lib.hid (by rw [cnt_snoc HU.out, HBG.out, ← hC2.out]; rfl), Lib.hid (hBq.out.alloc zq _)⟩
                              case measure => simp [intOf]; omega
                            · have g2a : ¬ (u.resp : Int) < (x.inv : Int) := by omega
                              have g2b : decide ((u.resp : Int) < (x.inv : Int)) = false := decide_eq_false g2a
                              have HD : Hid (doneB cs x u = false) := Lib.hid (by rw [doneB_eq HZ.out, decide_eq_false (show ¬ (z.o = 0 ∧ z.k = 0) by omega), Bool.and_false, Bool.false_and])
                              have HBG : Hid (begunB cs x u = false) := Lib.hid (by rw [begunB_eq HZ.out, decide_eq_false (show ¬ (z.o = 0 ∧ z.k = 0) by omega), Bool.and_false, Bool.false_and])
                              clear g1 p1 p2
                              go_wp2_with fail
                              go_roundw
                              case rel => exact ⟨j2 + 1, d, c, by omega, by go_num, rfl, rfl, Lib.hid (by rw [cnt_snoc HU.out, HD.out, ← hC.out]; rfl), Lib.hid (by rw [cnt_snoc HU.out, HBG.out, ← hC2.out]; rfl), Lib.hid (hBq.out.alloc zq _)⟩
                              case measure => simp [intOf]; omega
                        · have p2b : (z.k == 0) = false := by simpa using p2
                          have p2c : decide (z.k = 0) = false := decide_eq_false p2
                          have p2d : (z.k != 0) = true := by simpa using p2
                          have p3b : (z.k == 1) = false := by simpa using p3
                          have p3c : decide (z.k = 1) = false := decide_eq_false p3
                          have p3d : (z.k != 1) = true := by simpa using p3
                          have HD : Hid (doneB cs x u = false) := Lib.hid (by rw [doneB_eq HZ.out, decide_eq_false (show ¬ (z.o = 0 ∧ z.k = 0) by omega), Bool.and_false, Bool.false_and])
                          have HBG : Hid (begunB cs x u = false) := Lib.hid (by rw [begunB_eq HZ.out, decide_eq_false (show ¬ (z.o = 0 ∧ z.k = 0) by omega), Bool.and_false, Bool.false_and])
                          go_wp2_with fail
                          go_roundw
                          case rel => exact ⟨j2 + 1, d, c, by omega, by go_num, rfl, rfl, Lib.hid (by rw [cnt_snoc HU.out, HD.out, ← hC.out]; rfl), Lib.hid (by rw [cnt_snoc HU.out, HBG.out, ← hC2.out]; rfl), Lib.hid (hBq.out.alloc zq _)⟩
                          case measure => simp [intOf]; omega
                    · have p1b : (z.o == 0) = false := by simpa using p1
                      have p1c : decide (z.o = 0) = false := decide_eq_false p1
                      have p1d : (z.o != 0) = true := by simpa using p1
                      have HD : Hid (doneB cs x u = false) := Lib.hid (by rw [doneB_eq HZ.out, decide_eq_false (show ¬ (z.o = 0 ∧ z.k = 0) by omega), Bool.and_false, Bool.false_and])
                      have HBG : Hid (begunB cs x u = false) := Lib.hid (by rw [begunB_eq HZ.out, decide_eq_false (show ¬ (z.o = 0 ∧ z.k = 0) by omega), Bool.and_false, Bool.false_and])
                      go_wp2_with fail
                      go_roundw
                      case rel => exact ⟨j2 + 1, d, c, by omega, by go_num, rfl, rfl, Lib.hid (by rw [cnt_snoc HU.out, HD.out, ← hC.out]; rfl), Lib.hid (by rw [cnt_snoc HU.out, HBG.out, ← hC2.out]; rfl), Lib.hid (hBq.out.alloc zq _)⟩
                      case measure => simp [intOf]; omega
                  · have e1 : ¬ (u.ans.err : Int) = 0 := by omega
                    have e2 : ((u.ans.err : Int) == 0) = false := by simpa using he0
                    have e3 : ((u.ans.err : Int) != 0) = true := by simpa using he0
                    have e4 : decide ((u.ans.err : Int) = 0) = false := decide_eq_false e1
                    have e5 : decide ((u.ans.err : Int) ≠ 0) = true := decide_eq_true e1
                    have HD : Hid (doneB cs x u = false) := Lib.hid (by rw [doneB_eq HZ.out, decide_eq_false he0, Bool.false_and, Bool.false_and])
                    have HBG : Hid (begunB cs x u = false) := Lib.hid (by rw [begunB_eq HZ.out, decide_eq_false he0, Bool.false_and, Bool.false_and])
                    go_wp2_with fail
                    go_roundw
                    case rel => exact ⟨j2 + 1, d, c, by omega, by go_num, rfl, rfl, Lib.hid (by rw [cnt_snoc HU.out, HD.out, ← hC.out]; rfl), Lib.hid (by rw [cnt_snoc HU.out, HBG.out, ← hC2.out]; rfl), Lib.hid (hBq.out.alloc zq _)⟩
                    case measure => simp [intOf]; omega
                · have hjn : ¬ (j2 : Int) < (r.evs.length : Int) := by omega
                  have hdd : d = r.evs.countP (doneB cs x) := by rw [hC.out, List.take_of_length_le (by omega)]
                  have hcc : c = r.evs.countP (begunB cs x) := by rw [hC2.out, List.take_of_length_le (by omega)]
                  have hlo := HEX.out.lo
                  have hhi := HEX.out.hi
                  rw [← hcc] at hhi
                  rw [← hdd] at hlo
                  have f1 : ¬ (x.ans.val : Int) < (d : Int) := by omega
                  have f2 : ¬ (c : Int) < (x.ans.val : Int) := by omega
                  clear hcc hlo hhi hdd
                  go_wp2_with fail
                  go_roundw
                  case rel => exact ⟨j + 1, by omega, by go_num, HBQ⟩
                  case measure => simp [intOf]; omega
            · have e1 : ¬ (x.ans.err : Int) = 0 := by omega
              have e2 : ((x.ans.err : Int) == 0) = false := by simpa using h2
              have e3 : ((x.ans.err : Int) != 0) = true := by simpa using h2
              have e4 : decide ((x.ans.err : Int) = 0) = false := decide_eq_false e1
              have e5 : decide ((x.ans.err : Int) ≠ 0) = true := decide_eq_true e1
              clear h1 h2 q1 q2
              go_wp2_with fail
              go_roundw
              case rel => exact ⟨j + 1, by omega, by go_num, Lib.hid ((hBr.out.alloc z0 _).alloc (by simp; omega) _)⟩
              case measure => simp [intOf]; omega
        · have q2b : (y.k == 1) = false := by simpa using q2
          have q2c : decide (y.k = 1) = false := decide_eq_false q2
          have q2d : (y.k != 1) = true := by simpa using q2
          clear q1
          go_wp2_with fail
          go_roundw
          case rel => exact ⟨j + 1, by omega, by go_num, Lib.hid ((hBr.out.alloc z0 _).alloc (by simp; omega) _)⟩
          case measure => simp [intOf]; omega
      · have q1b : (y.o == 0) = false := by simpa using q1
        have q1c : decide (y.o = 0) = false := decide_eq_false q1
        have q1d : (y.o != 0) = true := by simpa using q1
        go_wp2_with fail
        go_roundw
        case rel => exact ⟨j + 1, by omega, by go_num, Lib.hid ((hBr.out.alloc z0 _).alloc (by simp; omega) _)⟩
        case measure => simp [intOf]; omega
    · have hjn : ¬ (j : Int) < (r.evs.length : Int) := by omega
      go_wp2_with fail
      go_ret
      exact ⟨rfl, HB3.out.trans (hBr.out.mono HB3.out.size)⟩
end Go.Proofs.Ytcedfcdhdgmelaa
