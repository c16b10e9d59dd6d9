/- Walk of the law PoolOnce. -/
import Derived.Test.YtebfkkgemccbfaaPO8
import Derived.Deep.CutRange
namespace Go.Proofs.Ytebfkkgemccbfaa
open Go.RowKit
set_option linter.unusedVariables false
set_option linter.unusedSimpArgs false
section
variable {P : Program} {Q : Exit → Act → World → Prop} {md : Region.Mode} {ops : Array Oper} {S : World → Prop}
theorem tkI {i : Nat} {oi : Oper} {v : Value} {fuel : Nat} {listed : Array Bool} {a : Act} {w : World} (hi : ops[i]? = some oi) (hy : YieldsIf P ops S oi v a) (hS : S w) (h : wpAnyH P md ops Q S fuel (listed.setIfInBounds i true) (a.put oi.dst v) w)
    (hs : Region.noSelect ops = true := by kernel_rfl) (hf : Region.free md ops listed i = true := by kernel_rfl) (hr : (Region.ready md ops listed).contains i = true := by kernel_rfl) (hQ : ∀ c a w, Q (.panic c) (a.put oi.dst v) w → Q (.panic c) a w := by exact fun _ _ _ h => h) : wpAnyH P md ops Q S (fuel + 1) listed a w :=
  wpAnyH_take hi hs hf hr hQ hy hS h
end
theorem any_snoc {evs : List EvR} {f : EvR → Bool} {y : EvR} {j : Nat} (h : evs[j]? = some y) : (evs.take (j + 1)).any f = ((evs.take j).any f || f y) := by
  rw [take_snoc h, List.any_append, List.any_cons, List.any_nil, Bool.or_false]
theorem any_of {evs : List EvR} {f : EvR → Bool} {y : EvR} {j : Nat} (h : evs[j]? = some y) (hf : f y = true) : evs.any f = true := List.any_eq_true.2 ⟨y, List.mem_of_getElem? h, hf⟩
def tkP (cs : List CallV) (r a : Nat) (v : EvR) : Bool := isB cs 0 v && (decide (v.resp < r) && decide (v.ans.val = a))
def gvP (cs : List CallV) (r a : Nat) (v : EvR) : Bool := isB cs 1 v && (decide (caC cs v.i = a) && decide (v.resp < r))
set_option maxRecDepth 100000 in
set_option maxHeartbeats 16000000 in
theorem ponce_good (n k : Nat) (ao : Option Addr) (b o cap : Nat) (cs : List CallV) (ao3 : Option Addr) (b3 o3 cap3 : Nat) (picks : List Int) (w : World) (hl : ¬ longB cs.length picks.length) (ha : 0 < cs.length → ao = some ⟨b, o, none⟩) (hb : 0 < cs.length → b < w.heap.size) (hc : CallsAt w b o cs) (hcap : ao = none → cap = 0)
    (ha3 : 0 < picks.length → ao3 = some ⟨b3, o3, none⟩) (hb3 : 0 < picks.length → b3 < w.heap.size) (hc3 : ICells w b3 o3 picks) (hnp : picks.length ≤ 9223372036854775807) (hcl : cs.length ≤ 9223372036854775807) (he : playErr (n : Int) cs picks.length (poolErr (k : Int)) = 0) (hk : 1 ≤ k ∧ k ≤ 32)
    (R : RepR) (hR : repOf (endM (M := poolM (n : Int).toNat (k : Int).toNat) cs (List.replicate (poolSz (n : Int) (k : Int)) 0) () picks) = R) (hA : OnceOk cs R.evs) (hel : R.evs.length ≤ 70000) :
    Calls Try.prog 5 #[.agg #[.int .i64 (n : Int), .int .i64 (k : Int)], .slice ao cs.length cap, .slice ao3 picks.length cap3] w fun e w' => e = .returned (.bool true) ∧ Below w.heap.size w w' := by
  have hw1 : Below w.heap.size w (w.alloc (.cells #[.int .i64 (n : Int), .int .i64 (k : Int)] 22)) := (Below.refl _ _).alloc (Nat.le_refl _) _
  have HP := Lib.hid (pool_play (n : Int) (k : Int) ao b o cap cs ao3 b3 o3 cap3 picks (w.alloc (.cells #[.int .i64 (n : Int), .int .i64 (k : Int)] 22)) ha (fun h => by have := hb h; simp; omega) (hc.stays hw1 hb) hcap ha3 (fun h => by have := hb3 h; simp; omega) (hc3.stays hw1 hb3) hnp)
  have HQ0 : Hid (RowBlk 22 (w.alloc (.cells #[.int .i64 (n : Int), .int .i64 (k : Int)] 22)) w.heap.size [.int .i64 (n : Int), .int .i64 (k : Int)]) := Lib.hid (RowBlk.new _ _ _)
  have HE := Lib.hid he
  have HL := Lib.hid hl
  have HA := Lib.hid ha
  have HB := Lib.hid hb
  have HC := Lib.hid hc
  have HAG := Lib.hid hA
  have HRR := Lib.hid hR
  have HW1 := Lib.hid hw1
  have k1 : ¬ (k : Int) < 1 := by omega
  have k2 : ¬ 32 < (k : Int) := by omega
  have hk1 := hk.1
  have hk2 := hk.2
  have hwk : IntKind.i64.wrap ((k : Int) + 1) = (k : Int) + 1 := by unfold IntKind.wrap; simp [IntKind.bits, IntKind.signed]; omega
  clear ha hb hc hcap ha3 hb3 hc3 he hl hA hR hw1 hk
  go_enter Try.func5, Try.ntmps5
  go_wp2_with fail
  refine (many_no _ _ _ _ _ _ _ hnp HL.out).mono ?_
  rintro e w1 ⟨rfl, rfl⟩
  go_wp2_with fail
  refine HP.out.mono ?_
  rintro e w2 hP
  have hG := hP.good HE.out
  rw [HRR.out] at hG
  obtain ⟨aoE, gE, capE, gw, rfl, hao, hev, hrw, hgw, hb2⟩ := hG
  have HAO := Lib.hid hao
  have z2 := hb2.size
  have z1 : (w.alloc (.cells #[.int .i64 (n : Int), .int .i64 (k : Int)] 22)).heap.size = w.heap.size + 1 := by simp
  have HEV : Hid (EvAllG (w.heap.size + 1) (w2.alloc (.cells (repVs (.slice aoE R.evs.length capE) gw R).toArray 32)) gE R.evs) := Lib.hid (by rw [← z1]; exact hev.below ((Below.refl _ _).alloc (Nat.le_refl _) _) (Nat.le_refl _))
  have HRE : Hid (RowBlk 32 (w2.alloc (.cells (repVs (.slice aoE R.evs.length capE) gw R).toArray 32)) w2.heap.size (repVs (.slice aoE R.evs.length capE) gw R)) := Lib.hid (RowBlk.new _ _ _)
  have HQB : Hid (RowBlk 22 (w2.alloc (.cells (repVs (.slice aoE R.evs.length capE) gw R).toArray 32)) w.heap.size [.int .i64 (n : Int), .int .i64 (k : Int)]) := Lib.hid ((HQ0.out.same (hb2.block _ HQ0.out.lt)).alloc _)
  have HB3 : Hid (Below w.heap.size w (w2.alloc (.cells (repVs (.slice aoE R.evs.length capE) gw R).toArray 32))) := Lib.hid ((HW1.out.trans (hb2.mono (by omega))).alloc (by omega) _)
  clear hP hb2 hev hrw hao HP
  unfold repVs
  rw [show (repVs (.slice aoE R.evs.length capE) gw R).toArray = #[.slice aoE R.evs.length capE, .slice (some ⟨gw, 0, none⟩) R.ws.length R.ws.length, .int .i64 (R.cn.r : Int), .int .i64 (R.cn.w : Int), .int .i64 (R.cn.s : Int), .int .i64 (R.cn.a : Int), .int .i64 (R.cn.f : Int), .int .i64 (R.ticks : Int), .int .i64 (R.idle : Int)] from rfl] at HEV HRE HB3 HQB
  obtain ⟨w0, hw0⟩ : ∃ w0, w2.alloc (.cells #[.slice aoE R.evs.length capE, .slice (some ⟨gw, 0, none⟩) R.ws.length R.ws.length, .int .i64 (R.cn.r : Int), .int .i64 (R.cn.w : Int), .int .i64 (R.cn.s : Int), .int .i64 (R.cn.a : Int), .int .i64 (R.cn.f : Int), .int .i64 (R.ticks : Int), .int .i64 (R.idle : Int)] 32) = w0 := ⟨_, rfl⟩
  rw [hw0] at HEV HRE HB3 HQB
  have q0k : (w2.alloc (.cells #[.slice aoE R.evs.length capE, .slice (some ⟨gw, 0, none⟩) R.ws.length R.ws.length, .int .i64 (R.cn.r : Int), .int .i64 (R.cn.w : Int), .int .i64 (R.cn.s : Int), .int .i64 (R.cn.a : Int), .int .i64 (R.cn.f : Int), .int .i64 (R.ticks : Int), .int .i64 (R.idle : Int)] 32)).cell? ⟨w.heap.size, 1, none⟩ = some (.int .i64 (k : Int)) := by rw [hw0]; exact HQB.out.cell rfl
  have HW0 := Lib.hid hw0
  clear hw0
  go_wp2_with fail
  rw [HW0.out] at q0k ⊢
  generalize Value.tuple #[.agg #[.slice aoE R.evs.length capE, .slice (some ⟨gw, 0, none⟩) R.ws.length R.ws.length, .int .i64 (R.cn.r : Int), .int .i64 (R.cn.w : Int), .int .i64 (R.cn.s : Int), .int .i64 (R.cn.a : Int), .int .i64 (R.cn.f : Int), .int .i64 (R.ticks : Int), .int .i64 (R.idle : Int)], .int .i64 0] = V1
  generalize (.agg #[.slice aoE R.evs.length capE, .slice (some ⟨gw, 0, none⟩) R.ws.length R.ws.length, .int .i64 (R.cn.r : Int), .int .i64 (R.cn.w : Int), .int .i64 (R.cn.s : Int), .int .i64 (R.cn.a : Int), .int .i64 (R.cn.f : Int), .int .i64 (R.ticks : Int), .int .i64 (R.idle : Int)] : Value) = V2
  have HCALL : Hid (∀ W, Below w0.heap.size w0 W → CallsAt W b o cs) := Lib.hid (fun W hW => HC.out.stays (HB3.out.trans (hW.mono HB3.out.size)) HB.out)
  have hqlt := HQB.out.lt
  clear q0k
  go_loopw [41] (fun kv wr => ∃ (j : Nat), j ≤ R.evs.length ∧ kv = .int .i64 j ∧ Hid (Below w0.heap.size w0 wr)) (fun kv _ => R.evs.length - (intOf kv).toNat)
  case atStart => exact ⟨0, Nat.zero_le _, rfl, Lib.hid (Below.refl _ _)⟩
  case round =>
    as_aux_lemma =>
      obtain ⟨j, hj, rfl, hBr⟩ := hrel
      by_cases hlt : j < R.evs.length
      · obtain rfl := HAO.out (by omega)
        obtain rfl := HA.out (by obtain ⟨x, hx⟩ : ∃ x, R.evs[j]? = some x := ⟨R.evs[j], List.getElem?_eq_getElem (by omega)⟩; have := HAG.out.call x (List.mem_of_getElem? hx); omega)
        obtain ⟨x, hx⟩ : ∃ x, R.evs[j]? = some x := ⟨R.evs[j], List.getElem?_eq_getElem (by omega)⟩
        have hxm := List.mem_of_getElem? hx
        have hxb := HAG.out.call x hxm
        obtain ⟨y, hy⟩ : ∃ y, cs[x.i]? = some y := ⟨cs[x.i], List.getElem?_eq_getElem hxb⟩
        have HUx := Lib.hid hx
        have HMx := Lib.hid hxm
        have HZx := Lib.hid hy
        obtain ⟨_, lax, kax, lcx, kcx, hvx⟩ := HEV.out j x hx
        have HFx : Hid (∀ W : World, Below w0.heap.size w0 W → W.cell? ⟨gE, j * 8, none⟩ = some (.int .i64 (x.i : Int)) ∧ W.cell? ⟨gE, j * 8 + 1, none⟩ = some (.int .i64 (x.inv : Int)) ∧ W.cell? ⟨gE, j * 8 + 2, none⟩ = some (.int .i64 (x.resp : Int)) ∧ W.cell? ⟨gE, j * 8 + 3, none⟩ = some (.int .i64 (x.steps : Int)) ∧ W.cell? ⟨gE, j * 8 + 4, none⟩ = some (.int .i64 (x.ans.err : Int)) ∧ W.cell? ⟨gE, j * 8 + 5, none⟩ = some (.int .u64 (x.ans.val : Int)) ∧ W.cell? ⟨gE, j * 8 + 6, none⟩ = some (.slice lax x.ans.list.length lcx) ∧ W.cell? ⟨gE, j * 8 + 7, none⟩ = some (.slice kax x.key.length kcx) ∧ W.cell? ⟨b, o + x.i * 6 + 3, none⟩ = some (.int .u64 (y.a : Int))) := Lib.hid (fun W hW => by
          have h2 := hvx.below hW
          obtain ⟨c0, c1, c2, c3, _⟩ := HCALL.out W hW x.i y hy
          exact ⟨h2.c0, h2.c1, h2.c2, h2.c3, h2.c4, h2.c5, h2.c6, h2.c7, c3⟩)
        obtain ⟨ax0, hax0⟩ : ∃ a, isB cs 0 x = a := ⟨_, rfl⟩
        have HIx0 : Hid (∀ W : World, Below w0.heap.size w0 W → Calls Try.prog 17 #[.slice (some ⟨b, o, none⟩) cs.length cap, .agg #[.int .i64 (x.i : Int), .int .i64 (x.inv : Int), .int .i64 (x.resp : Int), .int .i64 (x.steps : Int), .int .i64 (x.ans.err : Int), .int .u64 (x.ans.val : Int), .slice lax x.ans.list.length lcx, .slice kax x.key.length kcx], .int .i64 0] W fun e w' => e = .returned (.bool ax0) ∧ Below W.heap.size W w') := Lib.hid (fun W hW => by rw [← hax0]; exact is_any 0 x y lax kax x.ans.list.length lcx x.key.length kcx b o cap cs W (HCALL.out W hW) hy hcl)
        have HAx0 := Lib.hid hax0
        obtain ⟨ax1, hax1⟩ : ∃ a, isB cs 1 x = a := ⟨_, rfl⟩
        have HIx1 : Hid (∀ W : World, Below w0.heap.size w0 W → Calls Try.prog 17 #[.slice (some ⟨b, o, none⟩) cs.length cap, .agg #[.int .i64 (x.i : Int), .int .i64 (x.inv : Int), .int .i64 (x.resp : Int), .int .i64 (x.steps : Int), .int .i64 (x.ans.err : Int), .int .u64 (x.ans.val : Int), .slice lax x.ans.list.length lcx, .slice kax x.key.length kcx], .int .i64 1] W fun e w' => e = .returned (.bool ax1) ∧ Below W.heap.size W w') := Lib.hid (fun W hW => by rw [← hax1]; exact is_any 1 x y lax kax x.ans.list.length lcx x.key.length kcx b o cap cs W (HCALL.out W hW) hy hcl)
        have HAx1 := Lib.hid hax1
        have ix0 : (0 : Int) ≤ (j : Int) := Int.natCast_nonneg _
        have ix1 : (j : Int) < (R.evs.length : Int) := by omega
        have ix2 : (0 : Int) ≤ (x.i : Int) := Int.natCast_nonneg _
        have ix3 : (x.i : Int) < (cs.length : Int) := by omega
        clear hvx hx hxm hxb hy hax0 hax1
        obtain ⟨x0, x1, x2, x3, x4, x5, x6, x7, xa⟩ := HFx.out wr hBr.out
        go_wp2_with fail
        refine (HIx1.out wr hBr.out).mono ?_
        rintro e w3 ⟨rfl, hb3⟩
        have HB3' : Hid (Below w0.heap.size w0 w3) := Lib.hid (hBr.out.trans (hb3.mono hBr.out.size))
        clear hb3
        clear x0 x1 x2 x3 x4 x5 x6 x7 xa
        cases ax1 with
        | false =>
          as_aux_lemma =>
            obtain ⟨x0, x1, x2, x3, x4, x5, x6, x7, xa⟩ := HFx.out w3 HB3'.out
            go_wp2_with fail
            refine (HIx0.out w3 HB3'.out).mono ?_
            rintro e w4 ⟨rfl, hb4⟩
            have HB4 : Hid (Below w0.heap.size w0 w4) := Lib.hid (HB3'.out.trans (hb4.mono HB3'.out.size))
            clear hb4
            clear x0 x1 x2 x3 x4 x5 x6 x7 xa
            cases ax0 with
            | false =>
              go_wp2_with fail
              go_roundw
              case rel => exact ⟨j + 1, by omega, by go_num, HB4⟩
              case measure => simp [intOf]; omega
            | true =>
              go_wp2_with fail
              go_loopw [139] (fun kv wq => ∃ (j2 : Nat), j2 ≤ R.evs.length ∧ kv = .int .i64 j2 ∧ Hid (Below w0.heap.size w0 wq)) (fun kv _ => R.evs.length - (intOf kv).toNat)
              case atStart => exact ⟨0, Nat.zero_le _, rfl, HB4⟩
              case round =>
                as_aux_lemma =>
                  obtain ⟨j2, hj2, rfl, hBq⟩ := hrel
                  by_cases hlt2 : j2 < R.evs.length
                  · obtain ⟨u, hu⟩ : ∃ u, R.evs[j2]? = some u := ⟨R.evs[j2], List.getElem?_eq_getElem (by omega)⟩
                    have hum := List.mem_of_getElem? hu
                    have hub := HAG.out.call u hum
                    obtain ⟨z, hz⟩ : ∃ z, cs[u.i]? = some z := ⟨cs[u.i], List.getElem?_eq_getElem hub⟩
                    have HUu := Lib.hid hu
                    have HMu := Lib.hid hum
                    have HZu := Lib.hid hz
                    obtain ⟨_, lau, kau, lcu, kcu, hvu⟩ := HEV.out j2 u hu
                    have HFu : Hid (∀ W : World, Below w0.heap.size w0 W → W.cell? ⟨gE, j2 * 8, none⟩ = some (.int .i64 (u.i : Int)) ∧ W.cell? ⟨gE, j2 * 8 + 1, none⟩ = some (.int .i64 (u.inv : Int)) ∧ W.cell? ⟨gE, j2 * 8 + 2, none⟩ = some (.int .i64 (u.resp : Int)) ∧ W.cell? ⟨gE, j2 * 8 + 3, none⟩ = some (.int .i64 (u.steps : Int)) ∧ W.cell? ⟨gE, j2 * 8 + 4, none⟩ = some (.int .i64 (u.ans.err : Int)) ∧ W.cell? ⟨gE, j2 * 8 + 5, none⟩ = some (.int .u64 (u.ans.val : Int)) ∧ W.cell? ⟨gE, j2 * 8 + 6, none⟩ = some (.slice lau u.ans.list.length lcu) ∧ W.cell? ⟨gE, j2 * 8 + 7, none⟩ = some (.slice kau u.key.length kcu) ∧ W.cell? ⟨b, o + u.i * 6 + 3, none⟩ = some (.int .u64 (z.a : Int))) := Lib.hid (fun W hW => by
                      have h2 := hvu.below hW
                      obtain ⟨c0, c1, c2, c3, _⟩ := HCALL.out W hW u.i z hz
                      exact ⟨h2.c0, h2.c1, h2.c2, h2.c3, h2.c4, h2.c5, h2.c6, h2.c7, c3⟩)
                    obtain ⟨au0, hau0⟩ : ∃ a, isB cs 0 u = a := ⟨_, rfl⟩
                    have HIu0 : Hid (∀ W : World, Below w0.heap.size w0 W → Calls Try.prog 17 #[.slice (some ⟨b, o, none⟩) cs.length cap, .agg #[.int .i64 (u.i : Int), .int .i64 (u.inv : Int), .int .i64 (u.resp : Int), .int .i64 (u.steps : Int), .int .i64 (u.ans.err : Int), .int .u64 (u.ans.val : Int), .slice lau u.ans.list.length lcu, .slice kau u.key.length kcu], .int .i64 0] W fun e w' => e = .returned (.bool au0) ∧ Below W.heap.size W w') := Lib.hid (fun W hW => by rw [← hau0]; exact is_any 0 u z lau kau u.ans.list.length lcu u.key.length kcu b o cap cs W (HCALL.out W hW) hz hcl)
                    have HAu0 := Lib.hid hau0
                    obtain ⟨au1, hau1⟩ : ∃ a, isB cs 1 u = a := ⟨_, rfl⟩
                    have HIu1 : Hid (∀ W : World, Below w0.heap.size w0 W → Calls Try.prog 17 #[.slice (some ⟨b, o, none⟩) cs.length cap, .agg #[.int .i64 (u.i : Int), .int .i64 (u.inv : Int), .int .i64 (u.resp : Int), .int .i64 (u.steps : Int), .int .i64 (u.ans.err : Int), .int .u64 (u.ans.val : Int), .slice lau u.ans.list.length lcu, .slice kau u.key.length kcu], .int .i64 1] W fun e w' => e = .returned (.bool au1) ∧ Below W.heap.size W w') := Lib.hid (fun W hW => by rw [← hau1]; exact is_any 1 u z lau kau u.ans.list.length lcu u.key.length kcu b o cap cs W (HCALL.out W hW) hz hcl)
                    have HAu1 := Lib.hid hau1
                    have iu0 : (0 : Int) ≤ (j2 : Int) := Int.natCast_nonneg _
                    have iu1 : (j2 : Int) < (R.evs.length : Int) := by omega
                    have iu2 : (0 : Int) ≤ (u.i : Int) := Int.natCast_nonneg _
                    have iu3 : (u.i : Int) < (cs.length : Int) := by omega
                    clear hvu hu hum hub hz hau0 hau1
                    obtain ⟨x0, x1, x2, x3, x4, x5, x6, x7, xa⟩ := HFx.out wr hBq.out
                    obtain ⟨u0, u1, u2, u3, u4, u5, u6, u7, ua⟩ := HFu.out wr hBq.out
                    obtain ⟨pu, hpu⟩ : ∃ p, u.ans.val % 1024 = p := ⟨_, rfl⟩
                    obtain ⟨px, hpx⟩ : ∃ p, x.ans.val % 1024 = p := ⟨_, rfl⟩
                    have hpu1 : (u.ans.val : Int) % 1024 = (pu : Int) := by omega
                    have hpx1 : (x.ans.val : Int) % 1024 = (px : Int) := by omega
                    have hpu2 : (u.ans.val : Int).tmod 1024 = (pu : Int) := by rw [Int.tmod_eq_emod_of_nonneg (by omega)]; exact hpu1
                    have hpx2 : (x.ans.val : Int).tmod 1024 = (px : Int) := by rw [Int.tmod_eq_emod_of_nonneg (by omega)]; exact hpx1
                    have hpu3 : pu < 1024 := by omega
                    have hpx3 : px < 1024 := by omega
                    have HPU := Lib.hid hpu
                    have HPX := Lib.hid hpx
                    clear hpu hpx
                    obtain ⟨rb, hrb⟩ : ∃ rb : Bool, rb = (decide (j2 = j) || !au0 || decide (¬ pu = px)) := ⟨_, rfl⟩
                    have HRB := Lib.hid hrb
                    clear hrb
                    go_wp2_with fail
                    go_cut [139, 170] from 139 to 243 (fun kv rv wx => kv = .int .i64 j2 ∧ rv = .bool rb ∧ Hid (Below w0.heap.size w0 wx))
                    case first =>
                      have HBD : Hid (Below w0.heap.size w0 wr.drew) := Lib.hid (below_drew hBq.out)
                      by_cases e1 : j2 = j
                      · have hrt : rb = true := by rw [HRB.out, decide_eq_true e1]; rfl
                        subst hrt
                        have e1b : ((j2 : Int) == (j : Int)) = true := by rw [beq_iff_eq]; omega
                        have e1c : ((j2 : Int) != (j : Int)) = false := by rw [bne_eq_false_iff_eq]; omega
                        have e1d : decide ((j2 : Int) = (j : Int)) = true := decide_eq_true (by omega)
                        clear e1
                        as_aux_lemma =>
                          refine wp_region_held_drew (S := (fun w' => w'.cell? ⟨gE, j2 * 8, none⟩ = some (.int .i64 (u.i : Int)) ∧ w'.cell? ⟨gE, j2 * 8 + 1, none⟩ = some (.int .i64 (u.inv : Int)) ∧ w'.cell? ⟨gE, j2 * 8 + 2, none⟩ = some (.int .i64 (u.resp : Int)) ∧ w'.cell? ⟨gE, j2 * 8 + 3, none⟩ = some (.int .i64 (u.steps : Int)) ∧ w'.cell? ⟨gE, j2 * 8 + 4, none⟩ = some (.int .i64 (u.ans.err : Int)) ∧ w'.cell? ⟨gE, j2 * 8 + 5, none⟩ = some (.int .u64 (u.ans.val : Int)) ∧ w'.cell? ⟨gE, j2 * 8 + 6, none⟩ = some (.slice lau u.ans.list.length lcu) ∧ w'.cell? ⟨gE, j2 * 8 + 7, none⟩ = some (.slice kau u.key.length kcu) ∧ w'.cell? ⟨gE, j * 8 + 5, none⟩ = some (.int .u64 (x.ans.val : Int)))) (by kernel_rfl) ?_ (fun hHeld => ?_)
                          · first | with_reducible exact ⟨u0, u1, u2, u3, u4, u5, u6, u7, x5⟩ | go_keep
                          refine tkI (i := 0) (v := ?v1) rfl (.inl ⟨by kernel_rfl, ?y1⟩) ‹_› ?r1
                          case y1 => (intro w h; (try dsimp only at h); go_simp <;> with_reducible rfl)
                          refine tkI (i := 1) (v := ?v2) rfl (.inl ⟨by kernel_rfl, ?y2⟩) ‹_› ?r2
                          case y2 => (intro w h; (try dsimp only at h); go_simp <;> with_reducible rfl)
                          try simp only [Act.put, List.getElem_toArray, List.getElem_cons_zero, List.getElem_cons_succ, List.setIfInBounds_toArray, List.set_cons_zero, List.set_cons_succ]
                          refine tkI (i := 2) (v := ?v3) rfl (.inl ⟨by kernel_rfl, ?y3⟩) ‹_› ?r3
                          case y3 => (intro w h; (try dsimp only at h); go_simp <;> with_reducible rfl)
                          refine tkI (i := 3) (v := ?v4) rfl (.inl ⟨by kernel_rfl, ?y4⟩) ‹_› ?r4
                          case y4 => (intro w h; (try dsimp only at h); go_simp <;> with_reducible rfl)
                          try simp only [Act.put, List.getElem_toArray, List.getElem_cons_zero, List.getElem_cons_succ, List.setIfInBounds_toArray, List.set_cons_zero, List.set_cons_succ]
                          refine tkI (i := 4) (v := undef) rfl (.inr ⟨by kernel_rfl, rfl⟩) ‹_› ?r5
                          refine tkI (i := 5) (v := undef) rfl (.inr ⟨by kernel_rfl, rfl⟩) ‹_› ?r6
                          try simp only [Act.put, List.getElem_toArray, List.getElem_cons_zero, List.getElem_cons_succ, List.setIfInBounds_toArray, List.set_cons_zero, List.set_cons_succ]
                          refine tkI (i := 6) (v := undef) rfl (.inr ⟨by kernel_rfl, rfl⟩) ‹_› ?r7
                          refine tkI (i := 7) (v := undef) rfl (.inr ⟨by kernel_rfl, rfl⟩) ‹_› ?r8
                          try simp only [Act.put, List.getElem_toArray, List.getElem_cons_zero, List.getElem_cons_succ, List.setIfInBounds_toArray, List.set_cons_zero, List.set_cons_succ]
                          refine tkI (i := 8) (v := undef) rfl (.inr ⟨by kernel_rfl, rfl⟩) ‹_› ?r9
                          refine tkI (i := 9) (v := undef) rfl (.inr ⟨by kernel_rfl, rfl⟩) ‹_› ?r10
                          try simp only [Act.put, List.getElem_toArray, List.getElem_cons_zero, List.getElem_cons_succ, List.setIfInBounds_toArray, List.set_cons_zero, List.set_cons_succ]
                          refine tkI (i := 10) (v := undef) rfl (.inr ⟨by kernel_rfl, rfl⟩) ‹_› ?r11
                          refine tkI (i := 11) (v := ?v12) rfl (.inl ⟨by kernel_rfl, ?y12⟩) ‹_› ?r12
                          case y12 => (intro w h; (try dsimp only at h); go_simp <;> with_reducible rfl)
                          try simp only [Act.put, List.getElem_toArray, List.getElem_cons_zero, List.getElem_cons_succ, List.setIfInBounds_toArray, List.set_cons_zero, List.set_cons_succ]
                          refine tkI (i := 12) (v := ?v13) rfl (.inl ⟨by kernel_rfl, ?y13⟩) ‹_› ?r13
                          case y13 => (intro w h; (try dsimp only at h); go_simp <;> with_reducible rfl)
                          refine tkI (i := 13) (v := undef) rfl (.inr ⟨by kernel_rfl, rfl⟩) ‹_› ?r14
                          try simp only [Act.put, List.getElem_toArray, List.getElem_cons_zero, List.getElem_cons_succ, List.setIfInBounds_toArray, List.set_cons_zero, List.set_cons_succ]
                          refine tkI (i := 14) (v := undef) rfl (.inr ⟨by kernel_rfl, rfl⟩) ‹_› ?r15
                          refine tkI (i := 15) (v := undef) rfl (.inr ⟨by kernel_rfl, rfl⟩) ‹_› ?r16
                          try simp only [Act.put, List.getElem_toArray, List.getElem_cons_zero, List.getElem_cons_succ, List.setIfInBounds_toArray, List.set_cons_zero, List.set_cons_succ]
                          refine tkI (i := 16) (v := undef) rfl (.inr ⟨by kernel_rfl, rfl⟩) ‹_› ?r17
                          refine tkI (i := 17) (v := undef) rfl (.inr ⟨by kernel_rfl, rfl⟩) ‹_› ?r18
                          try simp only [Act.put, List.getElem_toArray, List.getElem_cons_zero, List.getElem_cons_succ, List.setIfInBounds_toArray, List.set_cons_zero, List.set_cons_succ]
                          refine tkI (i := 18) (v := undef) rfl (.inr ⟨by kernel_rfl, rfl⟩) ‹_› ?r19
                          refine tkI (i := 19) (v := undef) rfl (.inr ⟨by kernel_rfl, rfl⟩) ‹_› ?r20
                          try simp only [Act.put, List.getElem_toArray, List.getElem_cons_zero, List.getElem_cons_succ, List.setIfInBounds_toArray, List.set_cons_zero, List.set_cons_succ]
                          refine tkI (i := 20) (v := undef) rfl (.inr ⟨by kernel_rfl, rfl⟩) ‹_› ?r21
                          refine tkI (i := 21) (v := undef) rfl (.inr ⟨by kernel_rfl, rfl⟩) ‹_› ?r22
                          try simp only [Act.put, List.getElem_toArray, List.getElem_cons_zero, List.getElem_cons_succ, List.setIfInBounds_toArray, List.set_cons_zero, List.set_cons_succ]
                          refine tkI (i := 22) (v := undef) rfl (.inr ⟨by kernel_rfl, rfl⟩) ‹_› ?r23
                          refine tkI (i := 23) (v := undef) rfl (.inr ⟨by kernel_rfl, rfl⟩) ‹_› ?r24
                          try simp only [Act.put, List.getElem_toArray, List.getElem_cons_zero, List.getElem_cons_succ, List.setIfInBounds_toArray, List.set_cons_zero, List.set_cons_succ]
                          refine tkI (i := 24) (v := undef) rfl (.inr ⟨by kernel_rfl, rfl⟩) ‹_› ?r25
                          refine tkI (i := 25) (v := undef) rfl (.inr ⟨by kernel_rfl, rfl⟩) ‹_› ?r26
                          try simp only [Act.put, List.getElem_toArray, List.getElem_cons_zero, List.getElem_cons_succ, List.setIfInBounds_toArray, List.set_cons_zero, List.set_cons_succ]
                          refine tkI (i := 26) (v := undef) rfl (.inr ⟨by kernel_rfl, rfl⟩) ‹_› ?r27
                          refine tkI (i := 27) (v := undef) rfl (.inr ⟨by kernel_rfl, rfl⟩) ‹_› ?r28
                          try simp only [Act.put, List.getElem_toArray, List.getElem_cons_zero, List.getElem_cons_succ, List.setIfInBounds_toArray, List.set_cons_zero, List.set_cons_succ]
                          refine tkI (i := 28) (v := ?v29) rfl (.inl ⟨by kernel_rfl, ?y29⟩) ‹_› ?r29
                          case y29 => (intro w h; (try dsimp only at h); go_simp <;> with_reducible rfl)
                          refine wpAnyH_done (by kernel_rfl) ?_ _
                          clear x0 x1 x2 x3 x4 x5 x6 x7 xa u0 u1 u2 u3 u4 u5 u6 u7 ua
                          have HB7 := HBD
                          go_wp2_with fail
                          go_meet
                          exact ⟨rfl, rfl, HB7⟩
                      · have e1a : ¬ (j2 : Int) = (j : Int) := by omega
                        have e1b : ((j2 : Int) == (j : Int)) = false := by rw [beq_eq_false_iff_ne]; exact e1a
                        cases au0 with
                        | false =>
                          have hrt : rb = true := by rw [HRB.out]; simp
                          subst hrt
                          as_aux_lemma =>
                            refine wp_region_held_drew (S := (fun w' => w'.cell? ⟨gE, j2 * 8, none⟩ = some (.int .i64 (u.i : Int)) ∧ w'.cell? ⟨gE, j2 * 8 + 1, none⟩ = some (.int .i64 (u.inv : Int)) ∧ w'.cell? ⟨gE, j2 * 8 + 2, none⟩ = some (.int .i64 (u.resp : Int)) ∧ w'.cell? ⟨gE, j2 * 8 + 3, none⟩ = some (.int .i64 (u.steps : Int)) ∧ w'.cell? ⟨gE, j2 * 8 + 4, none⟩ = some (.int .i64 (u.ans.err : Int)) ∧ w'.cell? ⟨gE, j2 * 8 + 5, none⟩ = some (.int .u64 (u.ans.val : Int)) ∧ w'.cell? ⟨gE, j2 * 8 + 6, none⟩ = some (.slice lau u.ans.list.length lcu) ∧ w'.cell? ⟨gE, j2 * 8 + 7, none⟩ = some (.slice kau u.key.length kcu) ∧ w'.cell? ⟨gE, j * 8 + 5, none⟩ = some (.int .u64 (x.ans.val : Int)))) (by kernel_rfl) ?_ (fun hHeld => ?_)
                            · first | with_reducible exact ⟨u0, u1, u2, u3, u4, u5, u6, u7, x5⟩ | go_keep
                            refine tkI (i := 0) (v := ?v30) rfl (.inl ⟨by kernel_rfl, ?y30⟩) ‹_› ?r30
                            case y30 => (intro w h; (try dsimp only at h); go_simp <;> with_reducible rfl)
                            refine tkI (i := 1) (v := ?v31) rfl (.inl ⟨by kernel_rfl, ?y31⟩) ‹_› ?r31
                            case y31 => (intro w h; (try dsimp only at h); go_simp <;> with_reducible rfl)
                            try simp only [Act.put, List.getElem_toArray, List.getElem_cons_zero, List.getElem_cons_succ, List.setIfInBounds_toArray, List.set_cons_zero, List.set_cons_succ]
                            refine tkI (i := 2) (v := ?v32) rfl (.inl ⟨by kernel_rfl, ?y32⟩) ‹_› ?r32
                            case y32 => (intro w h; (try dsimp only at h); go_simp <;> with_reducible rfl)
                            refine tkI (i := 3) (v := ?v33) rfl (.inl ⟨by kernel_rfl, ?y33⟩) ‹_› ?r33
                            case y33 => (intro w h; (try dsimp only at h); go_simp <;> with_reducible rfl)
                            try simp only [Act.put, List.getElem_toArray, List.getElem_cons_zero, List.getElem_cons_succ, List.setIfInBounds_toArray, List.set_cons_zero, List.set_cons_succ]
                            refine tkI (i := 4) (v := ?v34) rfl (.inl ⟨by kernel_rfl, ?y34⟩) ‹_› ?r34
                            case y34 => (intro w h; (try dsimp only at h); go_simp <;> with_reducible rfl)
                            refine tkI (i := 5) (v := ?v35) rfl (.inl ⟨by kernel_rfl, ?y35⟩) ‹_› ?r35
                            case y35 => (intro w h; (try dsimp only at h); go_simp <;> with_reducible rfl)
                            try simp only [Act.put, List.getElem_toArray, List.getElem_cons_zero, List.getElem_cons_succ, List.setIfInBounds_toArray, List.set_cons_zero, List.set_cons_succ]
                            refine tkI (i := 6) (v := ?v36) rfl (.inl ⟨by kernel_rfl, ?y36⟩) ‹_› ?r36
                            case y36 => (intro w h; (try dsimp only at h); go_simp <;> with_reducible rfl)
                            refine tkI (i := 7) (v := ?v37) rfl (.inl ⟨by kernel_rfl, ?y37⟩) ‹_› ?r37
                            case y37 => (intro w h; (try dsimp only at h); go_simp <;> with_reducible rfl)
                            try simp only [Act.put, List.getElem_toArray, List.getElem_cons_zero, List.getElem_cons_succ, List.setIfInBounds_toArray, List.set_cons_zero, List.set_cons_succ]
                            refine tkI (i := 8) (v := ?v38) rfl (.inl ⟨by kernel_rfl, ?y38⟩) ‹_› ?r38
                            case y38 => (intro w h; (try dsimp only at h); go_simp <;> with_reducible rfl)
                            refine wpAnyH_ready (rs := [9]) (by kernel_rfl) (by simp) ?_
                            refine AllReadyH.cons (o := _) rfl (fun K hK => ?_) AllReadyH.nil
                            go_simp
                            go_at_call 17
                            refine (HIu0.out _ (below_drew hBq.out)).mono ?_
                            rintro e w7 ⟨rfl, hb7⟩
                            have HB7 : Hid (Below w0.heap.size w0 w7) := Lib.hid ((below_drew hBq.out).trans (hb7.mono (by have := hBq.out.size; exact this)))
                            clear hb7
                            obtain ⟨x0', x1', x2', x3', x4', x5', x6', x7', xa'⟩ := HFx.out w7 HB7.out
                            obtain ⟨u0', u1', u2', u3', u4', u5', u6', u7', ua'⟩ := HFu.out w7 HB7.out
                            go_simp
                            refine hK.out _ _ ?_ (fun hHeld => ?_)
                            · with_reducible exact ⟨u0', u1', u2', u3', u4', u5', u6', u7', x5'⟩
                            clear hK K
                            try simp only [Act.put, List.getElem_toArray, List.getElem_cons_zero, List.getElem_cons_succ, List.setIfInBounds_toArray, List.set_cons_zero, List.set_cons_succ]
                            refine tkI (i := 10) (v := ?v39) rfl (.inl ⟨by kernel_rfl, ?y39⟩) ‹_› ?r39
                            case y39 => (intro w h; (try dsimp only at h); go_simp <;> with_reducible rfl)
                            refine tkI (i := 11) (v := ?v40) rfl (.inl ⟨by kernel_rfl, ?y40⟩) ‹_› ?r40
                            case y40 => (intro w h; (try dsimp only at h); go_simp <;> with_reducible rfl)
                            try simp only [Act.put, List.getElem_toArray, List.getElem_cons_zero, List.getElem_cons_succ, List.setIfInBounds_toArray, List.set_cons_zero, List.set_cons_succ]
                            refine tkI (i := 12) (v := ?v41) rfl (.inl ⟨by kernel_rfl, ?y41⟩) ‹_› ?r41
                            case y41 => (intro w h; (try dsimp only at h); go_simp <;> with_reducible rfl)
                            refine tkI (i := 13) (v := undef) rfl (.inr ⟨by kernel_rfl, rfl⟩) ‹_› ?r42
                            try simp only [Act.put, List.getElem_toArray, List.getElem_cons_zero, List.getElem_cons_succ, List.setIfInBounds_toArray, List.set_cons_zero, List.set_cons_succ]
                            refine tkI (i := 14) (v := undef) rfl (.inr ⟨by kernel_rfl, rfl⟩) ‹_› ?r43
                            refine tkI (i := 15) (v := undef) rfl (.inr ⟨by kernel_rfl, rfl⟩) ‹_› ?r44
                            try simp only [Act.put, List.getElem_toArray, List.getElem_cons_zero, List.getElem_cons_succ, List.setIfInBounds_toArray, List.set_cons_zero, List.set_cons_succ]
                            refine tkI (i := 16) (v := undef) rfl (.inr ⟨by kernel_rfl, rfl⟩) ‹_› ?r45
                            refine tkI (i := 17) (v := undef) rfl (.inr ⟨by kernel_rfl, rfl⟩) ‹_› ?r46
                            try simp only [Act.put, List.getElem_toArray, List.getElem_cons_zero, List.getElem_cons_succ, List.setIfInBounds_toArray, List.set_cons_zero, List.set_cons_succ]
                            refine tkI (i := 18) (v := undef) rfl (.inr ⟨by kernel_rfl, rfl⟩) ‹_› ?r47
                            refine tkI (i := 19) (v := undef) rfl (.inr ⟨by kernel_rfl, rfl⟩) ‹_› ?r48
                            try simp only [Act.put, List.getElem_toArray, List.getElem_cons_zero, List.getElem_cons_succ, List.setIfInBounds_toArray, List.set_cons_zero, List.set_cons_succ]
                            refine tkI (i := 20) (v := undef) rfl (.inr ⟨by kernel_rfl, rfl⟩) ‹_› ?r49
                            refine tkI (i := 21) (v := undef) rfl (.inr ⟨by kernel_rfl, rfl⟩) ‹_› ?r50
                            try simp only [Act.put, List.getElem_toArray, List.getElem_cons_zero, List.getElem_cons_succ, List.setIfInBounds_toArray, List.set_cons_zero, List.set_cons_succ]
                            refine tkI (i := 22) (v := undef) rfl (.inr ⟨by kernel_rfl, rfl⟩) ‹_› ?r51
                            refine tkI (i := 23) (v := undef) rfl (.inr ⟨by kernel_rfl, rfl⟩) ‹_› ?r52
                            try simp only [Act.put, List.getElem_toArray, List.getElem_cons_zero, List.getElem_cons_succ, List.setIfInBounds_toArray, List.set_cons_zero, List.set_cons_succ]
                            refine tkI (i := 24) (v := undef) rfl (.inr ⟨by kernel_rfl, rfl⟩) ‹_› ?r53
                            refine tkI (i := 25) (v := undef) rfl (.inr ⟨by kernel_rfl, rfl⟩) ‹_› ?r54
                            try simp only [Act.put, List.getElem_toArray, List.getElem_cons_zero, List.getElem_cons_succ, List.setIfInBounds_toArray, List.set_cons_zero, List.set_cons_succ]
                            refine tkI (i := 26) (v := undef) rfl (.inr ⟨by kernel_rfl, rfl⟩) ‹_› ?r55
                            refine tkI (i := 27) (v := undef) rfl (.inr ⟨by kernel_rfl, rfl⟩) ‹_› ?r56
                            try simp only [Act.put, List.getElem_toArray, List.getElem_cons_zero, List.getElem_cons_succ, List.setIfInBounds_toArray, List.set_cons_zero, List.set_cons_succ]
                            refine tkI (i := 28) (v := ?v57) rfl (.inl ⟨by kernel_rfl, ?y57⟩) ‹_› ?r57
                            case y57 => (intro w h; (try dsimp only at h); go_simp <;> with_reducible rfl)
                            refine wpAnyH_done (by kernel_rfl) ?_ _
                            clear x0 x1 x2 x3 x4 x5 x6 x7 xa x0' x1' x2' x3' x4' x5' x6' x7' xa' u0 u1 u2 u3 u4 u5 u6 u7 ua u0' u1' u2' u3' u4' u5' u6' u7' ua'
                            go_wp2_with fail
                            go_meet
                            exact ⟨rfl, rfl, HB7⟩
                        | true =>
                          by_cases e2 : pu = px
                          · have e2a : (pu : Int) = (px : Int) := by omega
                            have hrt : rb = false := by rw [HRB.out, decide_eq_false e1, decide_eq_false (fun h => h e2)]; rfl
                            subst hrt
                            subst e2
                            as_aux_lemma =>
                              refine wp_region_held_drew (S := (fun w' => w'.cell? ⟨gE, j2 * 8, none⟩ = some (.int .i64 (u.i : Int)) ∧ w'.cell? ⟨gE, j2 * 8 + 1, none⟩ = some (.int .i64 (u.inv : Int)) ∧ w'.cell? ⟨gE, j2 * 8 + 2, none⟩ = some (.int .i64 (u.resp : Int)) ∧ w'.cell? ⟨gE, j2 * 8 + 3, none⟩ = some (.int .i64 (u.steps : Int)) ∧ w'.cell? ⟨gE, j2 * 8 + 4, none⟩ = some (.int .i64 (u.ans.err : Int)) ∧ w'.cell? ⟨gE, j2 * 8 + 5, none⟩ = some (.int .u64 (u.ans.val : Int)) ∧ w'.cell? ⟨gE, j2 * 8 + 6, none⟩ = some (.slice lau u.ans.list.length lcu) ∧ w'.cell? ⟨gE, j2 * 8 + 7, none⟩ = some (.slice kau u.key.length kcu) ∧ w'.cell? ⟨gE, j * 8 + 5, none⟩ = some (.int .u64 (x.ans.val : Int)))) (by kernel_rfl) ?_ (fun hHeld => ?_)
                              · first | with_reducible exact ⟨u0, u1, u2, u3, u4, u5, u6, u7, x5⟩ | go_keep
                              refine tkI (i := 0) (v := ?v58) rfl (.inl ⟨by kernel_rfl, ?y58⟩) ‹_› ?r58
                              case y58 => (intro w h; (try dsimp only at h); go_simp <;> with_reducible rfl)
                              refine tkI (i := 1) (v := ?v59) rfl (.inl ⟨by kernel_rfl, ?y59⟩) ‹_› ?r59
                              case y59 => (intro w h; (try dsimp only at h); go_simp <;> with_reducible rfl)
                              try simp only [Act.put, List.getElem_toArray, List.getElem_cons_zero, List.getElem_cons_succ, List.setIfInBounds_toArray, List.set_cons_zero, List.set_cons_succ]
                              refine tkI (i := 2) (v := ?v60) rfl (.inl ⟨by kernel_rfl, ?y60⟩) ‹_› ?r60
                              case y60 => (intro w h; (try dsimp only at h); go_simp <;> with_reducible rfl)
                              refine tkI (i := 3) (v := ?v61) rfl (.inl ⟨by kernel_rfl, ?y61⟩) ‹_› ?r61
                              case y61 => (intro w h; (try dsimp only at h); go_simp <;> with_reducible rfl)
                              try simp only [Act.put, List.getElem_toArray, List.getElem_cons_zero, List.getElem_cons_succ, List.setIfInBounds_toArray, List.set_cons_zero, List.set_cons_succ]
                              refine tkI (i := 4) (v := ?v62) rfl (.inl ⟨by kernel_rfl, ?y62⟩) ‹_› ?r62
                              case y62 => (intro w h; (try dsimp only at h); go_simp <;> with_reducible rfl)
                              refine tkI (i := 5) (v := ?v63) rfl (.inl ⟨by kernel_rfl, ?y63⟩) ‹_› ?r63
                              case y63 => (intro w h; (try dsimp only at h); go_simp <;> with_reducible rfl)
                              try simp only [Act.put, List.getElem_toArray, List.getElem_cons_zero, List.getElem_cons_succ, List.setIfInBounds_toArray, List.set_cons_zero, List.set_cons_succ]
                              refine tkI (i := 6) (v := ?v64) rfl (.inl ⟨by kernel_rfl, ?y64⟩) ‹_› ?r64
                              case y64 => (intro w h; (try dsimp only at h); go_simp <;> with_reducible rfl)
                              refine tkI (i := 7) (v := ?v65) rfl (.inl ⟨by kernel_rfl, ?y65⟩) ‹_› ?r65
                              case y65 => (intro w h; (try dsimp only at h); go_simp <;> with_reducible rfl)
                              try simp only [Act.put, List.getElem_toArray, List.getElem_cons_zero, List.getElem_cons_succ, List.setIfInBounds_toArray, List.set_cons_zero, List.set_cons_succ]
                              refine tkI (i := 8) (v := ?v66) rfl (.inl ⟨by kernel_rfl, ?y66⟩) ‹_› ?r66
                              case y66 => (intro w h; (try dsimp only at h); go_simp <;> with_reducible rfl)
                              refine wpAnyH_ready (rs := [9]) (by kernel_rfl) (by simp) ?_
                              refine AllReadyH.cons (o := _) rfl (fun K hK => ?_) AllReadyH.nil
                              go_simp
                              go_at_call 17
                              refine (HIu0.out _ (below_drew hBq.out)).mono ?_
                              rintro e w7 ⟨rfl, hb7⟩
                              have HB7 : Hid (Below w0.heap.size w0 w7) := Lib.hid ((below_drew hBq.out).trans (hb7.mono (by have := hBq.out.size; exact this)))
                              clear hb7
                              obtain ⟨x0', x1', x2', x3', x4', x5', x6', x7', xa'⟩ := HFx.out w7 HB7.out
                              obtain ⟨u0', u1', u2', u3', u4', u5', u6', u7', ua'⟩ := HFu.out w7 HB7.out
                              go_simp
                              refine hK.out _ _ ?_ (fun hHeld => ?_)
                              · with_reducible exact ⟨u0', u1', u2', u3', u4', u5', u6', u7', x5'⟩
                              clear hK K
                              try simp only [Act.put, List.getElem_toArray, List.getElem_cons_zero, List.getElem_cons_succ, List.setIfInBounds_toArray, List.set_cons_zero, List.set_cons_succ]
                              refine tkI (i := 10) (v := ?v67) rfl (.inl ⟨by kernel_rfl, ?y67⟩) ‹_› ?r67
                              case y67 => (intro w h; (try dsimp only at h); go_simp <;> with_reducible rfl)
                              refine tkI (i := 11) (v := ?v68) rfl (.inl ⟨by kernel_rfl, ?y68⟩) ‹_› ?r68
                              case y68 => (intro w h; (try dsimp only at h); go_simp <;> with_reducible rfl)
                              try simp only [Act.put, List.getElem_toArray, List.getElem_cons_zero, List.getElem_cons_succ, List.setIfInBounds_toArray, List.set_cons_zero, List.set_cons_succ]
                              refine tkI (i := 12) (v := ?v69) rfl (.inl ⟨by kernel_rfl, ?y69⟩) ‹_› ?r69
                              case y69 => (intro w h; (try dsimp only at h); go_simp <;> with_reducible rfl)
                              refine tkI (i := 13) (v := ?v70) rfl (.inl ⟨by kernel_rfl, ?y70⟩) ‹_› ?r70
                              case y70 => (intro w h; (try dsimp only at h); go_simp <;> with_reducible rfl)
                              try simp only [Act.put, List.getElem_toArray, List.getElem_cons_zero, List.getElem_cons_succ, List.setIfInBounds_toArray, List.set_cons_zero, List.set_cons_succ]
                              refine tkI (i := 14) (v := ?v71) rfl (.inl ⟨by kernel_rfl, ?y71⟩) ‹_› ?r71
                              case y71 => (intro w h; (try dsimp only at h); go_simp <;> with_reducible rfl)
                              refine tkI (i := 15) (v := ?v72) rfl (.inl ⟨by kernel_rfl, ?y72⟩) ‹_› ?r72
                              case y72 => (intro w h; (try dsimp only at h); go_simp <;> with_reducible rfl)
                              try simp only [Act.put, List.getElem_toArray, List.getElem_cons_zero, List.getElem_cons_succ, List.setIfInBounds_toArray, List.set_cons_zero, List.set_cons_succ]
                              refine tkI (i := 16) (v := ?v73) rfl (.inl ⟨by kernel_rfl, ?y73⟩) ‹_› ?r73
                              case y73 => (intro w h; (try dsimp only at h); go_simp <;> with_reducible rfl)
                              refine tkI (i := 17) (v := ?v74) rfl (.inl ⟨by kernel_rfl, ?y74⟩) ‹_› ?r74
                              case y74 => (intro w h; (try dsimp only at h); go_simp <;> with_reducible rfl)
                              try simp only [Act.put, List.getElem_toArray, List.getElem_cons_zero, List.getElem_cons_succ, List.setIfInBounds_toArray, List.set_cons_zero, List.set_cons_succ]
                              refine tkI (i := 18) (v := ?v75) rfl (.inl ⟨by kernel_rfl, ?y75⟩) ‹_› ?r75
                              case y75 => (intro w h; (try dsimp only at h); go_simp <;> with_reducible rfl)
                              refine tkI (i := 19) (v := ?v76) rfl (.inl ⟨by kernel_rfl, ?y76⟩) ‹_› ?r76
                              case y76 => (intro w h; (try dsimp only at h); go_simp <;> with_reducible rfl)
                              try simp only [Act.put, List.getElem_toArray, List.getElem_cons_zero, List.getElem_cons_succ, List.setIfInBounds_toArray, List.set_cons_zero, List.set_cons_succ]
                              refine tkI (i := 20) (v := ?v77) rfl (.inl ⟨by kernel_rfl, ?y77⟩) ‹_› ?r77
                              case y77 => (intro w h; (try dsimp only at h); go_simp <;> with_reducible rfl)
                              refine tkI (i := 21) (v := ?v78) rfl (.inl ⟨by kernel_rfl, ?y78⟩) ‹_› ?r78
                              case y78 => (intro w h; (try dsimp only at h); go_simp <;> with_reducible rfl)
                              try simp only [Act.put, List.getElem_toArray, List.getElem_cons_zero, List.getElem_cons_succ, List.setIfInBounds_toArray, List.set_cons_zero, List.set_cons_succ]
                              refine tkI (i := 22) (v := ?v79) rfl (.inl ⟨by kernel_rfl, ?y79⟩) ‹_› ?r79
                              case y79 => (intro w h; (try dsimp only at h); go_simp <;> with_reducible rfl)
                              refine tkI (i := 23) (v := ?v80) rfl (.inl ⟨by kernel_rfl, ?y80⟩) ‹_› ?r80
                              case y80 => (intro w h; (try dsimp only at h); go_simp <;> with_reducible rfl)
                              try simp only [Act.put, List.getElem_toArray, List.getElem_cons_zero, List.getElem_cons_succ, List.setIfInBounds_toArray, List.set_cons_zero, List.set_cons_succ]
                              refine tkI (i := 24) (v := ?v81) rfl (.inl ⟨by kernel_rfl, ?y81⟩) ‹_› ?r81
                              case y81 => (intro w h; (try dsimp only at h); go_simp <;> with_reducible rfl)
                              refine tkI (i := 25) (v := ?v82) rfl (.inl ⟨by kernel_rfl, ?y82⟩) ‹_› ?r82
                              case y82 => (intro w h; (try dsimp only at h); go_simp <;> with_reducible rfl)
                              try simp only [Act.put, List.getElem_toArray, List.getElem_cons_zero, List.getElem_cons_succ, List.setIfInBounds_toArray, List.set_cons_zero, List.set_cons_succ]
                              refine tkI (i := 26) (v := ?v83) rfl (.inl ⟨by kernel_rfl, ?y83⟩) ‹_› ?r83
                              case y83 => (intro w h; (try dsimp only at h); go_simp <;> with_reducible rfl)
                              refine tkI (i := 27) (v := ?v84) rfl (.inl ⟨by kernel_rfl, ?y84⟩) ‹_› ?r84
                              case y84 => (intro w h; (try dsimp only at h); go_simp <;> with_reducible rfl)
                              try simp only [Act.put, List.getElem_toArray, List.getElem_cons_zero, List.getElem_cons_succ, List.setIfInBounds_toArray, List.set_cons_zero, List.set_cons_succ]
                              refine tkI (i := 28) (v := ?v85) rfl (.inl ⟨by kernel_rfl, ?y85⟩) ‹_› ?r85
                              case y85 => (intro w h; (try dsimp only at h); go_simp <;> with_reducible rfl)
                              refine wpAnyH_done (by kernel_rfl) ?_ _
                              clear x0 x1 x2 x3 x4 x5 x6 x7 xa x0' x1' x2' x3' x4' x5' x6' x7' xa' u0 u1 u2 u3 u4 u5 u6 u7 ua u0' u1' u2' u3' u4' u5' u6' u7' ua'
                              go_wp2_with fail
                              go_meet
                              exact ⟨rfl, rfl, HB7⟩
                          · have e2a : ¬ (pu : Int) = (px : Int) := by omega
                            have e2b : ((pu : Int) == (px : Int)) = false := by rw [beq_eq_false_iff_ne]; exact e2a
                            have e2c : ((pu : Int) != (px : Int)) = true := by rw [bne_iff_ne]; exact e2a
                            have hrt : rb = true := by rw [HRB.out, decide_eq_true e2]; simp
                            subst hrt
                            as_aux_lemma =>
                              refine wp_region_held_drew (S := (fun w' => w'.cell? ⟨gE, j2 * 8, none⟩ = some (.int .i64 (u.i : Int)) ∧ w'.cell? ⟨gE, j2 * 8 + 1, none⟩ = some (.int .i64 (u.inv : Int)) ∧ w'.cell? ⟨gE, j2 * 8 + 2, none⟩ = some (.int .i64 (u.resp : Int)) ∧ w'.cell? ⟨gE, j2 * 8 + 3, none⟩ = some (.int .i64 (u.steps : Int)) ∧ w'.cell? ⟨gE, j2 * 8 + 4, none⟩ = some (.int .i64 (u.ans.err : Int)) ∧ w'.cell? ⟨gE, j2 * 8 + 5, none⟩ = some (.int .u64 (u.ans.val : Int)) ∧ w'.cell? ⟨gE, j2 * 8 + 6, none⟩ = some (.slice lau u.ans.list.length lcu) ∧ w'.cell? ⟨gE, j2 * 8 + 7, none⟩ = some (.slice kau u.key.length kcu) ∧ w'.cell? ⟨gE, j * 8 + 5, none⟩ = some (.int .u64 (x.ans.val : Int)))) (by kernel_rfl) ?_ (fun hHeld => ?_)
                              · first | with_reducible exact ⟨u0, u1, u2, u3, u4, u5, u6, u7, x5⟩ | go_keep
                              refine tkI (i := 0) (v := ?v86) rfl (.inl ⟨by kernel_rfl, ?y86⟩) ‹_› ?r86
                              case y86 => (intro w h; (try dsimp only at h); go_simp <;> with_reducible rfl)
                              refine tkI (i := 1) (v := ?v87) rfl (.inl ⟨by kernel_rfl, ?y87⟩) ‹_› ?r87
                              case y87 => (intro w h; (try dsimp only at h); go_simp <;> with_reducible rfl)
                              try simp only [Act.put, List.getElem_toArray, List.getElem_cons_zero, List.getElem_cons_succ, List.setIfInBounds_toArray, List.set_cons_zero, List.set_cons_succ]
                              refine tkI (i := 2) (v := ?v88) rfl (.inl ⟨by kernel_rfl, ?y88⟩) ‹_› ?r88
                              case y88 => (intro w h; (try dsimp only at h); go_simp <;> with_reducible rfl)
                              refine tkI (i := 3) (v := ?v89) rfl (.inl ⟨by kernel_rfl, ?y89⟩) ‹_› ?r89
                              case y89 => (intro w h; (try dsimp only at h); go_simp <;> with_reducible rfl)
                              try simp only [Act.put, List.getElem_toArray, List.getElem_cons_zero, List.getElem_cons_succ, List.setIfInBounds_toArray, List.set_cons_zero, List.set_cons_succ]
                              refine tkI (i := 4) (v := ?v90) rfl (.inl ⟨by kernel_rfl, ?y90⟩) ‹_› ?r90
                              case y90 => (intro w h; (try dsimp only at h); go_simp <;> with_reducible rfl)
                              refine tkI (i := 5) (v := ?v91) rfl (.inl ⟨by kernel_rfl, ?y91⟩) ‹_› ?r91
                              case y91 => (intro w h; (try dsimp only at h); go_simp <;> with_reducible rfl)
                              try simp only [Act.put, List.getElem_toArray, List.getElem_cons_zero, List.getElem_cons_succ, List.setIfInBounds_toArray, List.set_cons_zero, List.set_cons_succ]
                              refine tkI (i := 6) (v := ?v92) rfl (.inl ⟨by kernel_rfl, ?y92⟩) ‹_› ?r92
                              case y92 => (intro w h; (try dsimp only at h); go_simp <;> with_reducible rfl)
                              refine tkI (i := 7) (v := ?v93) rfl (.inl ⟨by kernel_rfl, ?y93⟩) ‹_› ?r93
                              case y93 => (intro w h; (try dsimp only at h); go_simp <;> with_reducible rfl)
                              try simp only [Act.put, List.getElem_toArray, List.getElem_cons_zero, List.getElem_cons_succ, List.setIfInBounds_toArray, List.set_cons_zero, List.set_cons_succ]
                              refine tkI (i := 8) (v := ?v94) rfl (.inl ⟨by kernel_rfl, ?y94⟩) ‹_› ?r94
                              case y94 => (intro w h; (try dsimp only at h); go_simp <;> with_reducible rfl)
                              refine wpAnyH_ready (rs := [9]) (by kernel_rfl) (by simp) ?_
                              refine AllReadyH.cons (o := _) rfl (fun K hK => ?_) AllReadyH.nil
                              go_simp
                              go_at_call 17
                              refine (HIu0.out _ (below_drew hBq.out)).mono ?_
                              rintro e w7 ⟨rfl, hb7⟩
                              have HB7 : Hid (Below w0.heap.size w0 w7) := Lib.hid ((below_drew hBq.out).trans (hb7.mono (by have := hBq.out.size; exact this)))
                              clear hb7
                              obtain ⟨x0', x1', x2', x3', x4', x5', x6', x7', xa'⟩ := HFx.out w7 HB7.out
                              obtain ⟨u0', u1', u2', u3', u4', u5', u6', u7', ua'⟩ := HFu.out w7 HB7.out
                              go_simp
                              refine hK.out _ _ ?_ (fun hHeld => ?_)
                              · with_reducible exact ⟨u0', u1', u2', u3', u4', u5', u6', u7', x5'⟩
                              clear hK K
                              try simp only [Act.put, List.getElem_toArray, List.getElem_cons_zero, List.getElem_cons_succ, List.setIfInBounds_toArray, List.set_cons_zero, List.set_cons_succ]
                              refine tkI (i := 10) (v := ?v95) rfl (.inl ⟨by kernel_rfl, ?y95⟩) ‹_› ?r95
                              case y95 => (intro w h; (try dsimp only at h); go_simp <;> with_reducible rfl)
                              refine tkI (i := 11) (v := ?v96) rfl (.inl ⟨by kernel_rfl, ?y96⟩) ‹_› ?r96
                              case y96 => (intro w h; (try dsimp only at h); go_simp <;> with_reducible rfl)
                              try simp only [Act.put, List.getElem_toArray, List.getElem_cons_zero, List.getElem_cons_succ, List.setIfInBounds_toArray, List.set_cons_zero, List.set_cons_succ]
                              refine tkI (i := 12) (v := ?v97) rfl (.inl ⟨by kernel_rfl, ?y97⟩) ‹_› ?r97
                              case y97 => (intro w h; (try dsimp only at h); go_simp <;> with_reducible rfl)
                              refine tkI (i := 13) (v := ?v98) rfl (.inl ⟨by kernel_rfl, ?y98⟩) ‹_› ?r98
                              case y98 => (intro w h; (try dsimp only at h); go_simp <;> with_reducible rfl)
                              try simp only [Act.put, List.getElem_toArray, List.getElem_cons_zero, List.getElem_cons_succ, List.setIfInBounds_toArray, List.set_cons_zero, List.set_cons_succ]
                              refine tkI (i := 14) (v := ?v99) rfl (.inl ⟨by kernel_rfl, ?y99⟩) ‹_› ?r99
                              case y99 => (intro w h; (try dsimp only at h); go_simp <;> with_reducible rfl)
                              refine tkI (i := 15) (v := ?v100) rfl (.inl ⟨by kernel_rfl, ?y100⟩) ‹_› ?r100
                              case y100 => (intro w h; (try dsimp only at h); go_simp <;> with_reducible rfl)
                              try simp only [Act.put, List.getElem_toArray, List.getElem_cons_zero, List.getElem_cons_succ, List.setIfInBounds_toArray, List.set_cons_zero, List.set_cons_succ]
                              refine tkI (i := 16) (v := ?v101) rfl (.inl ⟨by kernel_rfl, ?y101⟩) ‹_› ?r101
                              case y101 => (intro w h; (try dsimp only at h); go_simp <;> with_reducible rfl)
                              refine tkI (i := 17) (v := ?v102) rfl (.inl ⟨by kernel_rfl, ?y102⟩) ‹_› ?r102
                              case y102 => (intro w h; (try dsimp only at h); go_simp <;> with_reducible rfl)
                              try simp only [Act.put, List.getElem_toArray, List.getElem_cons_zero, List.getElem_cons_succ, List.setIfInBounds_toArray, List.set_cons_zero, List.set_cons_succ]
                              refine tkI (i := 18) (v := ?v103) rfl (.inl ⟨by kernel_rfl, ?y103⟩) ‹_› ?r103
                              case y103 => (intro w h; (try dsimp only at h); go_simp <;> with_reducible rfl)
                              refine tkI (i := 19) (v := ?v104) rfl (.inl ⟨by kernel_rfl, ?y104⟩) ‹_› ?r104
                              case y104 => (intro w h; (try dsimp only at h); go_simp <;> with_reducible rfl)
                              try simp only [Act.put, List.getElem_toArray, List.getElem_cons_zero, List.getElem_cons_succ, List.setIfInBounds_toArray, List.set_cons_zero, List.set_cons_succ]
                              refine tkI (i := 20) (v := ?v105) rfl (.inl ⟨by kernel_rfl, ?y105⟩) ‹_› ?r105
                              case y105 => (intro w h; (try dsimp only at h); go_simp <;> with_reducible rfl)
                              refine tkI (i := 21) (v := ?v106) rfl (.inl ⟨by kernel_rfl, ?y106⟩) ‹_› ?r106
                              case y106 => (intro w h; (try dsimp only at h); go_simp <;> with_reducible rfl)
                              try simp only [Act.put, List.getElem_toArray, List.getElem_cons_zero, List.getElem_cons_succ, List.setIfInBounds_toArray, List.set_cons_zero, List.set_cons_succ]
                              refine tkI (i := 22) (v := ?v107) rfl (.inl ⟨by kernel_rfl, ?y107⟩) ‹_› ?r107
                              case y107 => (intro w h; (try dsimp only at h); go_simp <;> with_reducible rfl)
                              refine tkI (i := 23) (v := ?v108) rfl (.inl ⟨by kernel_rfl, ?y108⟩) ‹_› ?r108
                              case y108 => (intro w h; (try dsimp only at h); go_simp <;> with_reducible rfl)
                              try simp only [Act.put, List.getElem_toArray, List.getElem_cons_zero, List.getElem_cons_succ, List.setIfInBounds_toArray, List.set_cons_zero, List.set_cons_succ]
                              refine tkI (i := 24) (v := ?v109) rfl (.inl ⟨by kernel_rfl, ?y109⟩) ‹_› ?r109
                              case y109 => (intro w h; (try dsimp only at h); go_simp <;> with_reducible rfl)
                              refine tkI (i := 25) (v := ?v110) rfl (.inl ⟨by kernel_rfl, ?y110⟩) ‹_› ?r110
                              case y110 => (intro w h; (try dsimp only at h); go_simp <;> with_reducible rfl)
                              try simp only [Act.put, List.getElem_toArray, List.getElem_cons_zero, List.getElem_cons_succ, List.setIfInBounds_toArray, List.set_cons_zero, List.set_cons_succ]
                              refine tkI (i := 26) (v := ?v111) rfl (.inl ⟨by kernel_rfl, ?y111⟩) ‹_› ?r111
                              case y111 => (intro w h; (try dsimp only at h); go_simp <;> with_reducible rfl)
                              refine tkI (i := 27) (v := ?v112) rfl (.inl ⟨by kernel_rfl, ?y112⟩) ‹_› ?r112
                              case y112 => (intro w h; (try dsimp only at h); go_simp <;> with_reducible rfl)
                              try simp only [Act.put, List.getElem_toArray, List.getElem_cons_zero, List.getElem_cons_succ, List.setIfInBounds_toArray, List.set_cons_zero, List.set_cons_succ]
                              refine tkI (i := 28) (v := ?v113) rfl (.inl ⟨by kernel_rfl, ?y113⟩) ‹_› ?r113
                              case y113 => (intro w h; (try dsimp only at h); go_simp <;> with_reducible rfl)
                              refine wpAnyH_done (by kernel_rfl) ?_ _
                              clear x0 x1 x2 x3 x4 x5 x6 x7 xa x0' x1' x2' x3' x4' x5' x6' x7' xa' u0 u1 u2 u3 u4 u5 u6 u7 ua u0' u1' u2' u3' u4' u5' u6' u7' ua'
                              go_wp2_with fail
                              go_meet
                              exact ⟨rfl, rfl, HB7⟩
                    case rest =>
                      as_aux_lemma =>
                        obtain ⟨rfl, rfl, HBc⟩ := hcut
                        clear x0 x1 x2 x3 x4 x5 x6 x7 xa u0 u1 u2 u3 u4 u5 u6 u7 ua
                        cases rb with
                        | true =>
                          go_wp2_with fail
                          go_roundw
                          case rel => first | exact ⟨j2 + 1, by omega, by go_num, HBc⟩ | ((repeat apply Exists.intro); exact ⟨⟨j2 + 1, by omega, by go_num, HBc⟩, rfl⟩)
                          case measure => simp [intOf]; omega
                        | false =>
                          have hrf : ¬ j2 = j ∧ au0 = true ∧ pu = px := by
                            have h := HRB.out
                            cases hau : au0 with
                            | false => rw [hau] at h; simp at h
                            | true => rw [hau] at h; simpa using h.symm
                          obtain ⟨f1, f2, f3⟩ := hrf
                          have HON : Hid (OnceA cs R.evs x u) := Lib.hid (HAG.out.alc j x j2 u HUx.out HAx0.out f1 HUu.out (HAu0.out.trans f2) (by rw [HPU.out, HPX.out, f3]))
                          have n1 : ¬ (u.ans.val : Int) = (x.ans.val : Int) := by have := HON.out.ne; omega
                          have n1b : ((u.ans.val : Int) == (x.ans.val : Int)) = false := by rw [beq_eq_false_iff_ne]; exact n1
                          clear f1 f2 f3
                          obtain ⟨x0, x1, x2, x3, x4, x5, x6, x7, xa⟩ := HFx.out wc HBc.out
                          obtain ⟨u0, u1, u2, u3, u4, u5, u6, u7, ua⟩ := HFu.out wc HBc.out
                          obtain ⟨g0, hg0⟩ : ∃ g0, decide (x.resp < u.resp) = g0 := ⟨_, rfl⟩
                          have HG0 := Lib.hid hg0
                          have hg1 : decide ((x.resp : Int) < (u.resp : Int)) = g0 := by rw [← hg0]; exact decide_eq_decide.2 (by omega)
                          clear hg0
                          go_wp2_with fail
                          go_quiet (fail)
                          go_wp2_with fail
                          go_quiet (fail)
                          go_wp2_with fail
                          have HBe : Hid (∀ m1 m2, (Below w0.heap.size w0 ((wc.drewN m1).drewN m2))) := Lib.hid (fun m1 m2 => below_drewN (below_drewN HBc.out m1) m2)
                          have hBex : ∃ w5, Hid (Below w0.heap.size w0 w5) := ⟨_, Lib.hid (HBe.out 0 0)⟩
                          clear x0 x1 x2 x3 x4 x5 x6 x7 xa u0 u1 u2 u3 u4 u5 u6 u7 ua
                          go_loopw [14, 197] (fun gv kv wq => ∃ (j3 : Nat) (gb : Bool), j3 ≤ R.evs.length ∧ kv = .int .i64 j3 ∧ gv = .bool gb ∧ Hid (gb = (g0 || (R.evs.take j3).any (gvP cs x.resp u.ans.val))) ∧ Hid (Below w0.heap.size w0 wq)) (fun _ kv _ => R.evs.length - (intOf kv).toNat)
                          case atStart => exact ⟨0, g0, Nat.zero_le _, rfl, (by first | rfl | (rw [hg1]) | (simp; exact HG0.out)), Lib.hid (by simp), Lib.hid (by first | exact below_drewN HBc.out _ | exact below_drewN (below_drewN HBc.out _) _)⟩
                          case round =>
                            as_aux_lemma =>
                              obtain ⟨j3, gb, hj3, rfl, rfl, hG, hBs⟩ := hrel
                              by_cases hlt3 : j3 < R.evs.length
                              · obtain ⟨v, hv⟩ : ∃ v, R.evs[j3]? = some v := ⟨R.evs[j3], List.getElem?_eq_getElem (by omega)⟩
                                have hvm := List.mem_of_getElem? hv
                                have hvb := HAG.out.call v hvm
                                obtain ⟨t, ht⟩ : ∃ t, cs[v.i]? = some t := ⟨cs[v.i], List.getElem?_eq_getElem hvb⟩
                                have HUv := Lib.hid hv
                                have HMv := Lib.hid hvm
                                have HZv := Lib.hid ht
                                obtain ⟨_, lav, kav, lcv, kcv, hvv⟩ := HEV.out j3 v hv
                                have HFv : Hid (∀ W : World, Below w0.heap.size w0 W → W.cell? ⟨gE, j3 * 8, none⟩ = some (.int .i64 (v.i : Int)) ∧ W.cell? ⟨gE, j3 * 8 + 1, none⟩ = some (.int .i64 (v.inv : Int)) ∧ W.cell? ⟨gE, j3 * 8 + 2, none⟩ = some (.int .i64 (v.resp : Int)) ∧ W.cell? ⟨gE, j3 * 8 + 3, none⟩ = some (.int .i64 (v.steps : Int)) ∧ W.cell? ⟨gE, j3 * 8 + 4, none⟩ = some (.int .i64 (v.ans.err : Int)) ∧ W.cell? ⟨gE, j3 * 8 + 5, none⟩ = some (.int .u64 (v.ans.val : Int)) ∧ W.cell? ⟨gE, j3 * 8 + 6, none⟩ = some (.slice lav v.ans.list.length lcv) ∧ W.cell? ⟨gE, j3 * 8 + 7, none⟩ = some (.slice kav v.key.length kcv) ∧ W.cell? ⟨b, o + v.i * 6 + 3, none⟩ = some (.int .u64 (t.a : Int))) := Lib.hid (fun W hW => by
                                  have h2 := hvv.below hW
                                  obtain ⟨c0, c1, c2, c3, _⟩ := HCALL.out W hW v.i t ht
                                  exact ⟨h2.c0, h2.c1, h2.c2, h2.c3, h2.c4, h2.c5, h2.c6, h2.c7, c3⟩)
                                obtain ⟨av0, hav0⟩ : ∃ a, isB cs 0 v = a := ⟨_, rfl⟩
                                have HIv0 : Hid (∀ W : World, Below w0.heap.size w0 W → Calls Try.prog 17 #[.slice (some ⟨b, o, none⟩) cs.length cap, .agg #[.int .i64 (v.i : Int), .int .i64 (v.inv : Int), .int .i64 (v.resp : Int), .int .i64 (v.steps : Int), .int .i64 (v.ans.err : Int), .int .u64 (v.ans.val : Int), .slice lav v.ans.list.length lcv, .slice kav v.key.length kcv], .int .i64 0] W fun e w' => e = .returned (.bool av0) ∧ Below W.heap.size W w') := Lib.hid (fun W hW => by rw [← hav0]; exact is_any 0 v t lav kav v.ans.list.length lcv v.key.length kcv b o cap cs W (HCALL.out W hW) ht hcl)
                                have HAv0 := Lib.hid hav0
                                obtain ⟨av1, hav1⟩ : ∃ a, isB cs 1 v = a := ⟨_, rfl⟩
                                have HIv1 : Hid (∀ W : World, Below w0.heap.size w0 W → Calls Try.prog 17 #[.slice (some ⟨b, o, none⟩) cs.length cap, .agg #[.int .i64 (v.i : Int), .int .i64 (v.inv : Int), .int .i64 (v.resp : Int), .int .i64 (v.steps : Int), .int .i64 (v.ans.err : Int), .int .u64 (v.ans.val : Int), .slice lav v.ans.list.length lcv, .slice kav v.key.length kcv], .int .i64 1] W fun e w' => e = .returned (.bool av1) ∧ Below W.heap.size W w') := Lib.hid (fun W hW => by rw [← hav1]; exact is_any 1 v t lav kav v.ans.list.length lcv v.key.length kcv b o cap cs W (HCALL.out W hW) ht hcl)
                                have HAv1 := Lib.hid hav1
                                have iv0 : (0 : Int) ≤ (j3 : Int) := Int.natCast_nonneg _
                                have iv1 : (j3 : Int) < (R.evs.length : Int) := by omega
                                have iv2 : (0 : Int) ≤ (v.i : Int) := Int.natCast_nonneg _
                                have iv3 : (v.i : Int) < (cs.length : Int) := by omega
                                clear hvv hv hvm hvb ht hav0 hav1
                                obtain ⟨x0, x1, x2, x3, x4, x5, x6, x7, xa⟩ := HFx.out wr hBs.out
                                obtain ⟨u0, u1, u2, u3, u4, u5, u6, u7, ua⟩ := HFu.out wr hBs.out
                                obtain ⟨v0, v1, v2, v3, v4, v5, v6, v7, va⟩ := HFv.out wr hBs.out
                                obtain ⟨rb2, hrb2⟩ : ∃ rb2 : Bool, rb2 = (gb || gvP cs x.resp u.ans.val v) := ⟨_, rfl⟩
                                have HR2 := Lib.hid hrb2
                                clear hrb2
                                go_wp2_with fail
                                have HBD : Hid (Below w0.heap.size w0 wr.drew) := Lib.hid (below_drew hBs.out)
                                cases gb with
                                | true =>
                                  have hrt : rb2 = true := by rw [HR2.out]; rfl
                                  subst hrt
                                  as_aux_lemma =>
                                    refine wp_region_held_drew (S := (fun w' => w'.cell? ⟨gE, j3 * 8, none⟩ = some (.int .i64 (v.i : Int)) ∧ w'.cell? ⟨gE, j3 * 8 + 1, none⟩ = some (.int .i64 (v.inv : Int)) ∧ w'.cell? ⟨gE, j3 * 8 + 2, none⟩ = some (.int .i64 (v.resp : Int)) ∧ w'.cell? ⟨gE, j3 * 8 + 3, none⟩ = some (.int .i64 (v.steps : Int)) ∧ w'.cell? ⟨gE, j3 * 8 + 4, none⟩ = some (.int .i64 (v.ans.err : Int)) ∧ w'.cell? ⟨gE, j3 * 8 + 5, none⟩ = some (.int .u64 (v.ans.val : Int)) ∧ w'.cell? ⟨gE, j3 * 8 + 6, none⟩ = some (.slice lav v.ans.list.length lcv) ∧ w'.cell? ⟨gE, j3 * 8 + 7, none⟩ = some (.slice kav v.key.length kcv) ∧ w'.cell? ⟨b, o + v.i * 6 + 3, none⟩ = some (.int .u64 (t.a : Int)) ∧ w'.cell? ⟨gE, j2 * 8 + 5, none⟩ = some (.int .u64 (u.ans.val : Int)) ∧ w'.cell? ⟨gE, j * 8 + 2, none⟩ = some (.int .i64 (x.resp : Int)))) (by kernel_rfl) ?_ (fun hHeld => ?_)
                                    · first | with_reducible exact ⟨v0, v1, v2, v3, v4, v5, v6, v7, va, u5, x2⟩ | go_keep
                                    refine tkI (i := 0) (v := ?v114) rfl (.inl ⟨by kernel_rfl, ?y114⟩) ‹_› ?r114
                                    case y114 => (intro w h; (try dsimp only at h); go_simp <;> with_reducible rfl)
                                    refine tkI (i := 1) (v := ?v115) rfl (.inl ⟨by kernel_rfl, ?y115⟩) ‹_› ?r115
                                    case y115 => (intro w h; (try dsimp only at h); go_simp <;> with_reducible rfl)
                                    try simp only [Act.put, List.getElem_toArray, List.getElem_cons_zero, List.getElem_cons_succ, List.setIfInBounds_toArray, List.set_cons_zero, List.set_cons_succ]
                                    refine tkI (i := 2) (v := undef) rfl (.inr ⟨by kernel_rfl, rfl⟩) ‹_› ?r116
                                    refine tkI (i := 3) (v := undef) rfl (.inr ⟨by kernel_rfl, rfl⟩) ‹_› ?r117
                                    try simp only [Act.put, List.getElem_toArray, List.getElem_cons_zero, List.getElem_cons_succ, List.setIfInBounds_toArray, List.set_cons_zero, List.set_cons_succ]
                                    refine tkI (i := 4) (v := undef) rfl (.inr ⟨by kernel_rfl, rfl⟩) ‹_› ?r118
                                    refine tkI (i := 5) (v := undef) rfl (.inr ⟨by kernel_rfl, rfl⟩) ‹_› ?r119
                                    try simp only [Act.put, List.getElem_toArray, List.getElem_cons_zero, List.getElem_cons_succ, List.setIfInBounds_toArray, List.set_cons_zero, List.set_cons_succ]
                                    refine tkI (i := 6) (v := undef) rfl (.inr ⟨by kernel_rfl, rfl⟩) ‹_› ?r120
                                    refine tkI (i := 7) (v := undef) rfl (.inr ⟨by kernel_rfl, rfl⟩) ‹_› ?r121
                                    try simp only [Act.put, List.getElem_toArray, List.getElem_cons_zero, List.getElem_cons_succ, List.setIfInBounds_toArray, List.set_cons_zero, List.set_cons_succ]
                                    refine tkI (i := 8) (v := undef) rfl (.inr ⟨by kernel_rfl, rfl⟩) ‹_› ?r122
                                    refine tkI (i := 9) (v := undef) rfl (.inr ⟨by kernel_rfl, rfl⟩) ‹_› ?r123
                                    try simp only [Act.put, List.getElem_toArray, List.getElem_cons_zero, List.getElem_cons_succ, List.setIfInBounds_toArray, List.set_cons_zero, List.set_cons_succ]
                                    refine tkI (i := 10) (v := undef) rfl (.inr ⟨by kernel_rfl, rfl⟩) ‹_› ?r124
                                    refine tkI (i := 11) (v := undef) rfl (.inr ⟨by kernel_rfl, rfl⟩) ‹_› ?r125
                                    try simp only [Act.put, List.getElem_toArray, List.getElem_cons_zero, List.getElem_cons_succ, List.setIfInBounds_toArray, List.set_cons_zero, List.set_cons_succ]
                                    refine tkI (i := 12) (v := undef) rfl (.inr ⟨by kernel_rfl, rfl⟩) ‹_› ?r126
                                    refine tkI (i := 13) (v := undef) rfl (.inr ⟨by kernel_rfl, rfl⟩) ‹_› ?r127
                                    try simp only [Act.put, List.getElem_toArray, List.getElem_cons_zero, List.getElem_cons_succ, List.setIfInBounds_toArray, List.set_cons_zero, List.set_cons_succ]
                                    refine tkI (i := 14) (v := undef) rfl (.inr ⟨by kernel_rfl, rfl⟩) ‹_› ?r128
                                    refine tkI (i := 15) (v := undef) rfl (.inr ⟨by kernel_rfl, rfl⟩) ‹_› ?r129
                                    try simp only [Act.put, List.getElem_toArray, List.getElem_cons_zero, List.getElem_cons_succ, List.setIfInBounds_toArray, List.set_cons_zero, List.set_cons_succ]
                                    refine tkI (i := 16) (v := undef) rfl (.inr ⟨by kernel_rfl, rfl⟩) ‹_› ?r130
                                    refine tkI (i := 17) (v := undef) rfl (.inr ⟨by kernel_rfl, rfl⟩) ‹_› ?r131
                                    try simp only [Act.put, List.getElem_toArray, List.getElem_cons_zero, List.getElem_cons_succ, List.setIfInBounds_toArray, List.set_cons_zero, List.set_cons_succ]
                                    refine tkI (i := 18) (v := undef) rfl (.inr ⟨by kernel_rfl, rfl⟩) ‹_› ?r132
                                    refine tkI (i := 19) (v := undef) rfl (.inr ⟨by kernel_rfl, rfl⟩) ‹_› ?r133
                                    try simp only [Act.put, List.getElem_toArray, List.getElem_cons_zero, List.getElem_cons_succ, List.setIfInBounds_toArray, List.set_cons_zero, List.set_cons_succ]
                                    refine tkI (i := 20) (v := undef) rfl (.inr ⟨by kernel_rfl, rfl⟩) ‹_› ?r134
                                    refine tkI (i := 21) (v := undef) rfl (.inr ⟨by kernel_rfl, rfl⟩) ‹_› ?r135
                                    try simp only [Act.put, List.getElem_toArray, List.getElem_cons_zero, List.getElem_cons_succ, List.setIfInBounds_toArray, List.set_cons_zero, List.set_cons_succ]
                                    refine tkI (i := 22) (v := undef) rfl (.inr ⟨by kernel_rfl, rfl⟩) ‹_› ?r136
                                    refine tkI (i := 23) (v := undef) rfl (.inr ⟨by kernel_rfl, rfl⟩) ‹_› ?r137
                                    try simp only [Act.put, List.getElem_toArray, List.getElem_cons_zero, List.getElem_cons_succ, List.setIfInBounds_toArray, List.set_cons_zero, List.set_cons_succ]
                                    refine tkI (i := 24) (v := undef) rfl (.inr ⟨by kernel_rfl, rfl⟩) ‹_› ?r138
                                    refine tkI (i := 25) (v := undef) rfl (.inr ⟨by kernel_rfl, rfl⟩) ‹_› ?r139
                                    try simp only [Act.put, List.getElem_toArray, List.getElem_cons_zero, List.getElem_cons_succ, List.setIfInBounds_toArray, List.set_cons_zero, List.set_cons_succ]
                                    refine tkI (i := 26) (v := undef) rfl (.inr ⟨by kernel_rfl, rfl⟩) ‹_› ?r140
                                    refine tkI (i := 27) (v := undef) rfl (.inr ⟨by kernel_rfl, rfl⟩) ‹_› ?r141
                                    try simp only [Act.put, List.getElem_toArray, List.getElem_cons_zero, List.getElem_cons_succ, List.setIfInBounds_toArray, List.set_cons_zero, List.set_cons_succ]
                                    refine tkI (i := 28) (v := undef) rfl (.inr ⟨by kernel_rfl, rfl⟩) ‹_› ?r142
                                    refine tkI (i := 29) (v := undef) rfl (.inr ⟨by kernel_rfl, rfl⟩) ‹_› ?r143
                                    try simp only [Act.put, List.getElem_toArray, List.getElem_cons_zero, List.getElem_cons_succ, List.setIfInBounds_toArray, List.set_cons_zero, List.set_cons_succ]
                                    refine tkI (i := 30) (v := undef) rfl (.inr ⟨by kernel_rfl, rfl⟩) ‹_› ?r144
                                    try simp only [Act.put, List.getElem_toArray, List.getElem_cons_zero, List.getElem_cons_succ, List.setIfInBounds_toArray, List.set_cons_zero, List.set_cons_succ]
                                    refine tkI (i := 31) (v := undef) rfl (.inr ⟨by kernel_rfl, rfl⟩) ‹_› ?r145
                                    try simp only [Act.put, List.getElem_toArray, List.getElem_cons_zero, List.getElem_cons_succ, List.setIfInBounds_toArray, List.set_cons_zero, List.set_cons_succ]
                                    refine tkI (i := 32) (v := undef) rfl (.inr ⟨by kernel_rfl, rfl⟩) ‹_› ?r146
                                    try simp only [Act.put, List.getElem_toArray, List.getElem_cons_zero, List.getElem_cons_succ, List.setIfInBounds_toArray, List.set_cons_zero, List.set_cons_succ]
                                    refine tkI (i := 33) (v := undef) rfl (.inr ⟨by kernel_rfl, rfl⟩) ‹_› ?r147
                                    try simp only [Act.put, List.getElem_toArray, List.getElem_cons_zero, List.getElem_cons_succ, List.setIfInBounds_toArray, List.set_cons_zero, List.set_cons_succ]
                                    refine tkI (i := 34) (v := undef) rfl (.inr ⟨by kernel_rfl, rfl⟩) ‹_› ?r148
                                    try simp only [Act.put, List.getElem_toArray, List.getElem_cons_zero, List.getElem_cons_succ, List.setIfInBounds_toArray, List.set_cons_zero, List.set_cons_succ]
                                    refine tkI (i := 35) (v := undef) rfl (.inr ⟨by kernel_rfl, rfl⟩) ‹_› ?r149
                                    try simp only [Act.put, List.getElem_toArray, List.getElem_cons_zero, List.getElem_cons_succ, List.setIfInBounds_toArray, List.set_cons_zero, List.set_cons_succ]
                                    refine tkI (i := 36) (v := undef) rfl (.inr ⟨by kernel_rfl, rfl⟩) ‹_› ?r150
                                    try simp only [Act.put, List.getElem_toArray, List.getElem_cons_zero, List.getElem_cons_succ, List.setIfInBounds_toArray, List.set_cons_zero, List.set_cons_succ]
                                    refine tkI (i := 37) (v := undef) rfl (.inr ⟨by kernel_rfl, rfl⟩) ‹_› ?r151
                                    try simp only [Act.put, List.getElem_toArray, List.getElem_cons_zero, List.getElem_cons_succ, List.setIfInBounds_toArray, List.set_cons_zero, List.set_cons_succ]
                                    refine tkI (i := 38) (v := undef) rfl (.inr ⟨by kernel_rfl, rfl⟩) ‹_› ?r152
                                    try simp only [Act.put, List.getElem_toArray, List.getElem_cons_zero, List.getElem_cons_succ, List.setIfInBounds_toArray, List.set_cons_zero, List.set_cons_succ]
                                    refine tkI (i := 39) (v := ?v153) rfl (.inl ⟨by kernel_rfl, ?y153⟩) ‹_› ?r153
                                    case y153 => (intro w h; (try dsimp only at h); go_simp <;> with_reducible rfl)
                                    try simp only [Act.put, List.getElem_toArray, List.getElem_cons_zero, List.getElem_cons_succ, List.setIfInBounds_toArray, List.set_cons_zero, List.set_cons_succ]
                                    refine tkI (i := 40) (v := ?v154) rfl (.inl ⟨by kernel_rfl, ?y154⟩) ‹_› ?r154
                                    case y154 => (intro w h; (try dsimp only at h); go_simp <;> with_reducible rfl)
                                    try simp only [Act.put, List.getElem_toArray, List.getElem_cons_zero, List.getElem_cons_succ, List.setIfInBounds_toArray, List.set_cons_zero, List.set_cons_succ]
                                    refine wpAnyH_done (by kernel_rfl) ?_ _
                                    clear x0 x1 x2 x3 x4 x5 x6 x7 xa u0 u1 u2 u3 u4 u5 u6 u7 ua v0 v1 v2 v3 v4 v5 v6 v7 va
                                    have HB7 := HBD
                                    go_wp2_with fail
                                    go_roundw
                                    case rel => first | exact ⟨j3 + 1, true, by omega, by go_num, rfl, Lib.hid (by rw [any_snoc HUv.out, ← Bool.or_assoc, ← hG.out]; exact HR2.out), HB7⟩ | ((repeat apply Exists.intro); exact ⟨⟨j3 + 1, true, by omega, by go_num, rfl, Lib.hid (by rw [any_snoc HUv.out, ← Bool.or_assoc, ← hG.out]; exact HR2.out), HB7⟩, rfl⟩)
                                    case measure => simp [intOf]; omega
                                | false =>
                                  cases av1 with
                                  | false =>
                                    have hrt : rb2 = false := by rw [HR2.out]; unfold gvP; rw [HAv1.out]; rfl
                                    subst hrt
                                    as_aux_lemma =>
                                      refine wp_region_held_drew (S := (fun w' => w'.cell? ⟨gE, j3 * 8, none⟩ = some (.int .i64 (v.i : Int)) ∧ w'.cell? ⟨gE, j3 * 8 + 1, none⟩ = some (.int .i64 (v.inv : Int)) ∧ w'.cell? ⟨gE, j3 * 8 + 2, none⟩ = some (.int .i64 (v.resp : Int)) ∧ w'.cell? ⟨gE, j3 * 8 + 3, none⟩ = some (.int .i64 (v.steps : Int)) ∧ w'.cell? ⟨gE, j3 * 8 + 4, none⟩ = some (.int .i64 (v.ans.err : Int)) ∧ w'.cell? ⟨gE, j3 * 8 + 5, none⟩ = some (.int .u64 (v.ans.val : Int)) ∧ w'.cell? ⟨gE, j3 * 8 + 6, none⟩ = some (.slice lav v.ans.list.length lcv) ∧ w'.cell? ⟨gE, j3 * 8 + 7, none⟩ = some (.slice kav v.key.length kcv) ∧ w'.cell? ⟨b, o + v.i * 6 + 3, none⟩ = some (.int .u64 (t.a : Int)) ∧ w'.cell? ⟨gE, j2 * 8 + 5, none⟩ = some (.int .u64 (u.ans.val : Int)) ∧ w'.cell? ⟨gE, j * 8 + 2, none⟩ = some (.int .i64 (x.resp : Int)))) (by kernel_rfl) ?_ (fun hHeld => ?_)
                                      · first | with_reducible exact ⟨v0, v1, v2, v3, v4, v5, v6, v7, va, u5, x2⟩ | go_keep
                                      refine tkI (i := 0) (v := ?v155) rfl (.inl ⟨by kernel_rfl, ?y155⟩) ‹_› ?r155
                                      case y155 => (intro w h; (try dsimp only at h); go_simp <;> with_reducible rfl)
                                      refine tkI (i := 1) (v := ?v156) rfl (.inl ⟨by kernel_rfl, ?y156⟩) ‹_› ?r156
                                      case y156 => (intro w h; (try dsimp only at h); go_simp <;> with_reducible rfl)
                                      try simp only [Act.put, List.getElem_toArray, List.getElem_cons_zero, List.getElem_cons_succ, List.setIfInBounds_toArray, List.set_cons_zero, List.set_cons_succ]
                                      refine tkI (i := 2) (v := ?v157) rfl (.inl ⟨by kernel_rfl, ?y157⟩) ‹_› ?r157
                                      case y157 => (intro w h; (try dsimp only at h); go_simp <;> with_reducible rfl)
                                      refine tkI (i := 3) (v := ?v158) rfl (.inl ⟨by kernel_rfl, ?y158⟩) ‹_› ?r158
                                      case y158 => (intro w h; (try dsimp only at h); go_simp <;> with_reducible rfl)
                                      try simp only [Act.put, List.getElem_toArray, List.getElem_cons_zero, List.getElem_cons_succ, List.setIfInBounds_toArray, List.set_cons_zero, List.set_cons_succ]
                                      refine tkI (i := 4) (v := ?v159) rfl (.inl ⟨by kernel_rfl, ?y159⟩) ‹_› ?r159
                                      case y159 => (intro w h; (try dsimp only at h); go_simp <;> with_reducible rfl)
                                      refine tkI (i := 5) (v := ?v160) rfl (.inl ⟨by kernel_rfl, ?y160⟩) ‹_› ?r160
                                      case y160 => (intro w h; (try dsimp only at h); go_simp <;> with_reducible rfl)
                                      try simp only [Act.put, List.getElem_toArray, List.getElem_cons_zero, List.getElem_cons_succ, List.setIfInBounds_toArray, List.set_cons_zero, List.set_cons_succ]
                                      refine tkI (i := 6) (v := ?v161) rfl (.inl ⟨by kernel_rfl, ?y161⟩) ‹_› ?r161
                                      case y161 => (intro w h; (try dsimp only at h); go_simp <;> with_reducible rfl)
                                      refine wpAnyH_ready (rs := [7]) (by kernel_rfl) (by simp) ?_
                                      refine AllReadyH.cons (o := _) rfl (fun K hK => ?_) AllReadyH.nil
                                      go_simp
                                      go_at_call 17
                                      refine (HIv1.out _ (below_drew hBs.out)).mono ?_
                                      rintro e w7 ⟨rfl, hb7⟩
                                      have HB7 : Hid (Below w0.heap.size w0 w7) := Lib.hid ((below_drew hBs.out).trans (hb7.mono (by have := hBs.out.size; exact this)))
                                      clear hb7
                                      obtain ⟨x0', x1', x2', x3', x4', x5', x6', x7', xa'⟩ := HFx.out w7 HB7.out
                                      obtain ⟨u0', u1', u2', u3', u4', u5', u6', u7', ua'⟩ := HFu.out w7 HB7.out
                                      obtain ⟨v0', v1', v2', v3', v4', v5', v6', v7', va'⟩ := HFv.out w7 HB7.out
                                      go_simp
                                      refine hK.out _ _ ?_ (fun hHeld => ?_)
                                      · with_reducible exact ⟨v0', v1', v2', v3', v4', v5', v6', v7', va', u5', x2'⟩
                                      clear hK K
                                      try simp only [Act.put, List.getElem_toArray, List.getElem_cons_zero, List.getElem_cons_succ, List.setIfInBounds_toArray, List.set_cons_zero, List.set_cons_succ]
                                      refine tkI (i := 8) (v := ?v162) rfl (.inl ⟨by kernel_rfl, ?y162⟩) ‹_› ?r162
                                      case y162 => (intro w h; (try dsimp only at h); go_simp <;> with_reducible rfl)
                                      refine tkI (i := 9) (v := undef) rfl (.inr ⟨by kernel_rfl, rfl⟩) ‹_› ?r163
                                      try simp only [Act.put, List.getElem_toArray, List.getElem_cons_zero, List.getElem_cons_succ, List.setIfInBounds_toArray, List.set_cons_zero, List.set_cons_succ]
                                      refine tkI (i := 10) (v := undef) rfl (.inr ⟨by kernel_rfl, rfl⟩) ‹_› ?r164
                                      refine tkI (i := 11) (v := undef) rfl (.inr ⟨by kernel_rfl, rfl⟩) ‹_› ?r165
                                      try simp only [Act.put, List.getElem_toArray, List.getElem_cons_zero, List.getElem_cons_succ, List.setIfInBounds_toArray, List.set_cons_zero, List.set_cons_succ]
                                      refine tkI (i := 12) (v := undef) rfl (.inr ⟨by kernel_rfl, rfl⟩) ‹_› ?r166
                                      refine tkI (i := 13) (v := undef) rfl (.inr ⟨by kernel_rfl, rfl⟩) ‹_› ?r167
                                      try simp only [Act.put, List.getElem_toArray, List.getElem_cons_zero, List.getElem_cons_succ, List.setIfInBounds_toArray, List.set_cons_zero, List.set_cons_succ]
                                      refine tkI (i := 14) (v := undef) rfl (.inr ⟨by kernel_rfl, rfl⟩) ‹_› ?r168
                                      refine tkI (i := 15) (v := undef) rfl (.inr ⟨by kernel_rfl, rfl⟩) ‹_› ?r169
                                      try simp only [Act.put, List.getElem_toArray, List.getElem_cons_zero, List.getElem_cons_succ, List.setIfInBounds_toArray, List.set_cons_zero, List.set_cons_succ]
                                      refine tkI (i := 16) (v := undef) rfl (.inr ⟨by kernel_rfl, rfl⟩) ‹_› ?r170
                                      refine tkI (i := 17) (v := undef) rfl (.inr ⟨by kernel_rfl, rfl⟩) ‹_› ?r171
                                      try simp only [Act.put, List.getElem_toArray, List.getElem_cons_zero, List.getElem_cons_succ, List.setIfInBounds_toArray, List.set_cons_zero, List.set_cons_succ]
                                      refine tkI (i := 18) (v := undef) rfl (.inr ⟨by kernel_rfl, rfl⟩) ‹_› ?r172
                                      refine tkI (i := 19) (v := undef) rfl (.inr ⟨by kernel_rfl, rfl⟩) ‹_› ?r173
                                      try simp only [Act.put, List.getElem_toArray, List.getElem_cons_zero, List.getElem_cons_succ, List.setIfInBounds_toArray, List.set_cons_zero, List.set_cons_succ]
                                      refine tkI (i := 20) (v := undef) rfl (.inr ⟨by kernel_rfl, rfl⟩) ‹_› ?r174
                                      refine tkI (i := 21) (v := undef) rfl (.inr ⟨by kernel_rfl, rfl⟩) ‹_› ?r175
                                      try simp only [Act.put, List.getElem_toArray, List.getElem_cons_zero, List.getElem_cons_succ, List.setIfInBounds_toArray, List.set_cons_zero, List.set_cons_succ]
                                      refine tkI (i := 22) (v := undef) rfl (.inr ⟨by kernel_rfl, rfl⟩) ‹_› ?r176
                                      refine tkI (i := 23) (v := undef) rfl (.inr ⟨by kernel_rfl, rfl⟩) ‹_› ?r177
                                      try simp only [Act.put, List.getElem_toArray, List.getElem_cons_zero, List.getElem_cons_succ, List.setIfInBounds_toArray, List.set_cons_zero, List.set_cons_succ]
                                      refine tkI (i := 24) (v := undef) rfl (.inr ⟨by kernel_rfl, rfl⟩) ‹_› ?r178
                                      refine tkI (i := 25) (v := ?v179) rfl (.inl ⟨by kernel_rfl, ?y179⟩) ‹_› ?r179
                                      case y179 => (intro w h; (try dsimp only at h); go_simp <;> with_reducible rfl)
                                      try simp only [Act.put, List.getElem_toArray, List.getElem_cons_zero, List.getElem_cons_succ, List.setIfInBounds_toArray, List.set_cons_zero, List.set_cons_succ]
                                      refine tkI (i := 26) (v := ?v180) rfl (.inl ⟨by kernel_rfl, ?y180⟩) ‹_› ?r180
                                      case y180 => (intro w h; (try dsimp only at h); go_simp <;> with_reducible rfl)
                                      refine tkI (i := 27) (v := undef) rfl (.inr ⟨by kernel_rfl, rfl⟩) ‹_› ?r181
                                      try simp only [Act.put, List.getElem_toArray, List.getElem_cons_zero, List.getElem_cons_succ, List.setIfInBounds_toArray, List.set_cons_zero, List.set_cons_succ]
                                      refine tkI (i := 28) (v := undef) rfl (.inr ⟨by kernel_rfl, rfl⟩) ‹_› ?r182
                                      refine tkI (i := 29) (v := undef) rfl (.inr ⟨by kernel_rfl, rfl⟩) ‹_› ?r183
                                      try simp only [Act.put, List.getElem_toArray, List.getElem_cons_zero, List.getElem_cons_succ, List.setIfInBounds_toArray, List.set_cons_zero, List.set_cons_succ]
                                      refine tkI (i := 30) (v := undef) rfl (.inr ⟨by kernel_rfl, rfl⟩) ‹_› ?r184
                                      try simp only [Act.put, List.getElem_toArray, List.getElem_cons_zero, List.getElem_cons_succ, List.setIfInBounds_toArray, List.set_cons_zero, List.set_cons_succ]
                                      refine tkI (i := 31) (v := undef) rfl (.inr ⟨by kernel_rfl, rfl⟩) ‹_› ?r185
                                      try simp only [Act.put, List.getElem_toArray, List.getElem_cons_zero, List.getElem_cons_succ, List.setIfInBounds_toArray, List.set_cons_zero, List.set_cons_succ]
                                      refine tkI (i := 32) (v := undef) rfl (.inr ⟨by kernel_rfl, rfl⟩) ‹_› ?r186
                                      try simp only [Act.put, List.getElem_toArray, List.getElem_cons_zero, List.getElem_cons_succ, List.setIfInBounds_toArray, List.set_cons_zero, List.set_cons_succ]
                                      refine tkI (i := 33) (v := undef) rfl (.inr ⟨by kernel_rfl, rfl⟩) ‹_› ?r187
                                      try simp only [Act.put, List.getElem_toArray, List.getElem_cons_zero, List.getElem_cons_succ, List.setIfInBounds_toArray, List.set_cons_zero, List.set_cons_succ]
                                      refine tkI (i := 34) (v := undef) rfl (.inr ⟨by kernel_rfl, rfl⟩) ‹_› ?r188
                                      try simp only [Act.put, List.getElem_toArray, List.getElem_cons_zero, List.getElem_cons_succ, List.setIfInBounds_toArray, List.set_cons_zero, List.set_cons_succ]
                                      refine tkI (i := 35) (v := undef) rfl (.inr ⟨by kernel_rfl, rfl⟩) ‹_› ?r189
                                      try simp only [Act.put, List.getElem_toArray, List.getElem_cons_zero, List.getElem_cons_succ, List.setIfInBounds_toArray, List.set_cons_zero, List.set_cons_succ]
                                      refine tkI (i := 36) (v := undef) rfl (.inr ⟨by kernel_rfl, rfl⟩) ‹_› ?r190
                                      try simp only [Act.put, List.getElem_toArray, List.getElem_cons_zero, List.getElem_cons_succ, List.setIfInBounds_toArray, List.set_cons_zero, List.set_cons_succ]
                                      refine tkI (i := 37) (v := undef) rfl (.inr ⟨by kernel_rfl, rfl⟩) ‹_› ?r191
                                      try simp only [Act.put, List.getElem_toArray, List.getElem_cons_zero, List.getElem_cons_succ, List.setIfInBounds_toArray, List.set_cons_zero, List.set_cons_succ]
                                      refine tkI (i := 38) (v := ?v192) rfl (.inl ⟨by kernel_rfl, ?y192⟩) ‹_› ?r192
                                      case y192 => (intro w h; (try dsimp only at h); go_simp <;> with_reducible rfl)
                                      try simp only [Act.put, List.getElem_toArray, List.getElem_cons_zero, List.getElem_cons_succ, List.setIfInBounds_toArray, List.set_cons_zero, List.set_cons_succ]
                                      refine tkI (i := 39) (v := ?v193) rfl (.inl ⟨by kernel_rfl, ?y193⟩) ‹_› ?r193
                                      case y193 => (intro w h; (try dsimp only at h); go_simp <;> with_reducible rfl)
                                      try simp only [Act.put, List.getElem_toArray, List.getElem_cons_zero, List.getElem_cons_succ, List.setIfInBounds_toArray, List.set_cons_zero, List.set_cons_succ]
                                      refine tkI (i := 40) (v := ?v194) rfl (.inl ⟨by kernel_rfl, ?y194⟩) ‹_› ?r194
                                      case y194 => (intro w h; (try dsimp only at h); go_simp <;> with_reducible rfl)
                                      try simp only [Act.put, List.getElem_toArray, List.getElem_cons_zero, List.getElem_cons_succ, List.setIfInBounds_toArray, List.set_cons_zero, List.set_cons_succ]
                                      refine wpAnyH_done (by kernel_rfl) ?_ _
                                      clear x0 x1 x2 x3 x4 x5 x6 x7 xa x0' x1' x2' x3' x4' x5' x6' x7' xa' u0 u1 u2 u3 u4 u5 u6 u7 ua u0' u1' u2' u3' u4' u5' u6' u7' ua' v0 v1 v2 v3 v4 v5 v6 v7 va v0' v1' v2' v3' v4' v5' v6' v7' va'
                                      go_wp2_with fail
                                      go_roundw
                                      case rel => first | exact ⟨j3 + 1, false, by omega, by go_num, rfl, Lib.hid (by rw [any_snoc HUv.out, ← Bool.or_assoc, ← hG.out]; exact HR2.out), HB7⟩ | ((repeat apply Exists.intro); exact ⟨⟨j3 + 1, false, by omega, by go_num, rfl, Lib.hid (by rw [any_snoc HUv.out, ← Bool.or_assoc, ← hG.out]; exact HR2.out), HB7⟩, rfl⟩)
                                      case measure => simp [intOf]; omega
                                  | true =>
                                    by_cases e2 : t.a = u.ans.val
                                    · have e2b : ((t.a : Int) == (u.ans.val : Int)) = true := by rw [beq_iff_eq]; omega
                                      have e2c : decide ((t.a : Int) = (u.ans.val : Int)) = true := decide_eq_true (by omega)
                                      have HE2 := Lib.hid e2
                                      clear e2
                                      by_cases e3 : v.resp < x.resp
                                      · have e3a : (v.resp : Int) < (x.resp : Int) := by omega
                                        have hrt : rb2 = true := by rw [HR2.out]; unfold gvP; rw [HAv1.out, caC_some HZv.out, decide_eq_true HE2.out, decide_eq_true e3]; rfl
                                        subst hrt
                                        as_aux_lemma =>
                                          refine wp_region_held_drew (S := (fun w' => w'.cell? ⟨gE, j3 * 8, none⟩ = some (.int .i64 (v.i : Int)) ∧ w'.cell? ⟨gE, j3 * 8 + 1, none⟩ = some (.int .i64 (v.inv : Int)) ∧ w'.cell? ⟨gE, j3 * 8 + 2, none⟩ = some (.int .i64 (v.resp : Int)) ∧ w'.cell? ⟨gE, j3 * 8 + 3, none⟩ = some (.int .i64 (v.steps : Int)) ∧ w'.cell? ⟨gE, j3 * 8 + 4, none⟩ = some (.int .i64 (v.ans.err : Int)) ∧ w'.cell? ⟨gE, j3 * 8 + 5, none⟩ = some (.int .u64 (v.ans.val : Int)) ∧ w'.cell? ⟨gE, j3 * 8 + 6, none⟩ = some (.slice lav v.ans.list.length lcv) ∧ w'.cell? ⟨gE, j3 * 8 + 7, none⟩ = some (.slice kav v.key.length kcv) ∧ w'.cell? ⟨b, o + v.i * 6 + 3, none⟩ = some (.int .u64 (t.a : Int)) ∧ w'.cell? ⟨gE, j2 * 8 + 5, none⟩ = some (.int .u64 (u.ans.val : Int)) ∧ w'.cell? ⟨gE, j * 8 + 2, none⟩ = some (.int .i64 (x.resp : Int)))) (by kernel_rfl) ?_ (fun hHeld => ?_)
                                          · first | with_reducible exact ⟨v0, v1, v2, v3, v4, v5, v6, v7, va, u5, x2⟩ | go_keep
                                          refine tkI (i := 0) (v := ?v195) rfl (.inl ⟨by kernel_rfl, ?y195⟩) ‹_› ?r195
                                          case y195 => (intro w h; (try dsimp only at h); go_simp <;> with_reducible rfl)
                                          refine tkI (i := 1) (v := ?v196) rfl (.inl ⟨by kernel_rfl, ?y196⟩) ‹_› ?r196
                                          case y196 => (intro w h; (try dsimp only at h); go_simp <;> with_reducible rfl)
                                          try simp only [Act.put, List.getElem_toArray, List.getElem_cons_zero, List.getElem_cons_succ, List.setIfInBounds_toArray, List.set_cons_zero, List.set_cons_succ]
                                          refine tkI (i := 2) (v := ?v197) rfl (.inl ⟨by kernel_rfl, ?y197⟩) ‹_› ?r197
                                          case y197 => (intro w h; (try dsimp only at h); go_simp <;> with_reducible rfl)
                                          refine tkI (i := 3) (v := ?v198) rfl (.inl ⟨by kernel_rfl, ?y198⟩) ‹_› ?r198
                                          case y198 => (intro w h; (try dsimp only at h); go_simp <;> with_reducible rfl)
                                          try simp only [Act.put, List.getElem_toArray, List.getElem_cons_zero, List.getElem_cons_succ, List.setIfInBounds_toArray, List.set_cons_zero, List.set_cons_succ]
                                          refine tkI (i := 4) (v := ?v199) rfl (.inl ⟨by kernel_rfl, ?y199⟩) ‹_› ?r199
                                          case y199 => (intro w h; (try dsimp only at h); go_simp <;> with_reducible rfl)
                                          refine tkI (i := 5) (v := ?v200) rfl (.inl ⟨by kernel_rfl, ?y200⟩) ‹_› ?r200
                                          case y200 => (intro w h; (try dsimp only at h); go_simp <;> with_reducible rfl)
                                          try simp only [Act.put, List.getElem_toArray, List.getElem_cons_zero, List.getElem_cons_succ, List.setIfInBounds_toArray, List.set_cons_zero, List.set_cons_succ]
                                          refine tkI (i := 6) (v := ?v201) rfl (.inl ⟨by kernel_rfl, ?y201⟩) ‹_› ?r201
                                          case y201 => (intro w h; (try dsimp only at h); go_simp <;> with_reducible rfl)
                                          refine wpAnyH_ready (rs := [7]) (by kernel_rfl) (by simp) ?_
                                          refine AllReadyH.cons (o := _) rfl (fun K hK => ?_) AllReadyH.nil
                                          go_simp
                                          go_at_call 17
                                          refine (HIv1.out _ (below_drew hBs.out)).mono ?_
                                          rintro e w7 ⟨rfl, hb7⟩
                                          have HB7 : Hid (Below w0.heap.size w0 w7) := Lib.hid ((below_drew hBs.out).trans (hb7.mono (by have := hBs.out.size; exact this)))
                                          clear hb7
                                          obtain ⟨x0', x1', x2', x3', x4', x5', x6', x7', xa'⟩ := HFx.out w7 HB7.out
                                          obtain ⟨u0', u1', u2', u3', u4', u5', u6', u7', ua'⟩ := HFu.out w7 HB7.out
                                          obtain ⟨v0', v1', v2', v3', v4', v5', v6', v7', va'⟩ := HFv.out w7 HB7.out
                                          go_simp
                                          refine hK.out _ _ ?_ (fun hHeld => ?_)
                                          · with_reducible exact ⟨v0', v1', v2', v3', v4', v5', v6', v7', va', u5', x2'⟩
                                          clear hK K
                                          try simp only [Act.put, List.getElem_toArray, List.getElem_cons_zero, List.getElem_cons_succ, List.setIfInBounds_toArray, List.set_cons_zero, List.set_cons_succ]
                                          refine tkI (i := 8) (v := ?v202) rfl (.inl ⟨by kernel_rfl, ?y202⟩) ‹_› ?r202
                                          case y202 => (intro w h; (try dsimp only at h); go_simp <;> with_reducible rfl)
                                          refine tkI (i := 9) (v := ?v203) rfl (.inl ⟨by kernel_rfl, ?y203⟩) ‹_› ?r203
                                          case y203 => (intro w h; (try dsimp only at h); go_simp <;> with_reducible rfl)
                                          try simp only [Act.put, List.getElem_toArray, List.getElem_cons_zero, List.getElem_cons_succ, List.setIfInBounds_toArray, List.set_cons_zero, List.set_cons_succ]
                                          refine tkI (i := 10) (v := ?v204) rfl (.inl ⟨by kernel_rfl, ?y204⟩) ‹_› ?r204
                                          case y204 => (intro w h; (try dsimp only at h); go_simp <;> with_reducible rfl)
                                          refine tkI (i := 11) (v := ?v205) rfl (.inl ⟨by kernel_rfl, ?y205⟩) ‹_› ?r205
                                          case y205 => (intro w h; (try dsimp only at h); go_simp <;> with_reducible rfl)
                                          try simp only [Act.put, List.getElem_toArray, List.getElem_cons_zero, List.getElem_cons_succ, List.setIfInBounds_toArray, List.set_cons_zero, List.set_cons_succ]
                                          refine tkI (i := 12) (v := ?v206) rfl (.inl ⟨by kernel_rfl, ?y206⟩) ‹_› ?r206
                                          case y206 => (intro w h; (try dsimp only at h); go_simp <;> with_reducible rfl)
                                          refine tkI (i := 13) (v := ?v207) rfl (.inl ⟨by kernel_rfl, ?y207⟩) ‹_› ?r207
                                          case y207 => (intro w h; (try dsimp only at h); go_simp <;> with_reducible rfl)
                                          try simp only [Act.put, List.getElem_toArray, List.getElem_cons_zero, List.getElem_cons_succ, List.setIfInBounds_toArray, List.set_cons_zero, List.set_cons_succ]
                                          refine tkI (i := 14) (v := ?v208) rfl (.inl ⟨by kernel_rfl, ?y208⟩) ‹_› ?r208
                                          case y208 => (intro w h; (try dsimp only at h); go_simp <;> with_reducible rfl)
                                          refine tkI (i := 15) (v := ?v209) rfl (.inl ⟨by kernel_rfl, ?y209⟩) ‹_› ?r209
                                          case y209 => (intro w h; (try dsimp only at h); go_simp <;> with_reducible rfl)
                                          try simp only [Act.put, List.getElem_toArray, List.getElem_cons_zero, List.getElem_cons_succ, List.setIfInBounds_toArray, List.set_cons_zero, List.set_cons_succ]
                                          refine tkI (i := 16) (v := ?v210) rfl (.inl ⟨by kernel_rfl, ?y210⟩) ‹_› ?r210
                                          case y210 => (intro w h; (try dsimp only at h); go_simp <;> with_reducible rfl)
                                          refine tkI (i := 17) (v := ?v211) rfl (.inl ⟨by kernel_rfl, ?y211⟩) ‹_› ?r211
                                          case y211 => (intro w h; (try dsimp only at h); go_simp <;> with_reducible rfl)
                                          try simp only [Act.put, List.getElem_toArray, List.getElem_cons_zero, List.getElem_cons_succ, List.setIfInBounds_toArray, List.set_cons_zero, List.set_cons_succ]
                                          refine tkI (i := 18) (v := ?v212) rfl (.inl ⟨by kernel_rfl, ?y212⟩) ‹_› ?r212
                                          case y212 => (intro w h; (try dsimp only at h); go_simp <;> with_reducible rfl)
                                          refine tkI (i := 19) (v := ?v213) rfl (.inl ⟨by kernel_rfl, ?y213⟩) ‹_› ?r213
                                          case y213 => (intro w h; (try dsimp only at h); go_simp <;> with_reducible rfl)
                                          try simp only [Act.put, List.getElem_toArray, List.getElem_cons_zero, List.getElem_cons_succ, List.setIfInBounds_toArray, List.set_cons_zero, List.set_cons_succ]
                                          refine tkI (i := 20) (v := ?v214) rfl (.inl ⟨by kernel_rfl, ?y214⟩) ‹_› ?r214
                                          case y214 => (intro w h; (try dsimp only at h); go_simp <;> with_reducible rfl)
                                          refine tkI (i := 21) (v := ?v215) rfl (.inl ⟨by kernel_rfl, ?y215⟩) ‹_› ?r215
                                          case y215 => (intro w h; (try dsimp only at h); go_simp <;> with_reducible rfl)
                                          try simp only [Act.put, List.getElem_toArray, List.getElem_cons_zero, List.getElem_cons_succ, List.setIfInBounds_toArray, List.set_cons_zero, List.set_cons_succ]
                                          refine tkI (i := 22) (v := ?v216) rfl (.inl ⟨by kernel_rfl, ?y216⟩) ‹_› ?r216
                                          case y216 => (intro w h; (try dsimp only at h); go_simp <;> with_reducible rfl)
                                          refine tkI (i := 23) (v := ?v217) rfl (.inl ⟨by kernel_rfl, ?y217⟩) ‹_› ?r217
                                          case y217 => (intro w h; (try dsimp only at h); go_simp <;> with_reducible rfl)
                                          try simp only [Act.put, List.getElem_toArray, List.getElem_cons_zero, List.getElem_cons_succ, List.setIfInBounds_toArray, List.set_cons_zero, List.set_cons_succ]
                                          refine tkI (i := 24) (v := ?v218) rfl (.inl ⟨by kernel_rfl, ?y218⟩) ‹_› ?r218
                                          case y218 => (intro w h; (try dsimp only at h); go_simp <;> with_reducible rfl)
                                          refine tkI (i := 25) (v := ?v219) rfl (.inl ⟨by kernel_rfl, ?y219⟩) ‹_› ?r219
                                          case y219 => (intro w h; (try dsimp only at h); go_simp <;> with_reducible rfl)
                                          try simp only [Act.put, List.getElem_toArray, List.getElem_cons_zero, List.getElem_cons_succ, List.setIfInBounds_toArray, List.set_cons_zero, List.set_cons_succ]
                                          refine tkI (i := 26) (v := ?v220) rfl (.inl ⟨by kernel_rfl, ?y220⟩) ‹_› ?r220
                                          case y220 => (intro w h; (try dsimp only at h); go_simp <;> with_reducible rfl)
                                          refine tkI (i := 27) (v := ?v221) rfl (.inl ⟨by kernel_rfl, ?y221⟩) ‹_› ?r221
                                          case y221 => (intro w h; (try dsimp only at h); go_simp <;> with_reducible rfl)
                                          try simp only [Act.put, List.getElem_toArray, List.getElem_cons_zero, List.getElem_cons_succ, List.setIfInBounds_toArray, List.set_cons_zero, List.set_cons_succ]
                                          refine tkI (i := 28) (v := ?v222) rfl (.inl ⟨by kernel_rfl, ?y222⟩) ‹_› ?r222
                                          case y222 => (intro w h; (try dsimp only at h); go_simp <;> with_reducible rfl)
                                          refine tkI (i := 29) (v := ?v223) rfl (.inl ⟨by kernel_rfl, ?y223⟩) ‹_› ?r223
                                          case y223 => (intro w h; (try dsimp only at h); go_simp <;> with_reducible rfl)
                                          try simp only [Act.put, List.getElem_toArray, List.getElem_cons_zero, List.getElem_cons_succ, List.setIfInBounds_toArray, List.set_cons_zero, List.set_cons_succ]
                                          refine tkI (i := 30) (v := ?v224) rfl (.inl ⟨by kernel_rfl, ?y224⟩) ‹_› ?r224
                                          case y224 => (intro w h; (try dsimp only at h); go_simp <;> with_reducible rfl)
                                          try simp only [Act.put, List.getElem_toArray, List.getElem_cons_zero, List.getElem_cons_succ, List.setIfInBounds_toArray, List.set_cons_zero, List.set_cons_succ]
                                          refine tkI (i := 31) (v := ?v225) rfl (.inl ⟨by kernel_rfl, ?y225⟩) ‹_› ?r225
                                          case y225 => (intro w h; (try dsimp only at h); go_simp <;> with_reducible rfl)
                                          try simp only [Act.put, List.getElem_toArray, List.getElem_cons_zero, List.getElem_cons_succ, List.setIfInBounds_toArray, List.set_cons_zero, List.set_cons_succ]
                                          refine tkI (i := 32) (v := ?v226) rfl (.inl ⟨by kernel_rfl, ?y226⟩) ‹_› ?r226
                                          case y226 => (intro w h; (try dsimp only at h); go_simp <;> with_reducible rfl)
                                          try simp only [Act.put, List.getElem_toArray, List.getElem_cons_zero, List.getElem_cons_succ, List.setIfInBounds_toArray, List.set_cons_zero, List.set_cons_succ]
                                          refine tkI (i := 33) (v := ?v227) rfl (.inl ⟨by kernel_rfl, ?y227⟩) ‹_› ?r227
                                          case y227 => (intro w h; (try dsimp only at h); go_simp <;> with_reducible rfl)
                                          try simp only [Act.put, List.getElem_toArray, List.getElem_cons_zero, List.getElem_cons_succ, List.setIfInBounds_toArray, List.set_cons_zero, List.set_cons_succ]
                                          refine tkI (i := 34) (v := ?v228) rfl (.inl ⟨by kernel_rfl, ?y228⟩) ‹_› ?r228
                                          case y228 => (intro w h; (try dsimp only at h); go_simp <;> with_reducible rfl)
                                          try simp only [Act.put, List.getElem_toArray, List.getElem_cons_zero, List.getElem_cons_succ, List.setIfInBounds_toArray, List.set_cons_zero, List.set_cons_succ]
                                          refine tkI (i := 35) (v := ?v229) rfl (.inl ⟨by kernel_rfl, ?y229⟩) ‹_› ?r229
                                          case y229 => (intro w h; (try dsimp only at h); go_simp <;> with_reducible rfl)
                                          try simp only [Act.put, List.getElem_toArray, List.getElem_cons_zero, List.getElem_cons_succ, List.setIfInBounds_toArray, List.set_cons_zero, List.set_cons_succ]
                                          refine tkI (i := 36) (v := ?v230) rfl (.inl ⟨by kernel_rfl, ?y230⟩) ‹_› ?r230
                                          case y230 => (intro w h; (try dsimp only at h); go_simp <;> with_reducible rfl)
                                          try simp only [Act.put, List.getElem_toArray, List.getElem_cons_zero, List.getElem_cons_succ, List.setIfInBounds_toArray, List.set_cons_zero, List.set_cons_succ]
                                          refine tkI (i := 37) (v := ?v231) rfl (.inl ⟨by kernel_rfl, ?y231⟩) ‹_› ?r231
                                          case y231 => (intro w h; (try dsimp only at h); go_simp <;> with_reducible rfl)
                                          try simp only [Act.put, List.getElem_toArray, List.getElem_cons_zero, List.getElem_cons_succ, List.setIfInBounds_toArray, List.set_cons_zero, List.set_cons_succ]
                                          refine tkI (i := 38) (v := ?v232) rfl (.inl ⟨by kernel_rfl, ?y232⟩) ‹_› ?r232
                                          case y232 => (intro w h; (try dsimp only at h); go_simp <;> with_reducible rfl)
                                          try simp only [Act.put, List.getElem_toArray, List.getElem_cons_zero, List.getElem_cons_succ, List.setIfInBounds_toArray, List.set_cons_zero, List.set_cons_succ]
                                          refine tkI (i := 39) (v := ?v233) rfl (.inl ⟨by kernel_rfl, ?y233⟩) ‹_› ?r233
                                          case y233 => (intro w h; (try dsimp only at h); go_simp <;> with_reducible rfl)
                                          try simp only [Act.put, List.getElem_toArray, List.getElem_cons_zero, List.getElem_cons_succ, List.setIfInBounds_toArray, List.set_cons_zero, List.set_cons_succ]
                                          refine tkI (i := 40) (v := ?v234) rfl (.inl ⟨by kernel_rfl, ?y234⟩) ‹_› ?r234
                                          case y234 => (intro w h; (try dsimp only at h); go_simp <;> with_reducible rfl)
                                          try simp only [Act.put, List.getElem_toArray, List.getElem_cons_zero, List.getElem_cons_succ, List.setIfInBounds_toArray, List.set_cons_zero, List.set_cons_succ]
                                          refine wpAnyH_done (by kernel_rfl) ?_ _
                                          clear x0 x1 x2 x3 x4 x5 x6 x7 xa x0' x1' x2' x3' x4' x5' x6' x7' xa' u0 u1 u2 u3 u4 u5 u6 u7 ua u0' u1' u2' u3' u4' u5' u6' u7' ua' v0 v1 v2 v3 v4 v5 v6 v7 va v0' v1' v2' v3' v4' v5' v6' v7' va'
                                          go_wp2_with fail
                                          go_roundw
                                          case rel => first | exact ⟨j3 + 1, true, by omega, by go_num, rfl, Lib.hid (by rw [any_snoc HUv.out, ← Bool.or_assoc, ← hG.out]; exact HR2.out), HB7⟩ | ((repeat apply Exists.intro); exact ⟨⟨j3 + 1, true, by omega, by go_num, rfl, Lib.hid (by rw [any_snoc HUv.out, ← Bool.or_assoc, ← hG.out]; exact HR2.out), HB7⟩, rfl⟩)
                                          case measure => simp [intOf]; omega
                                      · have e3a : ¬ (v.resp : Int) < (x.resp : Int) := by omega
                                        have hrt : rb2 = false := by rw [HR2.out]; unfold gvP; rw [decide_eq_false e3, Bool.and_false, Bool.and_false]; rfl
                                        subst hrt
                                        as_aux_lemma =>
                                          refine wp_region_held_drew (S := (fun w' => w'.cell? ⟨gE, j3 * 8, none⟩ = some (.int .i64 (v.i : Int)) ∧ w'.cell? ⟨gE, j3 * 8 + 1, none⟩ = some (.int .i64 (v.inv : Int)) ∧ w'.cell? ⟨gE, j3 * 8 + 2, none⟩ = some (.int .i64 (v.resp : Int)) ∧ w'.cell? ⟨gE, j3 * 8 + 3, none⟩ = some (.int .i64 (v.steps : Int)) ∧ w'.cell? ⟨gE, j3 * 8 + 4, none⟩ = some (.int .i64 (v.ans.err : Int)) ∧ w'.cell? ⟨gE, j3 * 8 + 5, none⟩ = some (.int .u64 (v.ans.val : Int)) ∧ w'.cell? ⟨gE, j3 * 8 + 6, none⟩ = some (.slice lav v.ans.list.length lcv) ∧ w'.cell? ⟨gE, j3 * 8 + 7, none⟩ = some (.slice kav v.key.length kcv) ∧ w'.cell? ⟨b, o + v.i * 6 + 3, none⟩ = some (.int .u64 (t.a : Int)) ∧ w'.cell? ⟨gE, j2 * 8 + 5, none⟩ = some (.int .u64 (u.ans.val : Int)) ∧ w'.cell? ⟨gE, j * 8 + 2, none⟩ = some (.int .i64 (x.resp : Int)))) (by kernel_rfl) ?_ (fun hHeld => ?_)
                                          · first | with_reducible exact ⟨v0, v1, v2, v3, v4, v5, v6, v7, va, u5, x2⟩ | go_keep
                                          refine tkI (i := 0) (v := ?v235) rfl (.inl ⟨by kernel_rfl, ?y235⟩) ‹_› ?r235
                                          case y235 => (intro w h; (try dsimp only at h); go_simp <;> with_reducible rfl)
                                          refine tkI (i := 1) (v := ?v236) rfl (.inl ⟨by kernel_rfl, ?y236⟩) ‹_› ?r236
                                          case y236 => (intro w h; (try dsimp only at h); go_simp <;> with_reducible rfl)
                                          try simp only [Act.put, List.getElem_toArray, List.getElem_cons_zero, List.getElem_cons_succ, List.setIfInBounds_toArray, List.set_cons_zero, List.set_cons_succ]
                                          refine tkI (i := 2) (v := ?v237) rfl (.inl ⟨by kernel_rfl, ?y237⟩) ‹_› ?r237
                                          case y237 => (intro w h; (try dsimp only at h); go_simp <;> with_reducible rfl)
                                          refine tkI (i := 3) (v := ?v238) rfl (.inl ⟨by kernel_rfl, ?y238⟩) ‹_› ?r238
                                          case y238 => (intro w h; (try dsimp only at h); go_simp <;> with_reducible rfl)
                                          try simp only [Act.put, List.getElem_toArray, List.getElem_cons_zero, List.getElem_cons_succ, List.setIfInBounds_toArray, List.set_cons_zero, List.set_cons_succ]
                                          refine tkI (i := 4) (v := ?v239) rfl (.inl ⟨by kernel_rfl, ?y239⟩) ‹_› ?r239
                                          case y239 => (intro w h; (try dsimp only at h); go_simp <;> with_reducible rfl)
                                          refine tkI (i := 5) (v := ?v240) rfl (.inl ⟨by kernel_rfl, ?y240⟩) ‹_› ?r240
                                          case y240 => (intro w h; (try dsimp only at h); go_simp <;> with_reducible rfl)
                                          try simp only [Act.put, List.getElem_toArray, List.getElem_cons_zero, List.getElem_cons_succ, List.setIfInBounds_toArray, List.set_cons_zero, List.set_cons_succ]
                                          refine tkI (i := 6) (v := ?v241) rfl (.inl ⟨by kernel_rfl, ?y241⟩) ‹_› ?r241
                                          case y241 => (intro w h; (try dsimp only at h); go_simp <;> with_reducible rfl)
                                          refine wpAnyH_ready (rs := [7]) (by kernel_rfl) (by simp) ?_
                                          refine AllReadyH.cons (o := _) rfl (fun K hK => ?_) AllReadyH.nil
                                          go_simp
                                          go_at_call 17
                                          refine (HIv1.out _ (below_drew hBs.out)).mono ?_
                                          rintro e w7 ⟨rfl, hb7⟩
                                          have HB7 : Hid (Below w0.heap.size w0 w7) := Lib.hid ((below_drew hBs.out).trans (hb7.mono (by have := hBs.out.size; exact this)))
                                          clear hb7
                                          obtain ⟨x0', x1', x2', x3', x4', x5', x6', x7', xa'⟩ := HFx.out w7 HB7.out
                                          obtain ⟨u0', u1', u2', u3', u4', u5', u6', u7', ua'⟩ := HFu.out w7 HB7.out
                                          obtain ⟨v0', v1', v2', v3', v4', v5', v6', v7', va'⟩ := HFv.out w7 HB7.out
                                          go_simp
                                          refine hK.out _ _ ?_ (fun hHeld => ?_)
                                          · with_reducible exact ⟨v0', v1', v2', v3', v4', v5', v6', v7', va', u5', x2'⟩
                                          clear hK K
                                          try simp only [Act.put, List.getElem_toArray, List.getElem_cons_zero, List.getElem_cons_succ, List.setIfInBounds_toArray, List.set_cons_zero, List.set_cons_succ]
                                          refine tkI (i := 8) (v := ?v242) rfl (.inl ⟨by kernel_rfl, ?y242⟩) ‹_› ?r242
                                          case y242 => (intro w h; (try dsimp only at h); go_simp <;> with_reducible rfl)
                                          refine tkI (i := 9) (v := ?v243) rfl (.inl ⟨by kernel_rfl, ?y243⟩) ‹_› ?r243
                                          case y243 => (intro w h; (try dsimp only at h); go_simp <;> with_reducible rfl)
                                          try simp only [Act.put, List.getElem_toArray, List.getElem_cons_zero, List.getElem_cons_succ, List.setIfInBounds_toArray, List.set_cons_zero, List.set_cons_succ]
                                          refine tkI (i := 10) (v := ?v244) rfl (.inl ⟨by kernel_rfl, ?y244⟩) ‹_› ?r244
                                          case y244 => (intro w h; (try dsimp only at h); go_simp <;> with_reducible rfl)
                                          refine tkI (i := 11) (v := ?v245) rfl (.inl ⟨by kernel_rfl, ?y245⟩) ‹_› ?r245
                                          case y245 => (intro w h; (try dsimp only at h); go_simp <;> with_reducible rfl)
                                          try simp only [Act.put, List.getElem_toArray, List.getElem_cons_zero, List.getElem_cons_succ, List.setIfInBounds_toArray, List.set_cons_zero, List.set_cons_succ]
                                          refine tkI (i := 12) (v := ?v246) rfl (.inl ⟨by kernel_rfl, ?y246⟩) ‹_› ?r246
                                          case y246 => (intro w h; (try dsimp only at h); go_simp <;> with_reducible rfl)
                                          refine tkI (i := 13) (v := ?v247) rfl (.inl ⟨by kernel_rfl, ?y247⟩) ‹_› ?r247
                                          case y247 => (intro w h; (try dsimp only at h); go_simp <;> with_reducible rfl)
                                          try simp only [Act.put, List.getElem_toArray, List.getElem_cons_zero, List.getElem_cons_succ, List.setIfInBounds_toArray, List.set_cons_zero, List.set_cons_succ]
                                          refine tkI (i := 14) (v := ?v248) rfl (.inl ⟨by kernel_rfl, ?y248⟩) ‹_› ?r248
                                          case y248 => (intro w h; (try dsimp only at h); go_simp <;> with_reducible rfl)
                                          refine tkI (i := 15) (v := ?v249) rfl (.inl ⟨by kernel_rfl, ?y249⟩) ‹_› ?r249
                                          case y249 => (intro w h; (try dsimp only at h); go_simp <;> with_reducible rfl)
                                          try simp only [Act.put, List.getElem_toArray, List.getElem_cons_zero, List.getElem_cons_succ, List.setIfInBounds_toArray, List.set_cons_zero, List.set_cons_succ]
                                          refine tkI (i := 16) (v := ?v250) rfl (.inl ⟨by kernel_rfl, ?y250⟩) ‹_› ?r250
                                          case y250 => (intro w h; (try dsimp only at h); go_simp <;> with_reducible rfl)
                                          refine tkI (i := 17) (v := ?v251) rfl (.inl ⟨by kernel_rfl, ?y251⟩) ‹_› ?r251
                                          case y251 => (intro w h; (try dsimp only at h); go_simp <;> with_reducible rfl)
                                          try simp only [Act.put, List.getElem_toArray, List.getElem_cons_zero, List.getElem_cons_succ, List.setIfInBounds_toArray, List.set_cons_zero, List.set_cons_succ]
                                          refine tkI (i := 18) (v := ?v252) rfl (.inl ⟨by kernel_rfl, ?y252⟩) ‹_› ?r252
                                          case y252 => (intro w h; (try dsimp only at h); go_simp <;> with_reducible rfl)
                                          refine tkI (i := 19) (v := ?v253) rfl (.inl ⟨by kernel_rfl, ?y253⟩) ‹_› ?r253
                                          case y253 => (intro w h; (try dsimp only at h); go_simp <;> with_reducible rfl)
                                          try simp only [Act.put, List.getElem_toArray, List.getElem_cons_zero, List.getElem_cons_succ, List.setIfInBounds_toArray, List.set_cons_zero, List.set_cons_succ]
                                          refine tkI (i := 20) (v := ?v254) rfl (.inl ⟨by kernel_rfl, ?y254⟩) ‹_› ?r254
                                          case y254 => (intro w h; (try dsimp only at h); go_simp <;> with_reducible rfl)
                                          refine tkI (i := 21) (v := ?v255) rfl (.inl ⟨by kernel_rfl, ?y255⟩) ‹_› ?r255
                                          case y255 => (intro w h; (try dsimp only at h); go_simp <;> with_reducible rfl)
                                          try simp only [Act.put, List.getElem_toArray, List.getElem_cons_zero, List.getElem_cons_succ, List.setIfInBounds_toArray, List.set_cons_zero, List.set_cons_succ]
                                          refine tkI (i := 22) (v := ?v256) rfl (.inl ⟨by kernel_rfl, ?y256⟩) ‹_› ?r256
                                          case y256 => (intro w h; (try dsimp only at h); go_simp <;> with_reducible rfl)
                                          refine tkI (i := 23) (v := ?v257) rfl (.inl ⟨by kernel_rfl, ?y257⟩) ‹_› ?r257
                                          case y257 => (intro w h; (try dsimp only at h); go_simp <;> with_reducible rfl)
                                          try simp only [Act.put, List.getElem_toArray, List.getElem_cons_zero, List.getElem_cons_succ, List.setIfInBounds_toArray, List.set_cons_zero, List.set_cons_succ]
                                          refine tkI (i := 24) (v := ?v258) rfl (.inl ⟨by kernel_rfl, ?y258⟩) ‹_› ?r258
                                          case y258 => (intro w h; (try dsimp only at h); go_simp <;> with_reducible rfl)
                                          refine tkI (i := 25) (v := ?v259) rfl (.inl ⟨by kernel_rfl, ?y259⟩) ‹_› ?r259
                                          case y259 => (intro w h; (try dsimp only at h); go_simp <;> with_reducible rfl)
                                          try simp only [Act.put, List.getElem_toArray, List.getElem_cons_zero, List.getElem_cons_succ, List.setIfInBounds_toArray, List.set_cons_zero, List.set_cons_succ]
                                          refine tkI (i := 26) (v := ?v260) rfl (.inl ⟨by kernel_rfl, ?y260⟩) ‹_› ?r260
                                          case y260 => (intro w h; (try dsimp only at h); go_simp <;> with_reducible rfl)
                                          refine tkI (i := 27) (v := ?v261) rfl (.inl ⟨by kernel_rfl, ?y261⟩) ‹_› ?r261
                                          case y261 => (intro w h; (try dsimp only at h); go_simp <;> with_reducible rfl)
                                          try simp only [Act.put, List.getElem_toArray, List.getElem_cons_zero, List.getElem_cons_succ, List.setIfInBounds_toArray, List.set_cons_zero, List.set_cons_succ]
                                          refine tkI (i := 28) (v := ?v262) rfl (.inl ⟨by kernel_rfl, ?y262⟩) ‹_› ?r262
                                          case y262 => (intro w h; (try dsimp only at h); go_simp <;> with_reducible rfl)
                                          refine tkI (i := 29) (v := ?v263) rfl (.inl ⟨by kernel_rfl, ?y263⟩) ‹_› ?r263
                                          case y263 => (intro w h; (try dsimp only at h); go_simp <;> with_reducible rfl)
                                          try simp only [Act.put, List.getElem_toArray, List.getElem_cons_zero, List.getElem_cons_succ, List.setIfInBounds_toArray, List.set_cons_zero, List.set_cons_succ]
                                          refine tkI (i := 30) (v := ?v264) rfl (.inl ⟨by kernel_rfl, ?y264⟩) ‹_› ?r264
                                          case y264 => (intro w h; (try dsimp only at h); go_simp <;> with_reducible rfl)
                                          try simp only [Act.put, List.getElem_toArray, List.getElem_cons_zero, List.getElem_cons_succ, List.setIfInBounds_toArray, List.set_cons_zero, List.set_cons_succ]
                                          refine tkI (i := 31) (v := ?v265) rfl (.inl ⟨by kernel_rfl, ?y265⟩) ‹_› ?r265
                                          case y265 => (intro w h; (try dsimp only at h); go_simp <;> with_reducible rfl)
                                          try simp only [Act.put, List.getElem_toArray, List.getElem_cons_zero, List.getElem_cons_succ, List.setIfInBounds_toArray, List.set_cons_zero, List.set_cons_succ]
                                          refine tkI (i := 32) (v := ?v266) rfl (.inl ⟨by kernel_rfl, ?y266⟩) ‹_› ?r266
                                          case y266 => (intro w h; (try dsimp only at h); go_simp <;> with_reducible rfl)
                                          try simp only [Act.put, List.getElem_toArray, List.getElem_cons_zero, List.getElem_cons_succ, List.setIfInBounds_toArray, List.set_cons_zero, List.set_cons_succ]
                                          refine tkI (i := 33) (v := ?v267) rfl (.inl ⟨by kernel_rfl, ?y267⟩) ‹_› ?r267
                                          case y267 => (intro w h; (try dsimp only at h); go_simp <;> with_reducible rfl)
                                          try simp only [Act.put, List.getElem_toArray, List.getElem_cons_zero, List.getElem_cons_succ, List.setIfInBounds_toArray, List.set_cons_zero, List.set_cons_succ]
                                          refine tkI (i := 34) (v := ?v268) rfl (.inl ⟨by kernel_rfl, ?y268⟩) ‹_› ?r268
                                          case y268 => (intro w h; (try dsimp only at h); go_simp <;> with_reducible rfl)
                                          try simp only [Act.put, List.getElem_toArray, List.getElem_cons_zero, List.getElem_cons_succ, List.setIfInBounds_toArray, List.set_cons_zero, List.set_cons_succ]
                                          refine tkI (i := 35) (v := ?v269) rfl (.inl ⟨by kernel_rfl, ?y269⟩) ‹_› ?r269
                                          case y269 => (intro w h; (try dsimp only at h); go_simp <;> with_reducible rfl)
                                          try simp only [Act.put, List.getElem_toArray, List.getElem_cons_zero, List.getElem_cons_succ, List.setIfInBounds_toArray, List.set_cons_zero, List.set_cons_succ]
                                          refine tkI (i := 36) (v := ?v270) rfl (.inl ⟨by kernel_rfl, ?y270⟩) ‹_› ?r270
                                          case y270 => (intro w h; (try dsimp only at h); go_simp <;> with_reducible rfl)
                                          try simp only [Act.put, List.getElem_toArray, List.getElem_cons_zero, List.getElem_cons_succ, List.setIfInBounds_toArray, List.set_cons_zero, List.set_cons_succ]
                                          refine tkI (i := 37) (v := ?v271) rfl (.inl ⟨by kernel_rfl, ?y271⟩) ‹_› ?r271
                                          case y271 => (intro w h; (try dsimp only at h); go_simp <;> with_reducible rfl)
                                          try simp only [Act.put, List.getElem_toArray, List.getElem_cons_zero, List.getElem_cons_succ, List.setIfInBounds_toArray, List.set_cons_zero, List.set_cons_succ]
                                          refine tkI (i := 38) (v := ?v272) rfl (.inl ⟨by kernel_rfl, ?y272⟩) ‹_› ?r272
                                          case y272 => (intro w h; (try dsimp only at h); go_simp <;> with_reducible rfl)
                                          try simp only [Act.put, List.getElem_toArray, List.getElem_cons_zero, List.getElem_cons_succ, List.setIfInBounds_toArray, List.set_cons_zero, List.set_cons_succ]
                                          refine tkI (i := 39) (v := ?v273) rfl (.inl ⟨by kernel_rfl, ?y273⟩) ‹_› ?r273
                                          case y273 => (intro w h; (try dsimp only at h); go_simp <;> with_reducible rfl)
                                          try simp only [Act.put, List.getElem_toArray, List.getElem_cons_zero, List.getElem_cons_succ, List.setIfInBounds_toArray, List.set_cons_zero, List.set_cons_succ]
                                          refine tkI (i := 40) (v := ?v274) rfl (.inl ⟨by kernel_rfl, ?y274⟩) ‹_› ?r274
                                          case y274 => (intro w h; (try dsimp only at h); go_simp <;> with_reducible rfl)
                                          try simp only [Act.put, List.getElem_toArray, List.getElem_cons_zero, List.getElem_cons_succ, List.setIfInBounds_toArray, List.set_cons_zero, List.set_cons_succ]
                                          refine wpAnyH_done (by kernel_rfl) ?_ _
                                          clear x0 x1 x2 x3 x4 x5 x6 x7 xa x0' x1' x2' x3' x4' x5' x6' x7' xa' u0 u1 u2 u3 u4 u5 u6 u7 ua u0' u1' u2' u3' u4' u5' u6' u7' ua' v0 v1 v2 v3 v4 v5 v6 v7 va v0' v1' v2' v3' v4' v5' v6' v7' va'
                                          go_wp2_with fail
                                          go_roundw
                                          case rel => first | exact ⟨j3 + 1, false, by omega, by go_num, rfl, Lib.hid (by rw [any_snoc HUv.out, ← Bool.or_assoc, ← hG.out]; exact HR2.out), HB7⟩ | ((repeat apply Exists.intro); exact ⟨⟨j3 + 1, false, by omega, by go_num, rfl, Lib.hid (by rw [any_snoc HUv.out, ← Bool.or_assoc, ← hG.out]; exact HR2.out), HB7⟩, rfl⟩)
                                          case measure => simp [intOf]; omega
                                    · have e2a : ¬ (t.a : Int) = (u.ans.val : Int) := by omega
                                      have e2b : ((t.a : Int) == (u.ans.val : Int)) = false := by rw [beq_eq_false_iff_ne]; exact e2a
                                      have hrt : rb2 = false := by rw [HR2.out]; unfold gvP; rw [HAv1.out, caC_some HZv.out, decide_eq_false e2]; rfl
                                      subst hrt
                                      as_aux_lemma =>
                                        refine wp_region_held_drew (S := (fun w' => w'.cell? ⟨gE, j3 * 8, none⟩ = some (.int .i64 (v.i : Int)) ∧ w'.cell? ⟨gE, j3 * 8 + 1, none⟩ = some (.int .i64 (v.inv : Int)) ∧ w'.cell? ⟨gE, j3 * 8 + 2, none⟩ = some (.int .i64 (v.resp : Int)) ∧ w'.cell? ⟨gE, j3 * 8 + 3, none⟩ = some (.int .i64 (v.steps : Int)) ∧ w'.cell? ⟨gE, j3 * 8 + 4, none⟩ = some (.int .i64 (v.ans.err : Int)) ∧ w'.cell? ⟨gE, j3 * 8 + 5, none⟩ = some (.int .u64 (v.ans.val : Int)) ∧ w'.cell? ⟨gE, j3 * 8 + 6, none⟩ = some (.slice lav v.ans.list.length lcv) ∧ w'.cell? ⟨gE, j3 * 8 + 7, none⟩ = some (.slice kav v.key.length kcv) ∧ w'.cell? ⟨b, o + v.i * 6 + 3, none⟩ = some (.int .u64 (t.a : Int)) ∧ w'.cell? ⟨gE, j2 * 8 + 5, none⟩ = some (.int .u64 (u.ans.val : Int)) ∧ w'.cell? ⟨gE, j * 8 + 2, none⟩ = some (.int .i64 (x.resp : Int)))) (by kernel_rfl) ?_ (fun hHeld => ?_)
                                        · first | with_reducible exact ⟨v0, v1, v2, v3, v4, v5, v6, v7, va, u5, x2⟩ | go_keep
                                        refine tkI (i := 0) (v := ?v275) rfl (.inl ⟨by kernel_rfl, ?y275⟩) ‹_› ?r275
                                        case y275 => (intro w h; (try dsimp only at h); go_simp <;> with_reducible rfl)
                                        refine tkI (i := 1) (v := ?v276) rfl (.inl ⟨by kernel_rfl, ?y276⟩) ‹_› ?r276
                                        case y276 => (intro w h; (try dsimp only at h); go_simp <;> with_reducible rfl)
                                        try simp only [Act.put, List.getElem_toArray, List.getElem_cons_zero, List.getElem_cons_succ, List.setIfInBounds_toArray, List.set_cons_zero, List.set_cons_succ]
                                        refine tkI (i := 2) (v := ?v277) rfl (.inl ⟨by kernel_rfl, ?y277⟩) ‹_› ?r277
                                        case y277 => (intro w h; (try dsimp only at h); go_simp <;> with_reducible rfl)
                                        refine tkI (i := 3) (v := ?v278) rfl (.inl ⟨by kernel_rfl, ?y278⟩) ‹_› ?r278
                                        case y278 => (intro w h; (try dsimp only at h); go_simp <;> with_reducible rfl)
                                        try simp only [Act.put, List.getElem_toArray, List.getElem_cons_zero, List.getElem_cons_succ, List.setIfInBounds_toArray, List.set_cons_zero, List.set_cons_succ]
                                        refine tkI (i := 4) (v := ?v279) rfl (.inl ⟨by kernel_rfl, ?y279⟩) ‹_› ?r279
                                        case y279 => (intro w h; (try dsimp only at h); go_simp <;> with_reducible rfl)
                                        refine tkI (i := 5) (v := ?v280) rfl (.inl ⟨by kernel_rfl, ?y280⟩) ‹_› ?r280
                                        case y280 => (intro w h; (try dsimp only at h); go_simp <;> with_reducible rfl)
                                        try simp only [Act.put, List.getElem_toArray, List.getElem_cons_zero, List.getElem_cons_succ, List.setIfInBounds_toArray, List.set_cons_zero, List.set_cons_succ]
                                        refine tkI (i := 6) (v := ?v281) rfl (.inl ⟨by kernel_rfl, ?y281⟩) ‹_› ?r281
                                        case y281 => (intro w h; (try dsimp only at h); go_simp <;> with_reducible rfl)
                                        refine wpAnyH_ready (rs := [7]) (by kernel_rfl) (by simp) ?_
                                        refine AllReadyH.cons (o := _) rfl (fun K hK => ?_) AllReadyH.nil
                                        go_simp
                                        go_at_call 17
                                        refine (HIv1.out _ (below_drew hBs.out)).mono ?_
                                        rintro e w7 ⟨rfl, hb7⟩
                                        have HB7 : Hid (Below w0.heap.size w0 w7) := Lib.hid ((below_drew hBs.out).trans (hb7.mono (by have := hBs.out.size; exact this)))
                                        clear hb7
                                        obtain ⟨x0', x1', x2', x3', x4', x5', x6', x7', xa'⟩ := HFx.out w7 HB7.out
                                        obtain ⟨u0', u1', u2', u3', u4', u5', u6', u7', ua'⟩ := HFu.out w7 HB7.out
                                        obtain ⟨v0', v1', v2', v3', v4', v5', v6', v7', va'⟩ := HFv.out w7 HB7.out
                                        go_simp
                                        refine hK.out _ _ ?_ (fun hHeld => ?_)
                                        · with_reducible exact ⟨v0', v1', v2', v3', v4', v5', v6', v7', va', u5', x2'⟩
                                        clear hK K
                                        try simp only [Act.put, List.getElem_toArray, List.getElem_cons_zero, List.getElem_cons_succ, List.setIfInBounds_toArray, List.set_cons_zero, List.set_cons_succ]
                                        refine tkI (i := 8) (v := ?v282) rfl (.inl ⟨by kernel_rfl, ?y282⟩) ‹_› ?r282
                                        case y282 => (intro w h; (try dsimp only at h); go_simp <;> with_reducible rfl)
                                        refine tkI (i := 9) (v := ?v283) rfl (.inl ⟨by kernel_rfl, ?y283⟩) ‹_› ?r283
                                        case y283 => (intro w h; (try dsimp only at h); go_simp <;> with_reducible rfl)
                                        try simp only [Act.put, List.getElem_toArray, List.getElem_cons_zero, List.getElem_cons_succ, List.setIfInBounds_toArray, List.set_cons_zero, List.set_cons_succ]
                                        refine tkI (i := 10) (v := ?v284) rfl (.inl ⟨by kernel_rfl, ?y284⟩) ‹_› ?r284
                                        case y284 => (intro w h; (try dsimp only at h); go_simp <;> with_reducible rfl)
                                        refine tkI (i := 11) (v := ?v285) rfl (.inl ⟨by kernel_rfl, ?y285⟩) ‹_› ?r285
                                        case y285 => (intro w h; (try dsimp only at h); go_simp <;> with_reducible rfl)
                                        try simp only [Act.put, List.getElem_toArray, List.getElem_cons_zero, List.getElem_cons_succ, List.setIfInBounds_toArray, List.set_cons_zero, List.set_cons_succ]
                                        refine tkI (i := 12) (v := ?v286) rfl (.inl ⟨by kernel_rfl, ?y286⟩) ‹_› ?r286
                                        case y286 => (intro w h; (try dsimp only at h); go_simp <;> with_reducible rfl)
                                        refine tkI (i := 13) (v := ?v287) rfl (.inl ⟨by kernel_rfl, ?y287⟩) ‹_› ?r287
                                        case y287 => (intro w h; (try dsimp only at h); go_simp <;> with_reducible rfl)
                                        try simp only [Act.put, List.getElem_toArray, List.getElem_cons_zero, List.getElem_cons_succ, List.setIfInBounds_toArray, List.set_cons_zero, List.set_cons_succ]
                                        refine tkI (i := 14) (v := ?v288) rfl (.inl ⟨by kernel_rfl, ?y288⟩) ‹_› ?r288
                                        case y288 => (intro w h; (try dsimp only at h); go_simp <;> with_reducible rfl)
                                        refine tkI (i := 15) (v := ?v289) rfl (.inl ⟨by kernel_rfl, ?y289⟩) ‹_› ?r289
                                        case y289 => (intro w h; (try dsimp only at h); go_simp <;> with_reducible rfl)
                                        try simp only [Act.put, List.getElem_toArray, List.getElem_cons_zero, List.getElem_cons_succ, List.setIfInBounds_toArray, List.set_cons_zero, List.set_cons_succ]
                                        refine tkI (i := 16) (v := ?v290) rfl (.inl ⟨by kernel_rfl, ?y290⟩) ‹_› ?r290
                                        case y290 => (intro w h; (try dsimp only at h); go_simp <;> with_reducible rfl)
                                        refine tkI (i := 17) (v := ?v291) rfl (.inl ⟨by kernel_rfl, ?y291⟩) ‹_› ?r291
                                        case y291 => (intro w h; (try dsimp only at h); go_simp <;> with_reducible rfl)
                                        try simp only [Act.put, List.getElem_toArray, List.getElem_cons_zero, List.getElem_cons_succ, List.setIfInBounds_toArray, List.set_cons_zero, List.set_cons_succ]
                                        refine tkI (i := 18) (v := ?v292) rfl (.inl ⟨by kernel_rfl, ?y292⟩) ‹_› ?r292
                                        case y292 => (intro w h; (try dsimp only at h); go_simp <;> with_reducible rfl)
                                        refine tkI (i := 19) (v := ?v293) rfl (.inl ⟨by kernel_rfl, ?y293⟩) ‹_› ?r293
                                        case y293 => (intro w h; (try dsimp only at h); go_simp <;> with_reducible rfl)
                                        try simp only [Act.put, List.getElem_toArray, List.getElem_cons_zero, List.getElem_cons_succ, List.setIfInBounds_toArray, List.set_cons_zero, List.set_cons_succ]
                                        refine tkI (i := 20) (v := ?v294) rfl (.inl ⟨by kernel_rfl, ?y294⟩) ‹_› ?r294
                                        case y294 => (intro w h; (try dsimp only at h); go_simp <;> with_reducible rfl)
                                        refine tkI (i := 21) (v := ?v295) rfl (.inl ⟨by kernel_rfl, ?y295⟩) ‹_› ?r295
                                        case y295 => (intro w h; (try dsimp only at h); go_simp <;> with_reducible rfl)
                                        try simp only [Act.put, List.getElem_toArray, List.getElem_cons_zero, List.getElem_cons_succ, List.setIfInBounds_toArray, List.set_cons_zero, List.set_cons_succ]
                                        refine tkI (i := 22) (v := ?v296) rfl (.inl ⟨by kernel_rfl, ?y296⟩) ‹_› ?r296
                                        case y296 => (intro w h; (try dsimp only at h); go_simp <;> with_reducible rfl)
                                        refine tkI (i := 23) (v := ?v297) rfl (.inl ⟨by kernel_rfl, ?y297⟩) ‹_› ?r297
                                        case y297 => (intro w h; (try dsimp only at h); go_simp <;> with_reducible rfl)
                                        try simp only [Act.put, List.getElem_toArray, List.getElem_cons_zero, List.getElem_cons_succ, List.setIfInBounds_toArray, List.set_cons_zero, List.set_cons_succ]
                                        refine tkI (i := 24) (v := ?v298) rfl (.inl ⟨by kernel_rfl, ?y298⟩) ‹_› ?r298
                                        case y298 => (intro w h; (try dsimp only at h); go_simp <;> with_reducible rfl)
                                        refine tkI (i := 25) (v := ?v299) rfl (.inl ⟨by kernel_rfl, ?y299⟩) ‹_› ?r299
                                        case y299 => (intro w h; (try dsimp only at h); go_simp <;> with_reducible rfl)
                                        try simp only [Act.put, List.getElem_toArray, List.getElem_cons_zero, List.getElem_cons_succ, List.setIfInBounds_toArray, List.set_cons_zero, List.set_cons_succ]
                                        refine tkI (i := 26) (v := ?v300) rfl (.inl ⟨by kernel_rfl, ?y300⟩) ‹_› ?r300
                                        case y300 => (intro w h; (try dsimp only at h); go_simp <;> with_reducible rfl)
                                        refine tkI (i := 27) (v := undef) rfl (.inr ⟨by kernel_rfl, rfl⟩) ‹_› ?r301
                                        try simp only [Act.put, List.getElem_toArray, List.getElem_cons_zero, List.getElem_cons_succ, List.setIfInBounds_toArray, List.set_cons_zero, List.set_cons_succ]
                                        refine tkI (i := 28) (v := undef) rfl (.inr ⟨by kernel_rfl, rfl⟩) ‹_› ?r302
                                        refine tkI (i := 29) (v := undef) rfl (.inr ⟨by kernel_rfl, rfl⟩) ‹_› ?r303
                                        try simp only [Act.put, List.getElem_toArray, List.getElem_cons_zero, List.getElem_cons_succ, List.setIfInBounds_toArray, List.set_cons_zero, List.set_cons_succ]
                                        refine tkI (i := 30) (v := undef) rfl (.inr ⟨by kernel_rfl, rfl⟩) ‹_› ?r304
                                        try simp only [Act.put, List.getElem_toArray, List.getElem_cons_zero, List.getElem_cons_succ, List.setIfInBounds_toArray, List.set_cons_zero, List.set_cons_succ]
                                        refine tkI (i := 31) (v := undef) rfl (.inr ⟨by kernel_rfl, rfl⟩) ‹_› ?r305
                                        try simp only [Act.put, List.getElem_toArray, List.getElem_cons_zero, List.getElem_cons_succ, List.setIfInBounds_toArray, List.set_cons_zero, List.set_cons_succ]
                                        refine tkI (i := 32) (v := undef) rfl (.inr ⟨by kernel_rfl, rfl⟩) ‹_› ?r306
                                        try simp only [Act.put, List.getElem_toArray, List.getElem_cons_zero, List.getElem_cons_succ, List.setIfInBounds_toArray, List.set_cons_zero, List.set_cons_succ]
                                        refine tkI (i := 33) (v := undef) rfl (.inr ⟨by kernel_rfl, rfl⟩) ‹_› ?r307
                                        try simp only [Act.put, List.getElem_toArray, List.getElem_cons_zero, List.getElem_cons_succ, List.setIfInBounds_toArray, List.set_cons_zero, List.set_cons_succ]
                                        refine tkI (i := 34) (v := undef) rfl (.inr ⟨by kernel_rfl, rfl⟩) ‹_› ?r308
                                        try simp only [Act.put, List.getElem_toArray, List.getElem_cons_zero, List.getElem_cons_succ, List.setIfInBounds_toArray, List.set_cons_zero, List.set_cons_succ]
                                        refine tkI (i := 35) (v := undef) rfl (.inr ⟨by kernel_rfl, rfl⟩) ‹_› ?r309
                                        try simp only [Act.put, List.getElem_toArray, List.getElem_cons_zero, List.getElem_cons_succ, List.setIfInBounds_toArray, List.set_cons_zero, List.set_cons_succ]
                                        refine tkI (i := 36) (v := undef) rfl (.inr ⟨by kernel_rfl, rfl⟩) ‹_› ?r310
                                        try simp only [Act.put, List.getElem_toArray, List.getElem_cons_zero, List.getElem_cons_succ, List.setIfInBounds_toArray, List.set_cons_zero, List.set_cons_succ]
                                        refine tkI (i := 37) (v := undef) rfl (.inr ⟨by kernel_rfl, rfl⟩) ‹_› ?r311
                                        try simp only [Act.put, List.getElem_toArray, List.getElem_cons_zero, List.getElem_cons_succ, List.setIfInBounds_toArray, List.set_cons_zero, List.set_cons_succ]
                                        refine tkI (i := 38) (v := ?v312) rfl (.inl ⟨by kernel_rfl, ?y312⟩) ‹_› ?r312
                                        case y312 => (intro w h; (try dsimp only at h); go_simp <;> with_reducible rfl)
                                        try simp only [Act.put, List.getElem_toArray, List.getElem_cons_zero, List.getElem_cons_succ, List.setIfInBounds_toArray, List.set_cons_zero, List.set_cons_succ]
                                        refine tkI (i := 39) (v := ?v313) rfl (.inl ⟨by kernel_rfl, ?y313⟩) ‹_› ?r313
                                        case y313 => (intro w h; (try dsimp only at h); go_simp <;> with_reducible rfl)
                                        try simp only [Act.put, List.getElem_toArray, List.getElem_cons_zero, List.getElem_cons_succ, List.setIfInBounds_toArray, List.set_cons_zero, List.set_cons_succ]
                                        refine tkI (i := 40) (v := ?v314) rfl (.inl ⟨by kernel_rfl, ?y314⟩) ‹_› ?r314
                                        case y314 => (intro w h; (try dsimp only at h); go_simp <;> with_reducible rfl)
                                        try simp only [Act.put, List.getElem_toArray, List.getElem_cons_zero, List.getElem_cons_succ, List.setIfInBounds_toArray, List.set_cons_zero, List.set_cons_succ]
                                        refine wpAnyH_done (by kernel_rfl) ?_ _
                                        clear x0 x1 x2 x3 x4 x5 x6 x7 xa x0' x1' x2' x3' x4' x5' x6' x7' xa' u0 u1 u2 u3 u4 u5 u6 u7 ua u0' u1' u2' u3' u4' u5' u6' u7' ua' v0 v1 v2 v3 v4 v5 v6 v7 va v0' v1' v2' v3' v4' v5' v6' v7' va'
                                        go_wp2_with fail
                                        go_roundw
                                        case rel => first | exact ⟨j3 + 1, false, by omega, by go_num, rfl, Lib.hid (by rw [any_snoc HUv.out, ← Bool.or_assoc, ← hG.out]; exact HR2.out), HB7⟩ | ((repeat apply Exists.intro); exact ⟨⟨j3 + 1, false, by omega, by go_num, rfl, Lib.hid (by rw [any_snoc HUv.out, ← Bool.or_assoc, ← hG.out]; exact HR2.out), HB7⟩, rfl⟩)
                                        case measure => simp [intOf]; omega
                              · have hjn : ¬ (j3 : Int) < (R.evs.length : Int) := by omega
                                have hgt : gb = true := by
                                  rw [hG.out, List.take_of_length_le (by omega)]
                                  rcases HON.out.gone with h | ⟨mm, zz, hmm, hzz, hcz, hlz⟩
                                  · rw [← HG0.out, decide_eq_true h]; rfl
                                  · rw [any_of (f := gvP cs x.resp u.ans.val) hmm (by unfold gvP; rw [hzz, decide_eq_true hcz, decide_eq_true hlz]; rfl), Bool.or_true]
                                subst hgt
                                go_wp2_with fail
                                go_roundw
                                case rel => first | exact ⟨j2 + 1, by omega, by go_num, hBs⟩ | ((repeat apply Exists.intro); exact ⟨⟨j2 + 1, by omega, by go_num, hBs⟩, rfl⟩)
                                case measure => simp [intOf]; omega
                  · have hjn : ¬ (j2 : Int) < (R.evs.length : Int) := by omega
                    go_wp2_with fail
                    go_roundw
                    case rel => first | exact ⟨j + 1, by omega, by go_num, hBq⟩ | ((repeat apply Exists.intro); exact ⟨⟨j + 1, by omega, by go_num, hBq⟩, rfl⟩)
                    case measure => simp [intOf]; omega
        | true =>
          have hx0f : ax0 = false := by
            cases hax : ax0 with
            | false => rfl
            | true => have h := isB_excl (HAx0.out.trans hax); rw [HAx1.out] at h; cases h
          subst hx0f
          have HON : Hid (OnceR cs R.evs j x) := Lib.hid (HAG.out.rel j x HUx.out HAx1.out)
          go_wp2_with fail
          go_loopw [11, 52] (fun tv kv wq => ∃ (j2 : Nat) (tb : Bool), j2 ≤ R.evs.length ∧ kv = .int .i64 j2 ∧ tv = .bool tb ∧ Hid (tb = (R.evs.take j2).any (tkP cs x.resp y.a)) ∧ Hid (Below w0.heap.size w0 wq)) (fun _ kv _ => R.evs.length - (intOf kv).toNat)
          case atStart => exact ⟨0, false, Nat.zero_le _, rfl, rfl, Lib.hid rfl, HB3'⟩
          case round =>
            as_aux_lemma =>
              obtain ⟨j2, tb, hj2, rfl, rfl, hG, hBq⟩ := hrel
              by_cases hlt2 : j2 < R.evs.length
              · obtain ⟨u, hu⟩ : ∃ u, R.evs[j2]? = some u := ⟨R.evs[j2], List.getElem?_eq_getElem (by omega)⟩
                have hum := List.mem_of_getElem? hu
                have hub := HAG.out.call u hum
                obtain ⟨z, hz⟩ : ∃ z, cs[u.i]? = some z := ⟨cs[u.i], List.getElem?_eq_getElem hub⟩
                have HUu := Lib.hid hu
                have HMu := Lib.hid hum
                have HZu := Lib.hid hz
                obtain ⟨_, lau, kau, lcu, kcu, hvu⟩ := HEV.out j2 u hu
                have HFu : Hid (∀ W : World, Below w0.heap.size w0 W → W.cell? ⟨gE, j2 * 8, none⟩ = some (.int .i64 (u.i : Int)) ∧ W.cell? ⟨gE, j2 * 8 + 1, none⟩ = some (.int .i64 (u.inv : Int)) ∧ W.cell? ⟨gE, j2 * 8 + 2, none⟩ = some (.int .i64 (u.resp : Int)) ∧ W.cell? ⟨gE, j2 * 8 + 3, none⟩ = some (.int .i64 (u.steps : Int)) ∧ W.cell? ⟨gE, j2 * 8 + 4, none⟩ = some (.int .i64 (u.ans.err : Int)) ∧ W.cell? ⟨gE, j2 * 8 + 5, none⟩ = some (.int .u64 (u.ans.val : Int)) ∧ W.cell? ⟨gE, j2 * 8 + 6, none⟩ = some (.slice lau u.ans.list.length lcu) ∧ W.cell? ⟨gE, j2 * 8 + 7, none⟩ = some (.slice kau u.key.length kcu) ∧ W.cell? ⟨b, o + u.i * 6 + 3, none⟩ = some (.int .u64 (z.a : Int))) := Lib.hid (fun W hW => by
                  have h2 := hvu.below hW
                  obtain ⟨c0, c1, c2, c3, _⟩ := HCALL.out W hW u.i z hz
                  exact ⟨h2.c0, h2.c1, h2.c2, h2.c3, h2.c4, h2.c5, h2.c6, h2.c7, c3⟩)
                obtain ⟨au0, hau0⟩ : ∃ a, isB cs 0 u = a := ⟨_, rfl⟩
                have HIu0 : Hid (∀ W : World, Below w0.heap.size w0 W → Calls Try.prog 17 #[.slice (some ⟨b, o, none⟩) cs.length cap, .agg #[.int .i64 (u.i : Int), .int .i64 (u.inv : Int), .int .i64 (u.resp : Int), .int .i64 (u.steps : Int), .int .i64 (u.ans.err : Int), .int .u64 (u.ans.val : Int), .slice lau u.ans.list.length lcu, .slice kau u.key.length kcu], .int .i64 0] W fun e w' => e = .returned (.bool au0) ∧ Below W.heap.size W w') := Lib.hid (fun W hW => by rw [← hau0]; exact is_any 0 u z lau kau u.ans.list.length lcu u.key.length kcu b o cap cs W (HCALL.out W hW) hz hcl)
                have HAu0 := Lib.hid hau0
                obtain ⟨au1, hau1⟩ : ∃ a, isB cs 1 u = a := ⟨_, rfl⟩
                have HIu1 : Hid (∀ W : World, Below w0.heap.size w0 W → Calls Try.prog 17 #[.slice (some ⟨b, o, none⟩) cs.length cap, .agg #[.int .i64 (u.i : Int), .int .i64 (u.inv : Int), .int .i64 (u.resp : Int), .int .i64 (u.steps : Int), .int .i64 (u.ans.err : Int), .int .u64 (u.ans.val : Int), .slice lau u.ans.list.length lcu, .slice kau u.key.length kcu], .int .i64 1] W fun e w' => e = .returned (.bool au1) ∧ Below W.heap.size W w') := Lib.hid (fun W hW => by rw [← hau1]; exact is_any 1 u z lau kau u.ans.list.length lcu u.key.length kcu b o cap cs W (HCALL.out W hW) hz hcl)
                have HAu1 := Lib.hid hau1
                have iu0 : (0 : Int) ≤ (j2 : Int) := Int.natCast_nonneg _
                have iu1 : (j2 : Int) < (R.evs.length : Int) := by omega
                have iu2 : (0 : Int) ≤ (u.i : Int) := Int.natCast_nonneg _
                have iu3 : (u.i : Int) < (cs.length : Int) := by omega
                clear hvu hu hum hub hz hau0 hau1
                obtain ⟨x0, x1, x2, x3, x4, x5, x6, x7, xa⟩ := HFx.out wr hBq.out
                obtain ⟨u0, u1, u2, u3, u4, u5, u6, u7, ua⟩ := HFu.out wr hBq.out
                go_wp2_with fail
                go_cut [52, 86] from 52 to 127 (fun kv rv wx => kv = .int .i64 j2 ∧ rv = .bool false ∧ Hid (Below w0.heap.size w0 wx))
                case first =>
                  have HBD : Hid (Below w0.heap.size w0 wr.drew) := Lib.hid (below_drew hBq.out)
                  by_cases e1 : j2 = j
                  · have e1b : ((j2 : Int) == (j : Int)) = true := by rw [beq_iff_eq]; omega
                    have e1c : ((j2 : Int) != (j : Int)) = false := by rw [bne_eq_false_iff_eq]; omega
                    have e1d : decide ((j2 : Int) = (j : Int)) = true := decide_eq_true (by omega)
                    clear e1
                    as_aux_lemma =>
                      refine wp_region_held_drew (S := (fun w' => w'.cell? ⟨gE, j2 * 8, none⟩ = some (.int .i64 (u.i : Int)) ∧ w'.cell? ⟨gE, j2 * 8 + 1, none⟩ = some (.int .i64 (u.inv : Int)) ∧ w'.cell? ⟨gE, j2 * 8 + 2, none⟩ = some (.int .i64 (u.resp : Int)) ∧ w'.cell? ⟨gE, j2 * 8 + 3, none⟩ = some (.int .i64 (u.steps : Int)) ∧ w'.cell? ⟨gE, j2 * 8 + 4, none⟩ = some (.int .i64 (u.ans.err : Int)) ∧ w'.cell? ⟨gE, j2 * 8 + 5, none⟩ = some (.int .u64 (u.ans.val : Int)) ∧ w'.cell? ⟨gE, j2 * 8 + 6, none⟩ = some (.slice lau u.ans.list.length lcu) ∧ w'.cell? ⟨gE, j2 * 8 + 7, none⟩ = some (.slice kau u.key.length kcu) ∧ w'.cell? ⟨b, o + u.i * 6 + 3, none⟩ = some (.int .u64 (z.a : Int)) ∧ w'.cell? ⟨gE, j * 8, none⟩ = some (.int .i64 (x.i : Int)) ∧ w'.cell? ⟨b, o + x.i * 6 + 3, none⟩ = some (.int .u64 (y.a : Int)))) (by kernel_rfl) ?_ (fun hHeld => ?_)
                      · first | with_reducible exact ⟨u0, u1, u2, u3, u4, u5, u6, u7, ua, x0, xa⟩ | go_keep
                      refine tkI (i := 0) (v := ?v315) rfl (.inl ⟨by kernel_rfl, ?y315⟩) ‹_› ?r315
                      case y315 => (intro w h; (try dsimp only at h); go_simp <;> with_reducible rfl)
                      refine tkI (i := 1) (v := ?v316) rfl (.inl ⟨by kernel_rfl, ?y316⟩) ‹_› ?r316
                      case y316 => (intro w h; (try dsimp only at h); go_simp <;> with_reducible rfl)
                      try simp only [Act.put, List.getElem_toArray, List.getElem_cons_zero, List.getElem_cons_succ, List.setIfInBounds_toArray, List.set_cons_zero, List.set_cons_succ]
                      refine tkI (i := 2) (v := ?v317) rfl (.inl ⟨by kernel_rfl, ?y317⟩) ‹_› ?r317
                      case y317 => (intro w h; (try dsimp only at h); go_simp <;> with_reducible rfl)
                      refine tkI (i := 3) (v := ?v318) rfl (.inl ⟨by kernel_rfl, ?y318⟩) ‹_› ?r318
                      case y318 => (intro w h; (try dsimp only at h); go_simp <;> with_reducible rfl)
                      try simp only [Act.put, List.getElem_toArray, List.getElem_cons_zero, List.getElem_cons_succ, List.setIfInBounds_toArray, List.set_cons_zero, List.set_cons_succ]
                      refine tkI (i := 4) (v := undef) rfl (.inr ⟨by kernel_rfl, rfl⟩) ‹_› ?r319
                      refine tkI (i := 5) (v := undef) rfl (.inr ⟨by kernel_rfl, rfl⟩) ‹_› ?r320
                      try simp only [Act.put, List.getElem_toArray, List.getElem_cons_zero, List.getElem_cons_succ, List.setIfInBounds_toArray, List.set_cons_zero, List.set_cons_succ]
                      refine tkI (i := 6) (v := undef) rfl (.inr ⟨by kernel_rfl, rfl⟩) ‹_› ?r321
                      refine tkI (i := 7) (v := undef) rfl (.inr ⟨by kernel_rfl, rfl⟩) ‹_› ?r322
                      try simp only [Act.put, List.getElem_toArray, List.getElem_cons_zero, List.getElem_cons_succ, List.setIfInBounds_toArray, List.set_cons_zero, List.set_cons_succ]
                      refine tkI (i := 8) (v := undef) rfl (.inr ⟨by kernel_rfl, rfl⟩) ‹_› ?r323
                      refine tkI (i := 9) (v := undef) rfl (.inr ⟨by kernel_rfl, rfl⟩) ‹_› ?r324
                      try simp only [Act.put, List.getElem_toArray, List.getElem_cons_zero, List.getElem_cons_succ, List.setIfInBounds_toArray, List.set_cons_zero, List.set_cons_succ]
                      refine tkI (i := 10) (v := ?v325) rfl (.inl ⟨by kernel_rfl, ?y325⟩) ‹_› ?r325
                      case y325 => (intro w h; (try dsimp only at h); go_simp <;> with_reducible rfl)
                      refine tkI (i := 11) (v := ?v326) rfl (.inl ⟨by kernel_rfl, ?y326⟩) ‹_› ?r326
                      case y326 => (intro w h; (try dsimp only at h); go_simp <;> with_reducible rfl)
                      try simp only [Act.put, List.getElem_toArray, List.getElem_cons_zero, List.getElem_cons_succ, List.setIfInBounds_toArray, List.set_cons_zero, List.set_cons_succ]
                      refine tkI (i := 12) (v := undef) rfl (.inr ⟨by kernel_rfl, rfl⟩) ‹_› ?r327
                      refine tkI (i := 13) (v := undef) rfl (.inr ⟨by kernel_rfl, rfl⟩) ‹_› ?r328
                      try simp only [Act.put, List.getElem_toArray, List.getElem_cons_zero, List.getElem_cons_succ, List.setIfInBounds_toArray, List.set_cons_zero, List.set_cons_succ]
                      refine tkI (i := 14) (v := undef) rfl (.inr ⟨by kernel_rfl, rfl⟩) ‹_› ?r329
                      refine tkI (i := 15) (v := undef) rfl (.inr ⟨by kernel_rfl, rfl⟩) ‹_› ?r330
                      try simp only [Act.put, List.getElem_toArray, List.getElem_cons_zero, List.getElem_cons_succ, List.setIfInBounds_toArray, List.set_cons_zero, List.set_cons_succ]
                      refine tkI (i := 16) (v := undef) rfl (.inr ⟨by kernel_rfl, rfl⟩) ‹_› ?r331
                      refine tkI (i := 17) (v := undef) rfl (.inr ⟨by kernel_rfl, rfl⟩) ‹_› ?r332
                      try simp only [Act.put, List.getElem_toArray, List.getElem_cons_zero, List.getElem_cons_succ, List.setIfInBounds_toArray, List.set_cons_zero, List.set_cons_succ]
                      refine tkI (i := 18) (v := undef) rfl (.inr ⟨by kernel_rfl, rfl⟩) ‹_› ?r333
                      refine tkI (i := 19) (v := undef) rfl (.inr ⟨by kernel_rfl, rfl⟩) ‹_› ?r334
                      try simp only [Act.put, List.getElem_toArray, List.getElem_cons_zero, List.getElem_cons_succ, List.setIfInBounds_toArray, List.set_cons_zero, List.set_cons_succ]
                      refine tkI (i := 20) (v := undef) rfl (.inr ⟨by kernel_rfl, rfl⟩) ‹_› ?r335
                      refine tkI (i := 21) (v := undef) rfl (.inr ⟨by kernel_rfl, rfl⟩) ‹_› ?r336
                      try simp only [Act.put, List.getElem_toArray, List.getElem_cons_zero, List.getElem_cons_succ, List.setIfInBounds_toArray, List.set_cons_zero, List.set_cons_succ]
                      refine tkI (i := 22) (v := undef) rfl (.inr ⟨by kernel_rfl, rfl⟩) ‹_› ?r337
                      refine tkI (i := 23) (v := undef) rfl (.inr ⟨by kernel_rfl, rfl⟩) ‹_› ?r338
                      try simp only [Act.put, List.getElem_toArray, List.getElem_cons_zero, List.getElem_cons_succ, List.setIfInBounds_toArray, List.set_cons_zero, List.set_cons_succ]
                      refine tkI (i := 24) (v := undef) rfl (.inr ⟨by kernel_rfl, rfl⟩) ‹_› ?r339
                      refine tkI (i := 25) (v := undef) rfl (.inr ⟨by kernel_rfl, rfl⟩) ‹_› ?r340
                      try simp only [Act.put, List.getElem_toArray, List.getElem_cons_zero, List.getElem_cons_succ, List.setIfInBounds_toArray, List.set_cons_zero, List.set_cons_succ]
                      refine tkI (i := 26) (v := undef) rfl (.inr ⟨by kernel_rfl, rfl⟩) ‹_› ?r341
                      refine tkI (i := 27) (v := undef) rfl (.inr ⟨by kernel_rfl, rfl⟩) ‹_› ?r342
                      try simp only [Act.put, List.getElem_toArray, List.getElem_cons_zero, List.getElem_cons_succ, List.setIfInBounds_toArray, List.set_cons_zero, List.set_cons_succ]
                      refine tkI (i := 28) (v := undef) rfl (.inr ⟨by kernel_rfl, rfl⟩) ‹_› ?r343
                      refine tkI (i := 29) (v := undef) rfl (.inr ⟨by kernel_rfl, rfl⟩) ‹_› ?r344
                      try simp only [Act.put, List.getElem_toArray, List.getElem_cons_zero, List.getElem_cons_succ, List.setIfInBounds_toArray, List.set_cons_zero, List.set_cons_succ]
                      refine tkI (i := 30) (v := undef) rfl (.inr ⟨by kernel_rfl, rfl⟩) ‹_› ?r345
                      try simp only [Act.put, List.getElem_toArray, List.getElem_cons_zero, List.getElem_cons_succ, List.setIfInBounds_toArray, List.set_cons_zero, List.set_cons_succ]
                      refine tkI (i := 31) (v := ?v346) rfl (.inl ⟨by kernel_rfl, ?y346⟩) ‹_› ?r346
                      case y346 => (intro w h; (try dsimp only at h); go_simp <;> with_reducible rfl)
                      try simp only [Act.put, List.getElem_toArray, List.getElem_cons_zero, List.getElem_cons_succ, List.setIfInBounds_toArray, List.set_cons_zero, List.set_cons_succ]
                      refine wpAnyH_done (by kernel_rfl) ?_ _
                      clear x0 x1 x2 x3 x4 x5 x6 x7 xa u0 u1 u2 u3 u4 u5 u6 u7 ua
                      have HB7 := HBD
                      go_wp2_with fail
                      go_meet
                      exact ⟨rfl, rfl, HB7⟩
                  · have e1a : ¬ (j2 : Int) = (j : Int) := by omega
                    have e1b : ((j2 : Int) == (j : Int)) = false := by rw [beq_eq_false_iff_ne]; exact e1a
                    have e1c : ((j2 : Int) != (j : Int)) = true := by rw [bne_iff_ne]; exact e1a
                    cases au1 with
                    | false =>
                      as_aux_lemma =>
                        refine wp_region_held_drew (S := (fun w' => w'.cell? ⟨gE, j2 * 8, none⟩ = some (.int .i64 (u.i : Int)) ∧ w'.cell? ⟨gE, j2 * 8 + 1, none⟩ = some (.int .i64 (u.inv : Int)) ∧ w'.cell? ⟨gE, j2 * 8 + 2, none⟩ = some (.int .i64 (u.resp : Int)) ∧ w'.cell? ⟨gE, j2 * 8 + 3, none⟩ = some (.int .i64 (u.steps : Int)) ∧ w'.cell? ⟨gE, j2 * 8 + 4, none⟩ = some (.int .i64 (u.ans.err : Int)) ∧ w'.cell? ⟨gE, j2 * 8 + 5, none⟩ = some (.int .u64 (u.ans.val : Int)) ∧ w'.cell? ⟨gE, j2 * 8 + 6, none⟩ = some (.slice lau u.ans.list.length lcu) ∧ w'.cell? ⟨gE, j2 * 8 + 7, none⟩ = some (.slice kau u.key.length kcu) ∧ w'.cell? ⟨b, o + u.i * 6 + 3, none⟩ = some (.int .u64 (z.a : Int)) ∧ w'.cell? ⟨gE, j * 8, none⟩ = some (.int .i64 (x.i : Int)) ∧ w'.cell? ⟨b, o + x.i * 6 + 3, none⟩ = some (.int .u64 (y.a : Int)))) (by kernel_rfl) ?_ (fun hHeld => ?_)
                        · first | with_reducible exact ⟨u0, u1, u2, u3, u4, u5, u6, u7, ua, x0, xa⟩ | go_keep
                        refine tkI (i := 0) (v := ?v347) rfl (.inl ⟨by kernel_rfl, ?y347⟩) ‹_› ?r347
                        case y347 => (intro w h; (try dsimp only at h); go_simp <;> with_reducible rfl)
                        refine tkI (i := 1) (v := ?v348) rfl (.inl ⟨by kernel_rfl, ?y348⟩) ‹_› ?r348
                        case y348 => (intro w h; (try dsimp only at h); go_simp <;> with_reducible rfl)
                        try simp only [Act.put, List.getElem_toArray, List.getElem_cons_zero, List.getElem_cons_succ, List.setIfInBounds_toArray, List.set_cons_zero, List.set_cons_succ]
                        refine tkI (i := 2) (v := ?v349) rfl (.inl ⟨by kernel_rfl, ?y349⟩) ‹_› ?r349
                        case y349 => (intro w h; (try dsimp only at h); go_simp <;> with_reducible rfl)
                        refine tkI (i := 3) (v := ?v350) rfl (.inl ⟨by kernel_rfl, ?y350⟩) ‹_› ?r350
                        case y350 => (intro w h; (try dsimp only at h); go_simp <;> with_reducible rfl)
                        try simp only [Act.put, List.getElem_toArray, List.getElem_cons_zero, List.getElem_cons_succ, List.setIfInBounds_toArray, List.set_cons_zero, List.set_cons_succ]
                        refine tkI (i := 4) (v := ?v351) rfl (.inl ⟨by kernel_rfl, ?y351⟩) ‹_› ?r351
                        case y351 => (intro w h; (try dsimp only at h); go_simp <;> with_reducible rfl)
                        refine tkI (i := 5) (v := ?v352) rfl (.inl ⟨by kernel_rfl, ?y352⟩) ‹_› ?r352
                        case y352 => (intro w h; (try dsimp only at h); go_simp <;> with_reducible rfl)
                        try simp only [Act.put, List.getElem_toArray, List.getElem_cons_zero, List.getElem_cons_succ, List.setIfInBounds_toArray, List.set_cons_zero, List.set_cons_succ]
                        refine tkI (i := 6) (v := ?v353) rfl (.inl ⟨by kernel_rfl, ?y353⟩) ‹_› ?r353
                        case y353 => (intro w h; (try dsimp only at h); go_simp <;> with_reducible rfl)
                        refine tkI (i := 7) (v := ?v354) rfl (.inl ⟨by kernel_rfl, ?y354⟩) ‹_› ?r354
                        case y354 => (intro w h; (try dsimp only at h); go_simp <;> with_reducible rfl)
                        try simp only [Act.put, List.getElem_toArray, List.getElem_cons_zero, List.getElem_cons_succ, List.setIfInBounds_toArray, List.set_cons_zero, List.set_cons_succ]
                        refine tkI (i := 8) (v := ?v355) rfl (.inl ⟨by kernel_rfl, ?y355⟩) ‹_› ?r355
                        case y355 => (intro w h; (try dsimp only at h); go_simp <;> with_reducible rfl)
                        refine wpAnyH_ready (rs := [9]) (by kernel_rfl) (by simp) ?_
                        refine AllReadyH.cons (o := _) rfl (fun K hK => ?_) AllReadyH.nil
                        go_simp
                        go_at_call 17
                        refine (HIu1.out _ (below_drew hBq.out)).mono ?_
                        rintro e w7 ⟨rfl, hb7⟩
                        have HB7 : Hid (Below w0.heap.size w0 w7) := Lib.hid ((below_drew hBq.out).trans (hb7.mono (by have := hBq.out.size; exact this)))
                        clear hb7
                        obtain ⟨x0', x1', x2', x3', x4', x5', x6', x7', xa'⟩ := HFx.out w7 HB7.out
                        obtain ⟨u0', u1', u2', u3', u4', u5', u6', u7', ua'⟩ := HFu.out w7 HB7.out
                        go_simp
                        refine hK.out _ _ ?_ (fun hHeld => ?_)
                        · with_reducible exact ⟨u0', u1', u2', u3', u4', u5', u6', u7', ua', x0', xa'⟩
                        clear hK K
                        try simp only [Act.put, List.getElem_toArray, List.getElem_cons_zero, List.getElem_cons_succ, List.setIfInBounds_toArray, List.set_cons_zero, List.set_cons_succ]
                        refine tkI (i := 10) (v := ?v356) rfl (.inl ⟨by kernel_rfl, ?y356⟩) ‹_› ?r356
                        case y356 => (intro w h; (try dsimp only at h); go_simp <;> with_reducible rfl)
                        refine tkI (i := 11) (v := ?v357) rfl (.inl ⟨by kernel_rfl, ?y357⟩) ‹_› ?r357
                        case y357 => (intro w h; (try dsimp only at h); go_simp <;> with_reducible rfl)
                        try simp only [Act.put, List.getElem_toArray, List.getElem_cons_zero, List.getElem_cons_succ, List.setIfInBounds_toArray, List.set_cons_zero, List.set_cons_succ]
                        refine tkI (i := 12) (v := undef) rfl (.inr ⟨by kernel_rfl, rfl⟩) ‹_› ?r358
                        refine tkI (i := 13) (v := undef) rfl (.inr ⟨by kernel_rfl, rfl⟩) ‹_› ?r359
                        try simp only [Act.put, List.getElem_toArray, List.getElem_cons_zero, List.getElem_cons_succ, List.setIfInBounds_toArray, List.set_cons_zero, List.set_cons_succ]
                        refine tkI (i := 14) (v := undef) rfl (.inr ⟨by kernel_rfl, rfl⟩) ‹_› ?r360
                        refine tkI (i := 15) (v := undef) rfl (.inr ⟨by kernel_rfl, rfl⟩) ‹_› ?r361
                        try simp only [Act.put, List.getElem_toArray, List.getElem_cons_zero, List.getElem_cons_succ, List.setIfInBounds_toArray, List.set_cons_zero, List.set_cons_succ]
                        refine tkI (i := 16) (v := undef) rfl (.inr ⟨by kernel_rfl, rfl⟩) ‹_› ?r362
                        refine tkI (i := 17) (v := undef) rfl (.inr ⟨by kernel_rfl, rfl⟩) ‹_› ?r363
                        try simp only [Act.put, List.getElem_toArray, List.getElem_cons_zero, List.getElem_cons_succ, List.setIfInBounds_toArray, List.set_cons_zero, List.set_cons_succ]
                        refine tkI (i := 18) (v := undef) rfl (.inr ⟨by kernel_rfl, rfl⟩) ‹_› ?r364
                        refine tkI (i := 19) (v := undef) rfl (.inr ⟨by kernel_rfl, rfl⟩) ‹_› ?r365
                        try simp only [Act.put, List.getElem_toArray, List.getElem_cons_zero, List.getElem_cons_succ, List.setIfInBounds_toArray, List.set_cons_zero, List.set_cons_succ]
                        refine tkI (i := 20) (v := undef) rfl (.inr ⟨by kernel_rfl, rfl⟩) ‹_› ?r366
                        refine tkI (i := 21) (v := undef) rfl (.inr ⟨by kernel_rfl, rfl⟩) ‹_› ?r367
                        try simp only [Act.put, List.getElem_toArray, List.getElem_cons_zero, List.getElem_cons_succ, List.setIfInBounds_toArray, List.set_cons_zero, List.set_cons_succ]
                        refine tkI (i := 22) (v := undef) rfl (.inr ⟨by kernel_rfl, rfl⟩) ‹_› ?r368
                        refine tkI (i := 23) (v := undef) rfl (.inr ⟨by kernel_rfl, rfl⟩) ‹_› ?r369
                        try simp only [Act.put, List.getElem_toArray, List.getElem_cons_zero, List.getElem_cons_succ, List.setIfInBounds_toArray, List.set_cons_zero, List.set_cons_succ]
                        refine tkI (i := 24) (v := undef) rfl (.inr ⟨by kernel_rfl, rfl⟩) ‹_› ?r370
                        refine tkI (i := 25) (v := undef) rfl (.inr ⟨by kernel_rfl, rfl⟩) ‹_› ?r371
                        try simp only [Act.put, List.getElem_toArray, List.getElem_cons_zero, List.getElem_cons_succ, List.setIfInBounds_toArray, List.set_cons_zero, List.set_cons_succ]
                        refine tkI (i := 26) (v := undef) rfl (.inr ⟨by kernel_rfl, rfl⟩) ‹_› ?r372
                        refine tkI (i := 27) (v := undef) rfl (.inr ⟨by kernel_rfl, rfl⟩) ‹_› ?r373
                        try simp only [Act.put, List.getElem_toArray, List.getElem_cons_zero, List.getElem_cons_succ, List.setIfInBounds_toArray, List.set_cons_zero, List.set_cons_succ]
                        refine tkI (i := 28) (v := undef) rfl (.inr ⟨by kernel_rfl, rfl⟩) ‹_› ?r374
                        refine tkI (i := 29) (v := undef) rfl (.inr ⟨by kernel_rfl, rfl⟩) ‹_› ?r375
                        try simp only [Act.put, List.getElem_toArray, List.getElem_cons_zero, List.getElem_cons_succ, List.setIfInBounds_toArray, List.set_cons_zero, List.set_cons_succ]
                        refine tkI (i := 30) (v := undef) rfl (.inr ⟨by kernel_rfl, rfl⟩) ‹_› ?r376
                        try simp only [Act.put, List.getElem_toArray, List.getElem_cons_zero, List.getElem_cons_succ, List.setIfInBounds_toArray, List.set_cons_zero, List.set_cons_succ]
                        refine tkI (i := 31) (v := ?v377) rfl (.inl ⟨by kernel_rfl, ?y377⟩) ‹_› ?r377
                        case y377 => (intro w h; (try dsimp only at h); go_simp <;> with_reducible rfl)
                        try simp only [Act.put, List.getElem_toArray, List.getElem_cons_zero, List.getElem_cons_succ, List.setIfInBounds_toArray, List.set_cons_zero, List.set_cons_succ]
                        refine wpAnyH_done (by kernel_rfl) ?_ _
                        clear x0 x1 x2 x3 x4 x5 x6 x7 xa x0' x1' x2' x3' x4' x5' x6' x7' xa' u0 u1 u2 u3 u4 u5 u6 u7 ua u0' u1' u2' u3' u4' u5' u6' u7' ua'
                        go_wp2_with fail
                        go_meet
                        exact ⟨rfl, rfl, HB7⟩
                    | true =>
                      have n1 := HON.out.one j2 u e1 HUu.out HAu1.out
                      rw [caC_some HZu.out, caC_some HZx.out] at n1
                      have n1a : ¬ (z.a : Int) = (y.a : Int) := by omega
                      have n1b : ((z.a : Int) == (y.a : Int)) = false := by rw [beq_eq_false_iff_ne]; exact n1a
                      as_aux_lemma =>
                        refine wp_region_held_drew (S := (fun w' => w'.cell? ⟨gE, j2 * 8, none⟩ = some (.int .i64 (u.i : Int)) ∧ w'.cell? ⟨gE, j2 * 8 + 1, none⟩ = some (.int .i64 (u.inv : Int)) ∧ w'.cell? ⟨gE, j2 * 8 + 2, none⟩ = some (.int .i64 (u.resp : Int)) ∧ w'.cell? ⟨gE, j2 * 8 + 3, none⟩ = some (.int .i64 (u.steps : Int)) ∧ w'.cell? ⟨gE, j2 * 8 + 4, none⟩ = some (.int .i64 (u.ans.err : Int)) ∧ w'.cell? ⟨gE, j2 * 8 + 5, none⟩ = some (.int .u64 (u.ans.val : Int)) ∧ w'.cell? ⟨gE, j2 * 8 + 6, none⟩ = some (.slice lau u.ans.list.length lcu) ∧ w'.cell? ⟨gE, j2 * 8 + 7, none⟩ = some (.slice kau u.key.length kcu) ∧ w'.cell? ⟨b, o + u.i * 6 + 3, none⟩ = some (.int .u64 (z.a : Int)) ∧ w'.cell? ⟨gE, j * 8, none⟩ = some (.int .i64 (x.i : Int)) ∧ w'.cell? ⟨b, o + x.i * 6 + 3, none⟩ = some (.int .u64 (y.a : Int)))) (by kernel_rfl) ?_ (fun hHeld => ?_)
                        · first | with_reducible exact ⟨u0, u1, u2, u3, u4, u5, u6, u7, ua, x0, xa⟩ | go_keep
                        refine tkI (i := 0) (v := ?v378) rfl (.inl ⟨by kernel_rfl, ?y378⟩) ‹_› ?r378
                        case y378 => (intro w h; (try dsimp only at h); go_simp <;> with_reducible rfl)
                        refine tkI (i := 1) (v := ?v379) rfl (.inl ⟨by kernel_rfl, ?y379⟩) ‹_› ?r379
                        case y379 => (intro w h; (try dsimp only at h); go_simp <;> with_reducible rfl)
                        try simp only [Act.put, List.getElem_toArray, List.getElem_cons_zero, List.getElem_cons_succ, List.setIfInBounds_toArray, List.set_cons_zero, List.set_cons_succ]
                        refine tkI (i := 2) (v := ?v380) rfl (.inl ⟨by kernel_rfl, ?y380⟩) ‹_› ?r380
                        case y380 => (intro w h; (try dsimp only at h); go_simp <;> with_reducible rfl)
                        refine tkI (i := 3) (v := ?v381) rfl (.inl ⟨by kernel_rfl, ?y381⟩) ‹_› ?r381
                        case y381 => (intro w h; (try dsimp only at h); go_simp <;> with_reducible rfl)
                        try simp only [Act.put, List.getElem_toArray, List.getElem_cons_zero, List.getElem_cons_succ, List.setIfInBounds_toArray, List.set_cons_zero, List.set_cons_succ]
                        refine tkI (i := 4) (v := ?v382) rfl (.inl ⟨by kernel_rfl, ?y382⟩) ‹_› ?r382
                        case y382 => (intro w h; (try dsimp only at h); go_simp <;> with_reducible rfl)
                        refine tkI (i := 5) (v := ?v383) rfl (.inl ⟨by kernel_rfl, ?y383⟩) ‹_› ?r383
                        case y383 => (intro w h; (try dsimp only at h); go_simp <;> with_reducible rfl)
                        try simp only [Act.put, List.getElem_toArray, List.getElem_cons_zero, List.getElem_cons_succ, List.setIfInBounds_toArray, List.set_cons_zero, List.set_cons_succ]
                        refine tkI (i := 6) (v := ?v384) rfl (.inl ⟨by kernel_rfl, ?y384⟩) ‹_› ?r384
                        case y384 => (intro w h; (try dsimp only at h); go_simp <;> with_reducible rfl)
                        refine tkI (i := 7) (v := ?v385) rfl (.inl ⟨by kernel_rfl, ?y385⟩) ‹_› ?r385
                        case y385 => (intro w h; (try dsimp only at h); go_simp <;> with_reducible rfl)
                        try simp only [Act.put, List.getElem_toArray, List.getElem_cons_zero, List.getElem_cons_succ, List.setIfInBounds_toArray, List.set_cons_zero, List.set_cons_succ]
                        refine tkI (i := 8) (v := ?v386) rfl (.inl ⟨by kernel_rfl, ?y386⟩) ‹_› ?r386
                        case y386 => (intro w h; (try dsimp only at h); go_simp <;> with_reducible rfl)
                        refine wpAnyH_ready (rs := [9]) (by kernel_rfl) (by simp) ?_
                        refine AllReadyH.cons (o := _) rfl (fun K hK => ?_) AllReadyH.nil
                        go_simp
                        go_at_call 17
                        refine (HIu1.out _ (below_drew hBq.out)).mono ?_
                        rintro e w7 ⟨rfl, hb7⟩
                        have HB7 : Hid (Below w0.heap.size w0 w7) := Lib.hid ((below_drew hBq.out).trans (hb7.mono (by have := hBq.out.size; exact this)))
                        clear hb7
                        obtain ⟨x0', x1', x2', x3', x4', x5', x6', x7', xa'⟩ := HFx.out w7 HB7.out
                        obtain ⟨u0', u1', u2', u3', u4', u5', u6', u7', ua'⟩ := HFu.out w7 HB7.out
                        go_simp
                        refine hK.out _ _ ?_ (fun hHeld => ?_)
                        · with_reducible exact ⟨u0', u1', u2', u3', u4', u5', u6', u7', ua', x0', xa'⟩
                        clear hK K
                        try simp only [Act.put, List.getElem_toArray, List.getElem_cons_zero, List.getElem_cons_succ, List.setIfInBounds_toArray, List.set_cons_zero, List.set_cons_succ]
                        refine tkI (i := 10) (v := ?v387) rfl (.inl ⟨by kernel_rfl, ?y387⟩) ‹_› ?r387
                        case y387 => (intro w h; (try dsimp only at h); go_simp <;> with_reducible rfl)
                        refine tkI (i := 11) (v := ?v388) rfl (.inl ⟨by kernel_rfl, ?y388⟩) ‹_› ?r388
                        case y388 => (intro w h; (try dsimp only at h); go_simp <;> with_reducible rfl)
                        try simp only [Act.put, List.getElem_toArray, List.getElem_cons_zero, List.getElem_cons_succ, List.setIfInBounds_toArray, List.set_cons_zero, List.set_cons_succ]
                        refine tkI (i := 12) (v := ?v389) rfl (.inl ⟨by kernel_rfl, ?y389⟩) ‹_› ?r389
                        case y389 => (intro w h; (try dsimp only at h); go_simp <;> with_reducible rfl)
                        refine tkI (i := 13) (v := ?v390) rfl (.inl ⟨by kernel_rfl, ?y390⟩) ‹_› ?r390
                        case y390 => (intro w h; (try dsimp only at h); go_simp <;> with_reducible rfl)
                        try simp only [Act.put, List.getElem_toArray, List.getElem_cons_zero, List.getElem_cons_succ, List.setIfInBounds_toArray, List.set_cons_zero, List.set_cons_succ]
                        refine tkI (i := 14) (v := ?v391) rfl (.inl ⟨by kernel_rfl, ?y391⟩) ‹_› ?r391
                        case y391 => (intro w h; (try dsimp only at h); go_simp <;> with_reducible rfl)
                        refine tkI (i := 15) (v := ?v392) rfl (.inl ⟨by kernel_rfl, ?y392⟩) ‹_› ?r392
                        case y392 => (intro w h; (try dsimp only at h); go_simp <;> with_reducible rfl)
                        try simp only [Act.put, List.getElem_toArray, List.getElem_cons_zero, List.getElem_cons_succ, List.setIfInBounds_toArray, List.set_cons_zero, List.set_cons_succ]
                        refine tkI (i := 16) (v := ?v393) rfl (.inl ⟨by kernel_rfl, ?y393⟩) ‹_› ?r393
                        case y393 => (intro w h; (try dsimp only at h); go_simp <;> with_reducible rfl)
                        refine tkI (i := 17) (v := ?v394) rfl (.inl ⟨by kernel_rfl, ?y394⟩) ‹_› ?r394
                        case y394 => (intro w h; (try dsimp only at h); go_simp <;> with_reducible rfl)
                        try simp only [Act.put, List.getElem_toArray, List.getElem_cons_zero, List.getElem_cons_succ, List.setIfInBounds_toArray, List.set_cons_zero, List.set_cons_succ]
                        refine tkI (i := 18) (v := ?v395) rfl (.inl ⟨by kernel_rfl, ?y395⟩) ‹_› ?r395
                        case y395 => (intro w h; (try dsimp only at h); go_simp <;> with_reducible rfl)
                        refine tkI (i := 19) (v := ?v396) rfl (.inl ⟨by kernel_rfl, ?y396⟩) ‹_› ?r396
                        case y396 => (intro w h; (try dsimp only at h); go_simp <;> with_reducible rfl)
                        try simp only [Act.put, List.getElem_toArray, List.getElem_cons_zero, List.getElem_cons_succ, List.setIfInBounds_toArray, List.set_cons_zero, List.set_cons_succ]
                        refine tkI (i := 20) (v := ?v397) rfl (.inl ⟨by kernel_rfl, ?y397⟩) ‹_› ?r397
                        case y397 => (intro w h; (try dsimp only at h); go_simp <;> with_reducible rfl)
                        refine tkI (i := 21) (v := ?v398) rfl (.inl ⟨by kernel_rfl, ?y398⟩) ‹_› ?r398
                        case y398 => (intro w h; (try dsimp only at h); go_simp <;> with_reducible rfl)
                        try simp only [Act.put, List.getElem_toArray, List.getElem_cons_zero, List.getElem_cons_succ, List.setIfInBounds_toArray, List.set_cons_zero, List.set_cons_succ]
                        refine tkI (i := 22) (v := ?v399) rfl (.inl ⟨by kernel_rfl, ?y399⟩) ‹_› ?r399
                        case y399 => (intro w h; (try dsimp only at h); go_simp <;> with_reducible rfl)
                        refine tkI (i := 23) (v := ?v400) rfl (.inl ⟨by kernel_rfl, ?y400⟩) ‹_› ?r400
                        case y400 => (intro w h; (try dsimp only at h); go_simp <;> with_reducible rfl)
                        try simp only [Act.put, List.getElem_toArray, List.getElem_cons_zero, List.getElem_cons_succ, List.setIfInBounds_toArray, List.set_cons_zero, List.set_cons_succ]
                        refine tkI (i := 24) (v := ?v401) rfl (.inl ⟨by kernel_rfl, ?y401⟩) ‹_› ?r401
                        case y401 => (intro w h; (try dsimp only at h); go_simp <;> with_reducible rfl)
                        refine tkI (i := 25) (v := ?v402) rfl (.inl ⟨by kernel_rfl, ?y402⟩) ‹_› ?r402
                        case y402 => (intro w h; (try dsimp only at h); go_simp <;> with_reducible rfl)
                        try simp only [Act.put, List.getElem_toArray, List.getElem_cons_zero, List.getElem_cons_succ, List.setIfInBounds_toArray, List.set_cons_zero, List.set_cons_succ]
                        refine tkI (i := 26) (v := ?v403) rfl (.inl ⟨by kernel_rfl, ?y403⟩) ‹_› ?r403
                        case y403 => (intro w h; (try dsimp only at h); go_simp <;> with_reducible rfl)
                        refine tkI (i := 27) (v := ?v404) rfl (.inl ⟨by kernel_rfl, ?y404⟩) ‹_› ?r404
                        case y404 => (intro w h; (try dsimp only at h); go_simp <;> with_reducible rfl)
                        try simp only [Act.put, List.getElem_toArray, List.getElem_cons_zero, List.getElem_cons_succ, List.setIfInBounds_toArray, List.set_cons_zero, List.set_cons_succ]
                        refine tkI (i := 28) (v := ?v405) rfl (.inl ⟨by kernel_rfl, ?y405⟩) ‹_› ?r405
                        case y405 => (intro w h; (try dsimp only at h); go_simp <;> with_reducible rfl)
                        refine tkI (i := 29) (v := ?v406) rfl (.inl ⟨by kernel_rfl, ?y406⟩) ‹_› ?r406
                        case y406 => (intro w h; (try dsimp only at h); go_simp <;> with_reducible rfl)
                        try simp only [Act.put, List.getElem_toArray, List.getElem_cons_zero, List.getElem_cons_succ, List.setIfInBounds_toArray, List.set_cons_zero, List.set_cons_succ]
                        refine tkI (i := 30) (v := ?v407) rfl (.inl ⟨by kernel_rfl, ?y407⟩) ‹_› ?r407
                        case y407 => (intro w h; (try dsimp only at h); go_simp <;> with_reducible rfl)
                        try simp only [Act.put, List.getElem_toArray, List.getElem_cons_zero, List.getElem_cons_succ, List.setIfInBounds_toArray, List.set_cons_zero, List.set_cons_succ]
                        refine tkI (i := 31) (v := ?v408) rfl (.inl ⟨by kernel_rfl, ?y408⟩) ‹_› ?r408
                        case y408 => (intro w h; (try dsimp only at h); go_simp <;> with_reducible rfl)
                        try simp only [Act.put, List.getElem_toArray, List.getElem_cons_zero, List.getElem_cons_succ, List.setIfInBounds_toArray, List.set_cons_zero, List.set_cons_succ]
                        refine wpAnyH_done (by kernel_rfl) ?_ _
                        clear x0 x1 x2 x3 x4 x5 x6 x7 xa x0' x1' x2' x3' x4' x5' x6' x7' xa' u0 u1 u2 u3 u4 u5 u6 u7 ua u0' u1' u2' u3' u4' u5' u6' u7' ua'
                        go_wp2_with fail
                        go_meet
                        exact ⟨rfl, rfl, HB7⟩
                case rest =>
                  as_aux_lemma =>
                    obtain ⟨rfl, rfl, HBc⟩ := hcut
                    clear x0 x1 x2 x3 x4 x5 x6 x7 xa u0 u1 u2 u3 u4 u5 u6 u7 ua
                    obtain ⟨x0, x1, x2, x3, x4, x5, x6, x7, xa⟩ := HFx.out wc HBc.out
                    obtain ⟨u0, u1, u2, u3, u4, u5, u6, u7, ua⟩ := HFu.out wc HBc.out
                    obtain ⟨rb, hrb⟩ : ∃ rb : Bool, rb = (tb || tkP cs x.resp y.a u) := ⟨_, rfl⟩
                    have HRB := Lib.hid hrb
                    clear hrb
                    go_wp2_with fail
                    have HBD : Hid (Below w0.heap.size w0 wc.drew) := Lib.hid (below_drew HBc.out)
                    cases tb with
                    | true =>
                      have hrt : rb = true := by rw [HRB.out]; rfl
                      subst hrt
                      as_aux_lemma =>
                        refine wp_region_held_drew (S := (fun w' => w'.cell? ⟨gE, j2 * 8, none⟩ = some (.int .i64 (u.i : Int)) ∧ w'.cell? ⟨gE, j2 * 8 + 1, none⟩ = some (.int .i64 (u.inv : Int)) ∧ w'.cell? ⟨gE, j2 * 8 + 2, none⟩ = some (.int .i64 (u.resp : Int)) ∧ w'.cell? ⟨gE, j2 * 8 + 3, none⟩ = some (.int .i64 (u.steps : Int)) ∧ w'.cell? ⟨gE, j2 * 8 + 4, none⟩ = some (.int .i64 (u.ans.err : Int)) ∧ w'.cell? ⟨gE, j2 * 8 + 5, none⟩ = some (.int .u64 (u.ans.val : Int)) ∧ w'.cell? ⟨gE, j2 * 8 + 6, none⟩ = some (.slice lau u.ans.list.length lcu) ∧ w'.cell? ⟨gE, j2 * 8 + 7, none⟩ = some (.slice kau u.key.length kcu) ∧ w'.cell? ⟨gE, j * 8, none⟩ = some (.int .i64 (x.i : Int)) ∧ w'.cell? ⟨gE, j * 8 + 2, none⟩ = some (.int .i64 (x.resp : Int)) ∧ w'.cell? ⟨b, o + x.i * 6 + 3, none⟩ = some (.int .u64 (y.a : Int)))) (by kernel_rfl) ?_ (fun hHeld => ?_)
                        · first | with_reducible exact ⟨u0, u1, u2, u3, u4, u5, u6, u7, x0, x2, xa⟩ | go_keep
                        refine tkI (i := 0) (v := ?v409) rfl (.inl ⟨by kernel_rfl, ?y409⟩) ‹_› ?r409
                        case y409 => (intro w h; (try dsimp only at h); go_simp <;> with_reducible rfl)
                        refine tkI (i := 1) (v := ?v410) rfl (.inl ⟨by kernel_rfl, ?y410⟩) ‹_› ?r410
                        case y410 => (intro w h; (try dsimp only at h); go_simp <;> with_reducible rfl)
                        try simp only [Act.put, List.getElem_toArray, List.getElem_cons_zero, List.getElem_cons_succ, List.setIfInBounds_toArray, List.set_cons_zero, List.set_cons_succ]
                        refine tkI (i := 2) (v := undef) rfl (.inr ⟨by kernel_rfl, rfl⟩) ‹_› ?r411
                        refine tkI (i := 3) (v := undef) rfl (.inr ⟨by kernel_rfl, rfl⟩) ‹_› ?r412
                        try simp only [Act.put, List.getElem_toArray, List.getElem_cons_zero, List.getElem_cons_succ, List.setIfInBounds_toArray, List.set_cons_zero, List.set_cons_succ]
                        refine tkI (i := 4) (v := undef) rfl (.inr ⟨by kernel_rfl, rfl⟩) ‹_› ?r413
                        refine tkI (i := 5) (v := undef) rfl (.inr ⟨by kernel_rfl, rfl⟩) ‹_› ?r414
                        try simp only [Act.put, List.getElem_toArray, List.getElem_cons_zero, List.getElem_cons_succ, List.setIfInBounds_toArray, List.set_cons_zero, List.set_cons_succ]
                        refine tkI (i := 6) (v := undef) rfl (.inr ⟨by kernel_rfl, rfl⟩) ‹_› ?r415
                        refine tkI (i := 7) (v := undef) rfl (.inr ⟨by kernel_rfl, rfl⟩) ‹_› ?r416
                        try simp only [Act.put, List.getElem_toArray, List.getElem_cons_zero, List.getElem_cons_succ, List.setIfInBounds_toArray, List.set_cons_zero, List.set_cons_succ]
                        refine tkI (i := 8) (v := undef) rfl (.inr ⟨by kernel_rfl, rfl⟩) ‹_› ?r417
                        refine tkI (i := 9) (v := undef) rfl (.inr ⟨by kernel_rfl, rfl⟩) ‹_› ?r418
                        try simp only [Act.put, List.getElem_toArray, List.getElem_cons_zero, List.getElem_cons_succ, List.setIfInBounds_toArray, List.set_cons_zero, List.set_cons_succ]
                        refine tkI (i := 10) (v := undef) rfl (.inr ⟨by kernel_rfl, rfl⟩) ‹_› ?r419
                        refine tkI (i := 11) (v := undef) rfl (.inr ⟨by kernel_rfl, rfl⟩) ‹_› ?r420
                        try simp only [Act.put, List.getElem_toArray, List.getElem_cons_zero, List.getElem_cons_succ, List.setIfInBounds_toArray, List.set_cons_zero, List.set_cons_succ]
                        refine tkI (i := 12) (v := undef) rfl (.inr ⟨by kernel_rfl, rfl⟩) ‹_› ?r421
                        refine tkI (i := 13) (v := undef) rfl (.inr ⟨by kernel_rfl, rfl⟩) ‹_› ?r422
                        try simp only [Act.put, List.getElem_toArray, List.getElem_cons_zero, List.getElem_cons_succ, List.setIfInBounds_toArray, List.set_cons_zero, List.set_cons_succ]
                        refine tkI (i := 14) (v := undef) rfl (.inr ⟨by kernel_rfl, rfl⟩) ‹_› ?r423
                        refine tkI (i := 15) (v := undef) rfl (.inr ⟨by kernel_rfl, rfl⟩) ‹_› ?r424
                        try simp only [Act.put, List.getElem_toArray, List.getElem_cons_zero, List.getElem_cons_succ, List.setIfInBounds_toArray, List.set_cons_zero, List.set_cons_succ]
                        refine tkI (i := 16) (v := undef) rfl (.inr ⟨by kernel_rfl, rfl⟩) ‹_› ?r425
                        refine tkI (i := 17) (v := undef) rfl (.inr ⟨by kernel_rfl, rfl⟩) ‹_› ?r426
                        try simp only [Act.put, List.getElem_toArray, List.getElem_cons_zero, List.getElem_cons_succ, List.setIfInBounds_toArray, List.set_cons_zero, List.set_cons_succ]
                        refine tkI (i := 18) (v := undef) rfl (.inr ⟨by kernel_rfl, rfl⟩) ‹_› ?r427
                        refine tkI (i := 19) (v := undef) rfl (.inr ⟨by kernel_rfl, rfl⟩) ‹_› ?r428
                        try simp only [Act.put, List.getElem_toArray, List.getElem_cons_zero, List.getElem_cons_succ, List.setIfInBounds_toArray, List.set_cons_zero, List.set_cons_succ]
                        refine tkI (i := 20) (v := undef) rfl (.inr ⟨by kernel_rfl, rfl⟩) ‹_› ?r429
                        refine tkI (i := 21) (v := undef) rfl (.inr ⟨by kernel_rfl, rfl⟩) ‹_› ?r430
                        try simp only [Act.put, List.getElem_toArray, List.getElem_cons_zero, List.getElem_cons_succ, List.setIfInBounds_toArray, List.set_cons_zero, List.set_cons_succ]
                        refine tkI (i := 22) (v := undef) rfl (.inr ⟨by kernel_rfl, rfl⟩) ‹_› ?r431
                        refine tkI (i := 23) (v := undef) rfl (.inr ⟨by kernel_rfl, rfl⟩) ‹_› ?r432
                        try simp only [Act.put, List.getElem_toArray, List.getElem_cons_zero, List.getElem_cons_succ, List.setIfInBounds_toArray, List.set_cons_zero, List.set_cons_succ]
                        refine tkI (i := 24) (v := undef) rfl (.inr ⟨by kernel_rfl, rfl⟩) ‹_› ?r433
                        refine tkI (i := 25) (v := undef) rfl (.inr ⟨by kernel_rfl, rfl⟩) ‹_› ?r434
                        try simp only [Act.put, List.getElem_toArray, List.getElem_cons_zero, List.getElem_cons_succ, List.setIfInBounds_toArray, List.set_cons_zero, List.set_cons_succ]
                        refine tkI (i := 26) (v := undef) rfl (.inr ⟨by kernel_rfl, rfl⟩) ‹_› ?r435
                        refine tkI (i := 27) (v := undef) rfl (.inr ⟨by kernel_rfl, rfl⟩) ‹_› ?r436
                        try simp only [Act.put, List.getElem_toArray, List.getElem_cons_zero, List.getElem_cons_succ, List.setIfInBounds_toArray, List.set_cons_zero, List.set_cons_succ]
                        refine tkI (i := 28) (v := undef) rfl (.inr ⟨by kernel_rfl, rfl⟩) ‹_› ?r437
                        refine tkI (i := 29) (v := undef) rfl (.inr ⟨by kernel_rfl, rfl⟩) ‹_› ?r438
                        try simp only [Act.put, List.getElem_toArray, List.getElem_cons_zero, List.getElem_cons_succ, List.setIfInBounds_toArray, List.set_cons_zero, List.set_cons_succ]
                        refine tkI (i := 30) (v := undef) rfl (.inr ⟨by kernel_rfl, rfl⟩) ‹_› ?r439
                        try simp only [Act.put, List.getElem_toArray, List.getElem_cons_zero, List.getElem_cons_succ, List.setIfInBounds_toArray, List.set_cons_zero, List.set_cons_succ]
                        refine tkI (i := 31) (v := undef) rfl (.inr ⟨by kernel_rfl, rfl⟩) ‹_› ?r440
                        try simp only [Act.put, List.getElem_toArray, List.getElem_cons_zero, List.getElem_cons_succ, List.setIfInBounds_toArray, List.set_cons_zero, List.set_cons_succ]
                        refine tkI (i := 32) (v := undef) rfl (.inr ⟨by kernel_rfl, rfl⟩) ‹_› ?r441
                        try simp only [Act.put, List.getElem_toArray, List.getElem_cons_zero, List.getElem_cons_succ, List.setIfInBounds_toArray, List.set_cons_zero, List.set_cons_succ]
                        refine tkI (i := 33) (v := undef) rfl (.inr ⟨by kernel_rfl, rfl⟩) ‹_› ?r442
                        try simp only [Act.put, List.getElem_toArray, List.getElem_cons_zero, List.getElem_cons_succ, List.setIfInBounds_toArray, List.set_cons_zero, List.set_cons_succ]
                        refine tkI (i := 34) (v := undef) rfl (.inr ⟨by kernel_rfl, rfl⟩) ‹_› ?r443
                        try simp only [Act.put, List.getElem_toArray, List.getElem_cons_zero, List.getElem_cons_succ, List.setIfInBounds_toArray, List.set_cons_zero, List.set_cons_succ]
                        refine tkI (i := 35) (v := undef) rfl (.inr ⟨by kernel_rfl, rfl⟩) ‹_› ?r444
                        try simp only [Act.put, List.getElem_toArray, List.getElem_cons_zero, List.getElem_cons_succ, List.setIfInBounds_toArray, List.set_cons_zero, List.set_cons_succ]
                        refine tkI (i := 36) (v := undef) rfl (.inr ⟨by kernel_rfl, rfl⟩) ‹_› ?r445
                        try simp only [Act.put, List.getElem_toArray, List.getElem_cons_zero, List.getElem_cons_succ, List.setIfInBounds_toArray, List.set_cons_zero, List.set_cons_succ]
                        refine tkI (i := 37) (v := undef) rfl (.inr ⟨by kernel_rfl, rfl⟩) ‹_› ?r446
                        try simp only [Act.put, List.getElem_toArray, List.getElem_cons_zero, List.getElem_cons_succ, List.setIfInBounds_toArray, List.set_cons_zero, List.set_cons_succ]
                        refine tkI (i := 38) (v := undef) rfl (.inr ⟨by kernel_rfl, rfl⟩) ‹_› ?r447
                        try simp only [Act.put, List.getElem_toArray, List.getElem_cons_zero, List.getElem_cons_succ, List.setIfInBounds_toArray, List.set_cons_zero, List.set_cons_succ]
                        refine tkI (i := 39) (v := ?v448) rfl (.inl ⟨by kernel_rfl, ?y448⟩) ‹_› ?r448
                        case y448 => (intro w h; (try dsimp only at h); go_simp <;> with_reducible rfl)
                        try simp only [Act.put, List.getElem_toArray, List.getElem_cons_zero, List.getElem_cons_succ, List.setIfInBounds_toArray, List.set_cons_zero, List.set_cons_succ]
                        refine tkI (i := 40) (v := ?v449) rfl (.inl ⟨by kernel_rfl, ?y449⟩) ‹_› ?r449
                        case y449 => (intro w h; (try dsimp only at h); go_simp <;> with_reducible rfl)
                        try simp only [Act.put, List.getElem_toArray, List.getElem_cons_zero, List.getElem_cons_succ, List.setIfInBounds_toArray, List.set_cons_zero, List.set_cons_succ]
                        refine wpAnyH_done (by kernel_rfl) ?_ _
                        clear x0 x1 x2 x3 x4 x5 x6 x7 xa u0 u1 u2 u3 u4 u5 u6 u7 ua
                        have HB7 := HBD
                        go_wp2_with fail
                        go_roundw
                        case rel => first | exact ⟨j2 + 1, true, by omega, by go_num, rfl, Lib.hid (by rw [any_snoc HUu.out, ← hG.out]; exact HRB.out), HB7⟩ | ((repeat apply Exists.intro); exact ⟨⟨j2 + 1, true, by omega, by go_num, rfl, Lib.hid (by rw [any_snoc HUu.out, ← hG.out]; exact HRB.out), HB7⟩, rfl⟩)
                        case measure => simp [intOf]; omega
                    | false =>
                      cases au0 with
                      | false =>
                        have hrt : rb = false := by rw [HRB.out]; unfold tkP; rw [HAu0.out]; rfl
                        subst hrt
                        as_aux_lemma =>
                          refine wp_region_held_drew (S := (fun w' => w'.cell? ⟨gE, j2 * 8, none⟩ = some (.int .i64 (u.i : Int)) ∧ w'.cell? ⟨gE, j2 * 8 + 1, none⟩ = some (.int .i64 (u.inv : Int)) ∧ w'.cell? ⟨gE, j2 * 8 + 2, none⟩ = some (.int .i64 (u.resp : Int)) ∧ w'.cell? ⟨gE, j2 * 8 + 3, none⟩ = some (.int .i64 (u.steps : Int)) ∧ w'.cell? ⟨gE, j2 * 8 + 4, none⟩ = some (.int .i64 (u.ans.err : Int)) ∧ w'.cell? ⟨gE, j2 * 8 + 5, none⟩ = some (.int .u64 (u.ans.val : Int)) ∧ w'.cell? ⟨gE, j2 * 8 + 6, none⟩ = some (.slice lau u.ans.list.length lcu) ∧ w'.cell? ⟨gE, j2 * 8 + 7, none⟩ = some (.slice kau u.key.length kcu) ∧ w'.cell? ⟨gE, j * 8, none⟩ = some (.int .i64 (x.i : Int)) ∧ w'.cell? ⟨gE, j * 8 + 2, none⟩ = some (.int .i64 (x.resp : Int)) ∧ w'.cell? ⟨b, o + x.i * 6 + 3, none⟩ = some (.int .u64 (y.a : Int)))) (by kernel_rfl) ?_ (fun hHeld => ?_)
                          · first | with_reducible exact ⟨u0, u1, u2, u3, u4, u5, u6, u7, x0, x2, xa⟩ | go_keep
                          refine tkI (i := 0) (v := ?v450) rfl (.inl ⟨by kernel_rfl, ?y450⟩) ‹_› ?r450
                          case y450 => (intro w h; (try dsimp only at h); go_simp <;> with_reducible rfl)
                          refine tkI (i := 1) (v := ?v451) rfl (.inl ⟨by kernel_rfl, ?y451⟩) ‹_› ?r451
                          case y451 => (intro w h; (try dsimp only at h); go_simp <;> with_reducible rfl)
                          try simp only [Act.put, List.getElem_toArray, List.getElem_cons_zero, List.getElem_cons_succ, List.setIfInBounds_toArray, List.set_cons_zero, List.set_cons_succ]
                          refine tkI (i := 2) (v := ?v452) rfl (.inl ⟨by kernel_rfl, ?y452⟩) ‹_› ?r452
                          case y452 => (intro w h; (try dsimp only at h); go_simp <;> with_reducible rfl)
                          refine tkI (i := 3) (v := ?v453) rfl (.inl ⟨by kernel_rfl, ?y453⟩) ‹_› ?r453
                          case y453 => (intro w h; (try dsimp only at h); go_simp <;> with_reducible rfl)
                          try simp only [Act.put, List.getElem_toArray, List.getElem_cons_zero, List.getElem_cons_succ, List.setIfInBounds_toArray, List.set_cons_zero, List.set_cons_succ]
                          refine tkI (i := 4) (v := ?v454) rfl (.inl ⟨by kernel_rfl, ?y454⟩) ‹_› ?r454
                          case y454 => (intro w h; (try dsimp only at h); go_simp <;> with_reducible rfl)
                          refine tkI (i := 5) (v := ?v455) rfl (.inl ⟨by kernel_rfl, ?y455⟩) ‹_› ?r455
                          case y455 => (intro w h; (try dsimp only at h); go_simp <;> with_reducible rfl)
                          try simp only [Act.put, List.getElem_toArray, List.getElem_cons_zero, List.getElem_cons_succ, List.setIfInBounds_toArray, List.set_cons_zero, List.set_cons_succ]
                          refine tkI (i := 6) (v := ?v456) rfl (.inl ⟨by kernel_rfl, ?y456⟩) ‹_› ?r456
                          case y456 => (intro w h; (try dsimp only at h); go_simp <;> with_reducible rfl)
                          refine wpAnyH_ready (rs := [7]) (by kernel_rfl) (by simp) ?_
                          refine AllReadyH.cons (o := _) rfl (fun K hK => ?_) AllReadyH.nil
                          go_simp
                          go_at_call 17
                          refine (HIu0.out _ (below_drew HBc.out)).mono ?_
                          rintro e w7 ⟨rfl, hb7⟩
                          have HB7 : Hid (Below w0.heap.size w0 w7) := Lib.hid ((below_drew HBc.out).trans (hb7.mono (by have := HBc.out.size; exact this)))
                          clear hb7
                          obtain ⟨x0', x1', x2', x3', x4', x5', x6', x7', xa'⟩ := HFx.out w7 HB7.out
                          obtain ⟨u0', u1', u2', u3', u4', u5', u6', u7', ua'⟩ := HFu.out w7 HB7.out
                          go_simp
                          refine hK.out _ _ ?_ (fun hHeld => ?_)
                          · with_reducible exact ⟨u0', u1', u2', u3', u4', u5', u6', u7', x0', x2', xa'⟩
                          clear hK K
                          try simp only [Act.put, List.getElem_toArray, List.getElem_cons_zero, List.getElem_cons_succ, List.setIfInBounds_toArray, List.set_cons_zero, List.set_cons_succ]
                          refine tkI (i := 8) (v := ?v457) rfl (.inl ⟨by kernel_rfl, ?y457⟩) ‹_› ?r457
                          case y457 => (intro w h; (try dsimp only at h); go_simp <;> with_reducible rfl)
                          refine tkI (i := 9) (v := undef) rfl (.inr ⟨by kernel_rfl, rfl⟩) ‹_› ?r458
                          try simp only [Act.put, List.getElem_toArray, List.getElem_cons_zero, List.getElem_cons_succ, List.setIfInBounds_toArray, List.set_cons_zero, List.set_cons_succ]
                          refine tkI (i := 10) (v := undef) rfl (.inr ⟨by kernel_rfl, rfl⟩) ‹_› ?r459
                          refine tkI (i := 11) (v := undef) rfl (.inr ⟨by kernel_rfl, rfl⟩) ‹_› ?r460
                          try simp only [Act.put, List.getElem_toArray, List.getElem_cons_zero, List.getElem_cons_succ, List.setIfInBounds_toArray, List.set_cons_zero, List.set_cons_succ]
                          refine tkI (i := 12) (v := undef) rfl (.inr ⟨by kernel_rfl, rfl⟩) ‹_› ?r461
                          refine tkI (i := 13) (v := undef) rfl (.inr ⟨by kernel_rfl, rfl⟩) ‹_› ?r462
                          try simp only [Act.put, List.getElem_toArray, List.getElem_cons_zero, List.getElem_cons_succ, List.setIfInBounds_toArray, List.set_cons_zero, List.set_cons_succ]
                          refine tkI (i := 14) (v := undef) rfl (.inr ⟨by kernel_rfl, rfl⟩) ‹_› ?r463
                          refine tkI (i := 15) (v := undef) rfl (.inr ⟨by kernel_rfl, rfl⟩) ‹_› ?r464
                          try simp only [Act.put, List.getElem_toArray, List.getElem_cons_zero, List.getElem_cons_succ, List.setIfInBounds_toArray, List.set_cons_zero, List.set_cons_succ]
                          refine tkI (i := 16) (v := undef) rfl (.inr ⟨by kernel_rfl, rfl⟩) ‹_› ?r465
                          refine tkI (i := 17) (v := undef) rfl (.inr ⟨by kernel_rfl, rfl⟩) ‹_› ?r466
                          try simp only [Act.put, List.getElem_toArray, List.getElem_cons_zero, List.getElem_cons_succ, List.setIfInBounds_toArray, List.set_cons_zero, List.set_cons_succ]
                          refine tkI (i := 18) (v := undef) rfl (.inr ⟨by kernel_rfl, rfl⟩) ‹_› ?r467
                          refine tkI (i := 19) (v := undef) rfl (.inr ⟨by kernel_rfl, rfl⟩) ‹_› ?r468
                          try simp only [Act.put, List.getElem_toArray, List.getElem_cons_zero, List.getElem_cons_succ, List.setIfInBounds_toArray, List.set_cons_zero, List.set_cons_succ]
                          refine tkI (i := 20) (v := ?v469) rfl (.inl ⟨by kernel_rfl, ?y469⟩) ‹_› ?r469
                          case y469 => (intro w h; (try dsimp only at h); go_simp <;> with_reducible rfl)
                          refine tkI (i := 21) (v := ?v470) rfl (.inl ⟨by kernel_rfl, ?y470⟩) ‹_› ?r470
                          case y470 => (intro w h; (try dsimp only at h); go_simp <;> with_reducible rfl)
                          try simp only [Act.put, List.getElem_toArray, List.getElem_cons_zero, List.getElem_cons_succ, List.setIfInBounds_toArray, List.set_cons_zero, List.set_cons_succ]
                          refine tkI (i := 22) (v := undef) rfl (.inr ⟨by kernel_rfl, rfl⟩) ‹_› ?r471
                          refine tkI (i := 23) (v := undef) rfl (.inr ⟨by kernel_rfl, rfl⟩) ‹_› ?r472
                          try simp only [Act.put, List.getElem_toArray, List.getElem_cons_zero, List.getElem_cons_succ, List.setIfInBounds_toArray, List.set_cons_zero, List.set_cons_succ]
                          refine tkI (i := 24) (v := undef) rfl (.inr ⟨by kernel_rfl, rfl⟩) ‹_› ?r473
                          refine tkI (i := 25) (v := undef) rfl (.inr ⟨by kernel_rfl, rfl⟩) ‹_› ?r474
                          try simp only [Act.put, List.getElem_toArray, List.getElem_cons_zero, List.getElem_cons_succ, List.setIfInBounds_toArray, List.set_cons_zero, List.set_cons_succ]
                          refine tkI (i := 26) (v := undef) rfl (.inr ⟨by kernel_rfl, rfl⟩) ‹_› ?r475
                          refine tkI (i := 27) (v := undef) rfl (.inr ⟨by kernel_rfl, rfl⟩) ‹_› ?r476
                          try simp only [Act.put, List.getElem_toArray, List.getElem_cons_zero, List.getElem_cons_succ, List.setIfInBounds_toArray, List.set_cons_zero, List.set_cons_succ]
                          refine tkI (i := 28) (v := undef) rfl (.inr ⟨by kernel_rfl, rfl⟩) ‹_› ?r477
                          refine tkI (i := 29) (v := undef) rfl (.inr ⟨by kernel_rfl, rfl⟩) ‹_› ?r478
                          try simp only [Act.put, List.getElem_toArray, List.getElem_cons_zero, List.getElem_cons_succ, List.setIfInBounds_toArray, List.set_cons_zero, List.set_cons_succ]
                          refine tkI (i := 30) (v := undef) rfl (.inr ⟨by kernel_rfl, rfl⟩) ‹_› ?r479
                          try simp only [Act.put, List.getElem_toArray, List.getElem_cons_zero, List.getElem_cons_succ, List.setIfInBounds_toArray, List.set_cons_zero, List.set_cons_succ]
                          refine tkI (i := 31) (v := undef) rfl (.inr ⟨by kernel_rfl, rfl⟩) ‹_› ?r480
                          try simp only [Act.put, List.getElem_toArray, List.getElem_cons_zero, List.getElem_cons_succ, List.setIfInBounds_toArray, List.set_cons_zero, List.set_cons_succ]
                          refine tkI (i := 32) (v := undef) rfl (.inr ⟨by kernel_rfl, rfl⟩) ‹_› ?r481
                          try simp only [Act.put, List.getElem_toArray, List.getElem_cons_zero, List.getElem_cons_succ, List.setIfInBounds_toArray, List.set_cons_zero, List.set_cons_succ]
                          refine tkI (i := 33) (v := undef) rfl (.inr ⟨by kernel_rfl, rfl⟩) ‹_› ?r482
                          try simp only [Act.put, List.getElem_toArray, List.getElem_cons_zero, List.getElem_cons_succ, List.setIfInBounds_toArray, List.set_cons_zero, List.set_cons_succ]
                          refine tkI (i := 34) (v := undef) rfl (.inr ⟨by kernel_rfl, rfl⟩) ‹_› ?r483
                          try simp only [Act.put, List.getElem_toArray, List.getElem_cons_zero, List.getElem_cons_succ, List.setIfInBounds_toArray, List.set_cons_zero, List.set_cons_succ]
                          refine tkI (i := 35) (v := undef) rfl (.inr ⟨by kernel_rfl, rfl⟩) ‹_› ?r484
                          try simp only [Act.put, List.getElem_toArray, List.getElem_cons_zero, List.getElem_cons_succ, List.setIfInBounds_toArray, List.set_cons_zero, List.set_cons_succ]
                          refine tkI (i := 36) (v := undef) rfl (.inr ⟨by kernel_rfl, rfl⟩) ‹_› ?r485
                          try simp only [Act.put, List.getElem_toArray, List.getElem_cons_zero, List.getElem_cons_succ, List.setIfInBounds_toArray, List.set_cons_zero, List.set_cons_succ]
                          refine tkI (i := 37) (v := undef) rfl (.inr ⟨by kernel_rfl, rfl⟩) ‹_› ?r486
                          try simp only [Act.put, List.getElem_toArray, List.getElem_cons_zero, List.getElem_cons_succ, List.setIfInBounds_toArray, List.set_cons_zero, List.set_cons_succ]
                          refine tkI (i := 38) (v := ?v487) rfl (.inl ⟨by kernel_rfl, ?y487⟩) ‹_› ?r487
                          case y487 => (intro w h; (try dsimp only at h); go_simp <;> with_reducible rfl)
                          try simp only [Act.put, List.getElem_toArray, List.getElem_cons_zero, List.getElem_cons_succ, List.setIfInBounds_toArray, List.set_cons_zero, List.set_cons_succ]
                          refine tkI (i := 39) (v := ?v488) rfl (.inl ⟨by kernel_rfl, ?y488⟩) ‹_› ?r488
                          case y488 => (intro w h; (try dsimp only at h); go_simp <;> with_reducible rfl)
                          try simp only [Act.put, List.getElem_toArray, List.getElem_cons_zero, List.getElem_cons_succ, List.setIfInBounds_toArray, List.set_cons_zero, List.set_cons_succ]
                          refine tkI (i := 40) (v := ?v489) rfl (.inl ⟨by kernel_rfl, ?y489⟩) ‹_› ?r489
                          case y489 => (intro w h; (try dsimp only at h); go_simp <;> with_reducible rfl)
                          try simp only [Act.put, List.getElem_toArray, List.getElem_cons_zero, List.getElem_cons_succ, List.setIfInBounds_toArray, List.set_cons_zero, List.set_cons_succ]
                          refine wpAnyH_done (by kernel_rfl) ?_ _
                          clear x0 x1 x2 x3 x4 x5 x6 x7 xa x0' x1' x2' x3' x4' x5' x6' x7' xa' u0 u1 u2 u3 u4 u5 u6 u7 ua u0' u1' u2' u3' u4' u5' u6' u7' ua'
                          go_wp2_with fail
                          go_roundw
                          case rel => first | exact ⟨j2 + 1, false, by omega, by go_num, rfl, Lib.hid (by rw [any_snoc HUu.out, ← hG.out]; exact HRB.out), HB7⟩ | ((repeat apply Exists.intro); exact ⟨⟨j2 + 1, false, by omega, by go_num, rfl, Lib.hid (by rw [any_snoc HUu.out, ← hG.out]; exact HRB.out), HB7⟩, rfl⟩)
                          case measure => simp [intOf]; omega
                      | true =>
                        by_cases e2 : u.resp < x.resp
                        · have e2a : (u.resp : Int) < (x.resp : Int) := by omega
                          by_cases e3 : u.ans.val = y.a
                          · have e3a : (u.ans.val : Int) = (y.a : Int) := by omega
                            have hrt : rb = true := by rw [HRB.out]; unfold tkP; rw [HAu0.out, decide_eq_true e2, decide_eq_true e3]; rfl
                            subst hrt
                            have e3b : ((u.ans.val : Int) == (y.a : Int)) = true := by rw [beq_iff_eq]; exact e3a
                            have e3c : decide ((u.ans.val : Int) = (y.a : Int)) = true := decide_eq_true e3a
                            clear e3 e3a
                            as_aux_lemma =>
                              refine wp_region_held_drew (S := (fun w' => w'.cell? ⟨gE, j2 * 8, none⟩ = some (.int .i64 (u.i : Int)) ∧ w'.cell? ⟨gE, j2 * 8 + 1, none⟩ = some (.int .i64 (u.inv : Int)) ∧ w'.cell? ⟨gE, j2 * 8 + 2, none⟩ = some (.int .i64 (u.resp : Int)) ∧ w'.cell? ⟨gE, j2 * 8 + 3, none⟩ = some (.int .i64 (u.steps : Int)) ∧ w'.cell? ⟨gE, j2 * 8 + 4, none⟩ = some (.int .i64 (u.ans.err : Int)) ∧ w'.cell? ⟨gE, j2 * 8 + 5, none⟩ = some (.int .u64 (u.ans.val : Int)) ∧ w'.cell? ⟨gE, j2 * 8 + 6, none⟩ = some (.slice lau u.ans.list.length lcu) ∧ w'.cell? ⟨gE, j2 * 8 + 7, none⟩ = some (.slice kau u.key.length kcu) ∧ w'.cell? ⟨gE, j * 8, none⟩ = some (.int .i64 (x.i : Int)) ∧ w'.cell? ⟨gE, j * 8 + 2, none⟩ = some (.int .i64 (x.resp : Int)) ∧ w'.cell? ⟨b, o + x.i * 6 + 3, none⟩ = some (.int .u64 (y.a : Int)))) (by kernel_rfl) ?_ (fun hHeld => ?_)
                              · first | with_reducible exact ⟨u0, u1, u2, u3, u4, u5, u6, u7, x0, x2, xa⟩ | go_keep
                              refine tkI (i := 0) (v := ?v490) rfl (.inl ⟨by kernel_rfl, ?y490⟩) ‹_› ?r490
                              case y490 => (intro w h; (try dsimp only at h); go_simp <;> with_reducible rfl)
                              refine tkI (i := 1) (v := ?v491) rfl (.inl ⟨by kernel_rfl, ?y491⟩) ‹_› ?r491
                              case y491 => (intro w h; (try dsimp only at h); go_simp <;> with_reducible rfl)
                              try simp only [Act.put, List.getElem_toArray, List.getElem_cons_zero, List.getElem_cons_succ, List.setIfInBounds_toArray, List.set_cons_zero, List.set_cons_succ]
                              refine tkI (i := 2) (v := ?v492) rfl (.inl ⟨by kernel_rfl, ?y492⟩) ‹_› ?r492
                              case y492 => (intro w h; (try dsimp only at h); go_simp <;> with_reducible rfl)
                              refine tkI (i := 3) (v := ?v493) rfl (.inl ⟨by kernel_rfl, ?y493⟩) ‹_› ?r493
                              case y493 => (intro w h; (try dsimp only at h); go_simp <;> with_reducible rfl)
                              try simp only [Act.put, List.getElem_toArray, List.getElem_cons_zero, List.getElem_cons_succ, List.setIfInBounds_toArray, List.set_cons_zero, List.set_cons_succ]
                              refine tkI (i := 4) (v := ?v494) rfl (.inl ⟨by kernel_rfl, ?y494⟩) ‹_› ?r494
                              case y494 => (intro w h; (try dsimp only at h); go_simp <;> with_reducible rfl)
                              refine tkI (i := 5) (v := ?v495) rfl (.inl ⟨by kernel_rfl, ?y495⟩) ‹_› ?r495
                              case y495 => (intro w h; (try dsimp only at h); go_simp <;> with_reducible rfl)
                              try simp only [Act.put, List.getElem_toArray, List.getElem_cons_zero, List.getElem_cons_succ, List.setIfInBounds_toArray, List.set_cons_zero, List.set_cons_succ]
                              refine tkI (i := 6) (v := ?v496) rfl (.inl ⟨by kernel_rfl, ?y496⟩) ‹_› ?r496
                              case y496 => (intro w h; (try dsimp only at h); go_simp <;> with_reducible rfl)
                              refine wpAnyH_ready (rs := [7]) (by kernel_rfl) (by simp) ?_
                              refine AllReadyH.cons (o := _) rfl (fun K hK => ?_) AllReadyH.nil
                              go_simp
                              go_at_call 17
                              refine (HIu0.out _ (below_drew HBc.out)).mono ?_
                              rintro e w7 ⟨rfl, hb7⟩
                              have HB7 : Hid (Below w0.heap.size w0 w7) := Lib.hid ((below_drew HBc.out).trans (hb7.mono (by have := HBc.out.size; exact this)))
                              clear hb7
                              obtain ⟨x0', x1', x2', x3', x4', x5', x6', x7', xa'⟩ := HFx.out w7 HB7.out
                              obtain ⟨u0', u1', u2', u3', u4', u5', u6', u7', ua'⟩ := HFu.out w7 HB7.out
                              go_simp
                              refine hK.out _ _ ?_ (fun hHeld => ?_)
                              · with_reducible exact ⟨u0', u1', u2', u3', u4', u5', u6', u7', x0', x2', xa'⟩
                              clear hK K
                              try simp only [Act.put, List.getElem_toArray, List.getElem_cons_zero, List.getElem_cons_succ, List.setIfInBounds_toArray, List.set_cons_zero, List.set_cons_succ]
                              refine tkI (i := 8) (v := ?v497) rfl (.inl ⟨by kernel_rfl, ?y497⟩) ‹_› ?r497
                              case y497 => (intro w h; (try dsimp only at h); go_simp <;> with_reducible rfl)
                              refine tkI (i := 9) (v := ?v498) rfl (.inl ⟨by kernel_rfl, ?y498⟩) ‹_› ?r498
                              case y498 => (intro w h; (try dsimp only at h); go_simp <;> with_reducible rfl)
                              try simp only [Act.put, List.getElem_toArray, List.getElem_cons_zero, List.getElem_cons_succ, List.setIfInBounds_toArray, List.set_cons_zero, List.set_cons_succ]
                              refine tkI (i := 10) (v := ?v499) rfl (.inl ⟨by kernel_rfl, ?y499⟩) ‹_› ?r499
                              case y499 => (intro w h; (try dsimp only at h); go_simp <;> with_reducible rfl)
                              refine tkI (i := 11) (v := ?v500) rfl (.inl ⟨by kernel_rfl, ?y500⟩) ‹_› ?r500
                              case y500 => (intro w h; (try dsimp only at h); go_simp <;> with_reducible rfl)
                              try simp only [Act.put, List.getElem_toArray, List.getElem_cons_zero, List.getElem_cons_succ, List.setIfInBounds_toArray, List.set_cons_zero, List.set_cons_succ]
                              refine tkI (i := 12) (v := ?v501) rfl (.inl ⟨by kernel_rfl, ?y501⟩) ‹_› ?r501
                              case y501 => (intro w h; (try dsimp only at h); go_simp <;> with_reducible rfl)
                              refine tkI (i := 13) (v := ?v502) rfl (.inl ⟨by kernel_rfl, ?y502⟩) ‹_› ?r502
                              case y502 => (intro w h; (try dsimp only at h); go_simp <;> with_reducible rfl)
                              try simp only [Act.put, List.getElem_toArray, List.getElem_cons_zero, List.getElem_cons_succ, List.setIfInBounds_toArray, List.set_cons_zero, List.set_cons_succ]
                              refine tkI (i := 14) (v := ?v503) rfl (.inl ⟨by kernel_rfl, ?y503⟩) ‹_› ?r503
                              case y503 => (intro w h; (try dsimp only at h); go_simp <;> with_reducible rfl)
                              refine tkI (i := 15) (v := ?v504) rfl (.inl ⟨by kernel_rfl, ?y504⟩) ‹_› ?r504
                              case y504 => (intro w h; (try dsimp only at h); go_simp <;> with_reducible rfl)
                              try simp only [Act.put, List.getElem_toArray, List.getElem_cons_zero, List.getElem_cons_succ, List.setIfInBounds_toArray, List.set_cons_zero, List.set_cons_succ]
                              refine tkI (i := 16) (v := ?v505) rfl (.inl ⟨by kernel_rfl, ?y505⟩) ‹_› ?r505
                              case y505 => (intro w h; (try dsimp only at h); go_simp <;> with_reducible rfl)
                              refine tkI (i := 17) (v := ?v506) rfl (.inl ⟨by kernel_rfl, ?y506⟩) ‹_› ?r506
                              case y506 => (intro w h; (try dsimp only at h); go_simp <;> with_reducible rfl)
                              try simp only [Act.put, List.getElem_toArray, List.getElem_cons_zero, List.getElem_cons_succ, List.setIfInBounds_toArray, List.set_cons_zero, List.set_cons_succ]
                              refine tkI (i := 18) (v := ?v507) rfl (.inl ⟨by kernel_rfl, ?y507⟩) ‹_› ?r507
                              case y507 => (intro w h; (try dsimp only at h); go_simp <;> with_reducible rfl)
                              refine tkI (i := 19) (v := ?v508) rfl (.inl ⟨by kernel_rfl, ?y508⟩) ‹_› ?r508
                              case y508 => (intro w h; (try dsimp only at h); go_simp <;> with_reducible rfl)
                              try simp only [Act.put, List.getElem_toArray, List.getElem_cons_zero, List.getElem_cons_succ, List.setIfInBounds_toArray, List.set_cons_zero, List.set_cons_succ]
                              refine tkI (i := 20) (v := ?v509) rfl (.inl ⟨by kernel_rfl, ?y509⟩) ‹_› ?r509
                              case y509 => (intro w h; (try dsimp only at h); go_simp <;> with_reducible rfl)
                              refine tkI (i := 21) (v := ?v510) rfl (.inl ⟨by kernel_rfl, ?y510⟩) ‹_› ?r510
                              case y510 => (intro w h; (try dsimp only at h); go_simp <;> with_reducible rfl)
                              try simp only [Act.put, List.getElem_toArray, List.getElem_cons_zero, List.getElem_cons_succ, List.setIfInBounds_toArray, List.set_cons_zero, List.set_cons_succ]
                              refine tkI (i := 22) (v := ?v511) rfl (.inl ⟨by kernel_rfl, ?y511⟩) ‹_› ?r511
                              case y511 => (intro w h; (try dsimp only at h); go_simp <;> with_reducible rfl)
                              refine tkI (i := 23) (v := ?v512) rfl (.inl ⟨by kernel_rfl, ?y512⟩) ‹_› ?r512
                              case y512 => (intro w h; (try dsimp only at h); go_simp <;> with_reducible rfl)
                              try simp only [Act.put, List.getElem_toArray, List.getElem_cons_zero, List.getElem_cons_succ, List.setIfInBounds_toArray, List.set_cons_zero, List.set_cons_succ]
                              refine tkI (i := 24) (v := ?v513) rfl (.inl ⟨by kernel_rfl, ?y513⟩) ‹_› ?r513
                              case y513 => (intro w h; (try dsimp only at h); go_simp <;> with_reducible rfl)
                              refine tkI (i := 25) (v := ?v514) rfl (.inl ⟨by kernel_rfl, ?y514⟩) ‹_› ?r514
                              case y514 => (intro w h; (try dsimp only at h); go_simp <;> with_reducible rfl)
                              try simp only [Act.put, List.getElem_toArray, List.getElem_cons_zero, List.getElem_cons_succ, List.setIfInBounds_toArray, List.set_cons_zero, List.set_cons_succ]
                              refine tkI (i := 26) (v := ?v515) rfl (.inl ⟨by kernel_rfl, ?y515⟩) ‹_› ?r515
                              case y515 => (intro w h; (try dsimp only at h); go_simp <;> with_reducible rfl)
                              refine tkI (i := 27) (v := ?v516) rfl (.inl ⟨by kernel_rfl, ?y516⟩) ‹_› ?r516
                              case y516 => (intro w h; (try dsimp only at h); go_simp <;> with_reducible rfl)
                              try simp only [Act.put, List.getElem_toArray, List.getElem_cons_zero, List.getElem_cons_succ, List.setIfInBounds_toArray, List.set_cons_zero, List.set_cons_succ]
                              refine tkI (i := 28) (v := ?v517) rfl (.inl ⟨by kernel_rfl, ?y517⟩) ‹_› ?r517
                              case y517 => (intro w h; (try dsimp only at h); go_simp <;> with_reducible rfl)
                              refine tkI (i := 29) (v := ?v518) rfl (.inl ⟨by kernel_rfl, ?y518⟩) ‹_› ?r518
                              case y518 => (intro w h; (try dsimp only at h); go_simp <;> with_reducible rfl)
                              try simp only [Act.put, List.getElem_toArray, List.getElem_cons_zero, List.getElem_cons_succ, List.setIfInBounds_toArray, List.set_cons_zero, List.set_cons_succ]
                              refine tkI (i := 30) (v := ?v519) rfl (.inl ⟨by kernel_rfl, ?y519⟩) ‹_› ?r519
                              case y519 => (intro w h; (try dsimp only at h); go_simp <;> with_reducible rfl)
                              try simp only [Act.put, List.getElem_toArray, List.getElem_cons_zero, List.getElem_cons_succ, List.setIfInBounds_toArray, List.set_cons_zero, List.set_cons_succ]
                              refine tkI (i := 31) (v := ?v520) rfl (.inl ⟨by kernel_rfl, ?y520⟩) ‹_› ?r520
                              case y520 => (intro w h; (try dsimp only at h); go_simp <;> with_reducible rfl)
                              try simp only [Act.put, List.getElem_toArray, List.getElem_cons_zero, List.getElem_cons_succ, List.setIfInBounds_toArray, List.set_cons_zero, List.set_cons_succ]
                              refine tkI (i := 32) (v := ?v521) rfl (.inl ⟨by kernel_rfl, ?y521⟩) ‹_› ?r521
                              case y521 => (intro w h; (try dsimp only at h); go_simp <;> with_reducible rfl)
                              try simp only [Act.put, List.getElem_toArray, List.getElem_cons_zero, List.getElem_cons_succ, List.setIfInBounds_toArray, List.set_cons_zero, List.set_cons_succ]
                              refine tkI (i := 33) (v := ?v522) rfl (.inl ⟨by kernel_rfl, ?y522⟩) ‹_› ?r522
                              case y522 => (intro w h; (try dsimp only at h); go_simp <;> with_reducible rfl)
                              try simp only [Act.put, List.getElem_toArray, List.getElem_cons_zero, List.getElem_cons_succ, List.setIfInBounds_toArray, List.set_cons_zero, List.set_cons_succ]
                              refine tkI (i := 34) (v := ?v523) rfl (.inl ⟨by kernel_rfl, ?y523⟩) ‹_› ?r523
                              case y523 => (intro w h; (try dsimp only at h); go_simp <;> with_reducible rfl)
                              try simp only [Act.put, List.getElem_toArray, List.getElem_cons_zero, List.getElem_cons_succ, List.setIfInBounds_toArray, List.set_cons_zero, List.set_cons_succ]
                              refine tkI (i := 35) (v := ?v524) rfl (.inl ⟨by kernel_rfl, ?y524⟩) ‹_› ?r524
                              case y524 => (intro w h; (try dsimp only at h); go_simp <;> with_reducible rfl)
                              try simp only [Act.put, List.getElem_toArray, List.getElem_cons_zero, List.getElem_cons_succ, List.setIfInBounds_toArray, List.set_cons_zero, List.set_cons_succ]
                              refine tkI (i := 36) (v := ?v525) rfl (.inl ⟨by kernel_rfl, ?y525⟩) ‹_› ?r525
                              case y525 => (intro w h; (try dsimp only at h); go_simp <;> with_reducible rfl)
                              try simp only [Act.put, List.getElem_toArray, List.getElem_cons_zero, List.getElem_cons_succ, List.setIfInBounds_toArray, List.set_cons_zero, List.set_cons_succ]
                              refine tkI (i := 37) (v := ?v526) rfl (.inl ⟨by kernel_rfl, ?y526⟩) ‹_› ?r526
                              case y526 => (intro w h; (try dsimp only at h); go_simp <;> with_reducible rfl)
                              try simp only [Act.put, List.getElem_toArray, List.getElem_cons_zero, List.getElem_cons_succ, List.setIfInBounds_toArray, List.set_cons_zero, List.set_cons_succ]
                              refine tkI (i := 38) (v := ?v527) rfl (.inl ⟨by kernel_rfl, ?y527⟩) ‹_› ?r527
                              case y527 => (intro w h; (try dsimp only at h); go_simp <;> with_reducible rfl)
                              try simp only [Act.put, List.getElem_toArray, List.getElem_cons_zero, List.getElem_cons_succ, List.setIfInBounds_toArray, List.set_cons_zero, List.set_cons_succ]
                              refine tkI (i := 39) (v := ?v528) rfl (.inl ⟨by kernel_rfl, ?y528⟩) ‹_› ?r528
                              case y528 => (intro w h; (try dsimp only at h); go_simp <;> with_reducible rfl)
                              try simp only [Act.put, List.getElem_toArray, List.getElem_cons_zero, List.getElem_cons_succ, List.setIfInBounds_toArray, List.set_cons_zero, List.set_cons_succ]
                              refine tkI (i := 40) (v := ?v529) rfl (.inl ⟨by kernel_rfl, ?y529⟩) ‹_› ?r529
                              case y529 => (intro w h; (try dsimp only at h); go_simp <;> with_reducible rfl)
                              try simp only [Act.put, List.getElem_toArray, List.getElem_cons_zero, List.getElem_cons_succ, List.setIfInBounds_toArray, List.set_cons_zero, List.set_cons_succ]
                              refine wpAnyH_done (by kernel_rfl) ?_ _
                              clear x0 x1 x2 x3 x4 x5 x6 x7 xa x0' x1' x2' x3' x4' x5' x6' x7' xa' u0 u1 u2 u3 u4 u5 u6 u7 ua u0' u1' u2' u3' u4' u5' u6' u7' ua'
                              go_wp2_with fail
                              go_roundw
                              case rel => first | exact ⟨j2 + 1, true, by omega, by go_num, rfl, Lib.hid (by rw [any_snoc HUu.out, ← hG.out]; exact HRB.out), HB7⟩ | ((repeat apply Exists.intro); exact ⟨⟨j2 + 1, true, by omega, by go_num, rfl, Lib.hid (by rw [any_snoc HUu.out, ← hG.out]; exact HRB.out), HB7⟩, rfl⟩)
                              case measure => simp [intOf]; omega
                          · have e3a : ¬ (u.ans.val : Int) = (y.a : Int) := by omega
                            have e3b : ((u.ans.val : Int) == (y.a : Int)) = false := by rw [beq_eq_false_iff_ne]; exact e3a
                            have hrt : rb = false := by rw [HRB.out]; unfold tkP; rw [decide_eq_false e3, Bool.and_false, Bool.and_false]; rfl
                            subst hrt
                            as_aux_lemma =>
                              refine wp_region_held_drew (S := (fun w' => w'.cell? ⟨gE, j2 * 8, none⟩ = some (.int .i64 (u.i : Int)) ∧ w'.cell? ⟨gE, j2 * 8 + 1, none⟩ = some (.int .i64 (u.inv : Int)) ∧ w'.cell? ⟨gE, j2 * 8 + 2, none⟩ = some (.int .i64 (u.resp : Int)) ∧ w'.cell? ⟨gE, j2 * 8 + 3, none⟩ = some (.int .i64 (u.steps : Int)) ∧ w'.cell? ⟨gE, j2 * 8 + 4, none⟩ = some (.int .i64 (u.ans.err : Int)) ∧ w'.cell? ⟨gE, j2 * 8 + 5, none⟩ = some (.int .u64 (u.ans.val : Int)) ∧ w'.cell? ⟨gE, j2 * 8 + 6, none⟩ = some (.slice lau u.ans.list.length lcu) ∧ w'.cell? ⟨gE, j2 * 8 + 7, none⟩ = some (.slice kau u.key.length kcu) ∧ w'.cell? ⟨gE, j * 8, none⟩ = some (.int .i64 (x.i : Int)) ∧ w'.cell? ⟨gE, j * 8 + 2, none⟩ = some (.int .i64 (x.resp : Int)) ∧ w'.cell? ⟨b, o + x.i * 6 + 3, none⟩ = some (.int .u64 (y.a : Int)))) (by kernel_rfl) ?_ (fun hHeld => ?_)
                              · first | with_reducible exact ⟨u0, u1, u2, u3, u4, u5, u6, u7, x0, x2, xa⟩ | go_keep
                              refine tkI (i := 0) (v := ?v530) rfl (.inl ⟨by kernel_rfl, ?y530⟩) ‹_› ?r530
                              case y530 => (intro w h; (try dsimp only at h); go_simp <;> with_reducible rfl)
                              refine tkI (i := 1) (v := ?v531) rfl (.inl ⟨by kernel_rfl, ?y531⟩) ‹_› ?r531
                              case y531 => (intro w h; (try dsimp only at h); go_simp <;> with_reducible rfl)
                              try simp only [Act.put, List.getElem_toArray, List.getElem_cons_zero, List.getElem_cons_succ, List.setIfInBounds_toArray, List.set_cons_zero, List.set_cons_succ]
                              refine tkI (i := 2) (v := ?v532) rfl (.inl ⟨by kernel_rfl, ?y532⟩) ‹_› ?r532
                              case y532 => (intro w h; (try dsimp only at h); go_simp <;> with_reducible rfl)
                              refine tkI (i := 3) (v := ?v533) rfl (.inl ⟨by kernel_rfl, ?y533⟩) ‹_› ?r533
                              case y533 => (intro w h; (try dsimp only at h); go_simp <;> with_reducible rfl)
                              try simp only [Act.put, List.getElem_toArray, List.getElem_cons_zero, List.getElem_cons_succ, List.setIfInBounds_toArray, List.set_cons_zero, List.set_cons_succ]
                              refine tkI (i := 4) (v := ?v534) rfl (.inl ⟨by kernel_rfl, ?y534⟩) ‹_› ?r534
                              case y534 => (intro w h; (try dsimp only at h); go_simp <;> with_reducible rfl)
                              refine tkI (i := 5) (v := ?v535) rfl (.inl ⟨by kernel_rfl, ?y535⟩) ‹_› ?r535
                              case y535 => (intro w h; (try dsimp only at h); go_simp <;> with_reducible rfl)
                              try simp only [Act.put, List.getElem_toArray, List.getElem_cons_zero, List.getElem_cons_succ, List.setIfInBounds_toArray, List.set_cons_zero, List.set_cons_succ]
                              refine tkI (i := 6) (v := ?v536) rfl (.inl ⟨by kernel_rfl, ?y536⟩) ‹_› ?r536
                              case y536 => (intro w h; (try dsimp only at h); go_simp <;> with_reducible rfl)
                              refine wpAnyH_ready (rs := [7]) (by kernel_rfl) (by simp) ?_
                              refine AllReadyH.cons (o := _) rfl (fun K hK => ?_) AllReadyH.nil
                              go_simp
                              go_at_call 17
                              refine (HIu0.out _ (below_drew HBc.out)).mono ?_
                              rintro e w7 ⟨rfl, hb7⟩
                              have HB7 : Hid (Below w0.heap.size w0 w7) := Lib.hid ((below_drew HBc.out).trans (hb7.mono (by have := HBc.out.size; exact this)))
                              clear hb7
                              obtain ⟨x0', x1', x2', x3', x4', x5', x6', x7', xa'⟩ := HFx.out w7 HB7.out
                              obtain ⟨u0', u1', u2', u3', u4', u5', u6', u7', ua'⟩ := HFu.out w7 HB7.out
                              go_simp
                              refine hK.out _ _ ?_ (fun hHeld => ?_)
                              · with_reducible exact ⟨u0', u1', u2', u3', u4', u5', u6', u7', x0', x2', xa'⟩
                              clear hK K
                              try simp only [Act.put, List.getElem_toArray, List.getElem_cons_zero, List.getElem_cons_succ, List.setIfInBounds_toArray, List.set_cons_zero, List.set_cons_succ]
                              refine tkI (i := 8) (v := ?v537) rfl (.inl ⟨by kernel_rfl, ?y537⟩) ‹_› ?r537
                              case y537 => (intro w h; (try dsimp only at h); go_simp <;> with_reducible rfl)
                              refine tkI (i := 9) (v := ?v538) rfl (.inl ⟨by kernel_rfl, ?y538⟩) ‹_› ?r538
                              case y538 => (intro w h; (try dsimp only at h); go_simp <;> with_reducible rfl)
                              try simp only [Act.put, List.getElem_toArray, List.getElem_cons_zero, List.getElem_cons_succ, List.setIfInBounds_toArray, List.set_cons_zero, List.set_cons_succ]
                              refine tkI (i := 10) (v := ?v539) rfl (.inl ⟨by kernel_rfl, ?y539⟩) ‹_› ?r539
                              case y539 => (intro w h; (try dsimp only at h); go_simp <;> with_reducible rfl)
                              refine tkI (i := 11) (v := ?v540) rfl (.inl ⟨by kernel_rfl, ?y540⟩) ‹_› ?r540
                              case y540 => (intro w h; (try dsimp only at h); go_simp <;> with_reducible rfl)
                              try simp only [Act.put, List.getElem_toArray, List.getElem_cons_zero, List.getElem_cons_succ, List.setIfInBounds_toArray, List.set_cons_zero, List.set_cons_succ]
                              refine tkI (i := 12) (v := ?v541) rfl (.inl ⟨by kernel_rfl, ?y541⟩) ‹_› ?r541
                              case y541 => (intro w h; (try dsimp only at h); go_simp <;> with_reducible rfl)
                              refine tkI (i := 13) (v := ?v542) rfl (.inl ⟨by kernel_rfl, ?y542⟩) ‹_› ?r542
                              case y542 => (intro w h; (try dsimp only at h); go_simp <;> with_reducible rfl)
                              try simp only [Act.put, List.getElem_toArray, List.getElem_cons_zero, List.getElem_cons_succ, List.setIfInBounds_toArray, List.set_cons_zero, List.set_cons_succ]
                              refine tkI (i := 14) (v := ?v543) rfl (.inl ⟨by kernel_rfl, ?y543⟩) ‹_› ?r543
                              case y543 => (intro w h; (try dsimp only at h); go_simp <;> with_reducible rfl)
                              refine tkI (i := 15) (v := ?v544) rfl (.inl ⟨by kernel_rfl, ?y544⟩) ‹_› ?r544
                              case y544 => (intro w h; (try dsimp only at h); go_simp <;> with_reducible rfl)
                              try simp only [Act.put, List.getElem_toArray, List.getElem_cons_zero, List.getElem_cons_succ, List.setIfInBounds_toArray, List.set_cons_zero, List.set_cons_succ]
                              refine tkI (i := 16) (v := ?v545) rfl (.inl ⟨by kernel_rfl, ?y545⟩) ‹_› ?r545
                              case y545 => (intro w h; (try dsimp only at h); go_simp <;> with_reducible rfl)
                              refine tkI (i := 17) (v := ?v546) rfl (.inl ⟨by kernel_rfl, ?y546⟩) ‹_› ?r546
                              case y546 => (intro w h; (try dsimp only at h); go_simp <;> with_reducible rfl)
                              try simp only [Act.put, List.getElem_toArray, List.getElem_cons_zero, List.getElem_cons_succ, List.setIfInBounds_toArray, List.set_cons_zero, List.set_cons_succ]
                              refine tkI (i := 18) (v := ?v547) rfl (.inl ⟨by kernel_rfl, ?y547⟩) ‹_› ?r547
                              case y547 => (intro w h; (try dsimp only at h); go_simp <;> with_reducible rfl)
                              refine tkI (i := 19) (v := ?v548) rfl (.inl ⟨by kernel_rfl, ?y548⟩) ‹_› ?r548
                              case y548 => (intro w h; (try dsimp only at h); go_simp <;> with_reducible rfl)
                              try simp only [Act.put, List.getElem_toArray, List.getElem_cons_zero, List.getElem_cons_succ, List.setIfInBounds_toArray, List.set_cons_zero, List.set_cons_succ]
                              refine tkI (i := 20) (v := ?v549) rfl (.inl ⟨by kernel_rfl, ?y549⟩) ‹_› ?r549
                              case y549 => (intro w h; (try dsimp only at h); go_simp <;> with_reducible rfl)
                              refine tkI (i := 21) (v := ?v550) rfl (.inl ⟨by kernel_rfl, ?y550⟩) ‹_› ?r550
                              case y550 => (intro w h; (try dsimp only at h); go_simp <;> with_reducible rfl)
                              try simp only [Act.put, List.getElem_toArray, List.getElem_cons_zero, List.getElem_cons_succ, List.setIfInBounds_toArray, List.set_cons_zero, List.set_cons_succ]
                              refine tkI (i := 22) (v := ?v551) rfl (.inl ⟨by kernel_rfl, ?y551⟩) ‹_› ?r551
                              case y551 => (intro w h; (try dsimp only at h); go_simp <;> with_reducible rfl)
                              refine tkI (i := 23) (v := ?v552) rfl (.inl ⟨by kernel_rfl, ?y552⟩) ‹_› ?r552
                              case y552 => (intro w h; (try dsimp only at h); go_simp <;> with_reducible rfl)
                              try simp only [Act.put, List.getElem_toArray, List.getElem_cons_zero, List.getElem_cons_succ, List.setIfInBounds_toArray, List.set_cons_zero, List.set_cons_succ]
                              refine tkI (i := 24) (v := ?v553) rfl (.inl ⟨by kernel_rfl, ?y553⟩) ‹_› ?r553
                              case y553 => (intro w h; (try dsimp only at h); go_simp <;> with_reducible rfl)
                              refine tkI (i := 25) (v := ?v554) rfl (.inl ⟨by kernel_rfl, ?y554⟩) ‹_› ?r554
                              case y554 => (intro w h; (try dsimp only at h); go_simp <;> with_reducible rfl)
                              try simp only [Act.put, List.getElem_toArray, List.getElem_cons_zero, List.getElem_cons_succ, List.setIfInBounds_toArray, List.set_cons_zero, List.set_cons_succ]
                              refine tkI (i := 26) (v := ?v555) rfl (.inl ⟨by kernel_rfl, ?y555⟩) ‹_› ?r555
                              case y555 => (intro w h; (try dsimp only at h); go_simp <;> with_reducible rfl)
                              refine tkI (i := 27) (v := ?v556) rfl (.inl ⟨by kernel_rfl, ?y556⟩) ‹_› ?r556
                              case y556 => (intro w h; (try dsimp only at h); go_simp <;> with_reducible rfl)
                              try simp only [Act.put, List.getElem_toArray, List.getElem_cons_zero, List.getElem_cons_succ, List.setIfInBounds_toArray, List.set_cons_zero, List.set_cons_succ]
                              refine tkI (i := 28) (v := ?v557) rfl (.inl ⟨by kernel_rfl, ?y557⟩) ‹_› ?r557
                              case y557 => (intro w h; (try dsimp only at h); go_simp <;> with_reducible rfl)
                              refine tkI (i := 29) (v := ?v558) rfl (.inl ⟨by kernel_rfl, ?y558⟩) ‹_› ?r558
                              case y558 => (intro w h; (try dsimp only at h); go_simp <;> with_reducible rfl)
                              try simp only [Act.put, List.getElem_toArray, List.getElem_cons_zero, List.getElem_cons_succ, List.setIfInBounds_toArray, List.set_cons_zero, List.set_cons_succ]
                              refine tkI (i := 30) (v := ?v559) rfl (.inl ⟨by kernel_rfl, ?y559⟩) ‹_› ?r559
                              case y559 => (intro w h; (try dsimp only at h); go_simp <;> with_reducible rfl)
                              try simp only [Act.put, List.getElem_toArray, List.getElem_cons_zero, List.getElem_cons_succ, List.setIfInBounds_toArray, List.set_cons_zero, List.set_cons_succ]
                              refine tkI (i := 31) (v := ?v560) rfl (.inl ⟨by kernel_rfl, ?y560⟩) ‹_› ?r560
                              case y560 => (intro w h; (try dsimp only at h); go_simp <;> with_reducible rfl)
                              try simp only [Act.put, List.getElem_toArray, List.getElem_cons_zero, List.getElem_cons_succ, List.setIfInBounds_toArray, List.set_cons_zero, List.set_cons_succ]
                              refine tkI (i := 32) (v := ?v561) rfl (.inl ⟨by kernel_rfl, ?y561⟩) ‹_› ?r561
                              case y561 => (intro w h; (try dsimp only at h); go_simp <;> with_reducible rfl)
                              try simp only [Act.put, List.getElem_toArray, List.getElem_cons_zero, List.getElem_cons_succ, List.setIfInBounds_toArray, List.set_cons_zero, List.set_cons_succ]
                              refine tkI (i := 33) (v := ?v562) rfl (.inl ⟨by kernel_rfl, ?y562⟩) ‹_› ?r562
                              case y562 => (intro w h; (try dsimp only at h); go_simp <;> with_reducible rfl)
                              try simp only [Act.put, List.getElem_toArray, List.getElem_cons_zero, List.getElem_cons_succ, List.setIfInBounds_toArray, List.set_cons_zero, List.set_cons_succ]
                              refine tkI (i := 34) (v := ?v563) rfl (.inl ⟨by kernel_rfl, ?y563⟩) ‹_› ?r563
                              case y563 => (intro w h; (try dsimp only at h); go_simp <;> with_reducible rfl)
                              try simp only [Act.put, List.getElem_toArray, List.getElem_cons_zero, List.getElem_cons_succ, List.setIfInBounds_toArray, List.set_cons_zero, List.set_cons_succ]
                              refine tkI (i := 35) (v := ?v564) rfl (.inl ⟨by kernel_rfl, ?y564⟩) ‹_› ?r564
                              case y564 => (intro w h; (try dsimp only at h); go_simp <;> with_reducible rfl)
                              try simp only [Act.put, List.getElem_toArray, List.getElem_cons_zero, List.getElem_cons_succ, List.setIfInBounds_toArray, List.set_cons_zero, List.set_cons_succ]
                              refine tkI (i := 36) (v := ?v565) rfl (.inl ⟨by kernel_rfl, ?y565⟩) ‹_› ?r565
                              case y565 => (intro w h; (try dsimp only at h); go_simp <;> with_reducible rfl)
                              try simp only [Act.put, List.getElem_toArray, List.getElem_cons_zero, List.getElem_cons_succ, List.setIfInBounds_toArray, List.set_cons_zero, List.set_cons_succ]
                              refine tkI (i := 37) (v := ?v566) rfl (.inl ⟨by kernel_rfl, ?y566⟩) ‹_› ?r566
                              case y566 => (intro w h; (try dsimp only at h); go_simp <;> with_reducible rfl)
                              try simp only [Act.put, List.getElem_toArray, List.getElem_cons_zero, List.getElem_cons_succ, List.setIfInBounds_toArray, List.set_cons_zero, List.set_cons_succ]
                              refine tkI (i := 38) (v := ?v567) rfl (.inl ⟨by kernel_rfl, ?y567⟩) ‹_› ?r567
                              case y567 => (intro w h; (try dsimp only at h); go_simp <;> with_reducible rfl)
                              try simp only [Act.put, List.getElem_toArray, List.getElem_cons_zero, List.getElem_cons_succ, List.setIfInBounds_toArray, List.set_cons_zero, List.set_cons_succ]
                              refine tkI (i := 39) (v := ?v568) rfl (.inl ⟨by kernel_rfl, ?y568⟩) ‹_› ?r568
                              case y568 => (intro w h; (try dsimp only at h); go_simp <;> with_reducible rfl)
                              try simp only [Act.put, List.getElem_toArray, List.getElem_cons_zero, List.getElem_cons_succ, List.setIfInBounds_toArray, List.set_cons_zero, List.set_cons_succ]
                              refine tkI (i := 40) (v := ?v569) rfl (.inl ⟨by kernel_rfl, ?y569⟩) ‹_› ?r569
                              case y569 => (intro w h; (try dsimp only at h); go_simp <;> with_reducible rfl)
                              try simp only [Act.put, List.getElem_toArray, List.getElem_cons_zero, List.getElem_cons_succ, List.setIfInBounds_toArray, List.set_cons_zero, List.set_cons_succ]
                              refine wpAnyH_done (by kernel_rfl) ?_ _
                              clear x0 x1 x2 x3 x4 x5 x6 x7 xa x0' x1' x2' x3' x4' x5' x6' x7' xa' u0 u1 u2 u3 u4 u5 u6 u7 ua u0' u1' u2' u3' u4' u5' u6' u7' ua'
                              go_wp2_with fail
                              go_roundw
                              case rel => first | exact ⟨j2 + 1, false, by omega, by go_num, rfl, Lib.hid (by rw [any_snoc HUu.out, ← hG.out]; exact HRB.out), HB7⟩ | ((repeat apply Exists.intro); exact ⟨⟨j2 + 1, false, by omega, by go_num, rfl, Lib.hid (by rw [any_snoc HUu.out, ← hG.out]; exact HRB.out), HB7⟩, rfl⟩)
                              case measure => simp [intOf]; omega
                        · have e2a : ¬ (u.resp : Int) < (x.resp : Int) := by omega
                          have hrt : rb = false := by rw [HRB.out]; unfold tkP; rw [HAu0.out, decide_eq_false e2]; rfl
                          subst hrt
                          as_aux_lemma =>
                            refine wp_region_held_drew (S := (fun w' => w'.cell? ⟨gE, j2 * 8, none⟩ = some (.int .i64 (u.i : Int)) ∧ w'.cell? ⟨gE, j2 * 8 + 1, none⟩ = some (.int .i64 (u.inv : Int)) ∧ w'.cell? ⟨gE, j2 * 8 + 2, none⟩ = some (.int .i64 (u.resp : Int)) ∧ w'.cell? ⟨gE, j2 * 8 + 3, none⟩ = some (.int .i64 (u.steps : Int)) ∧ w'.cell? ⟨gE, j2 * 8 + 4, none⟩ = some (.int .i64 (u.ans.err : Int)) ∧ w'.cell? ⟨gE, j2 * 8 + 5, none⟩ = some (.int .u64 (u.ans.val : Int)) ∧ w'.cell? ⟨gE, j2 * 8 + 6, none⟩ = some (.slice lau u.ans.list.length lcu) ∧ w'.cell? ⟨gE, j2 * 8 + 7, none⟩ = some (.slice kau u.key.length kcu) ∧ w'.cell? ⟨gE, j * 8, none⟩ = some (.int .i64 (x.i : Int)) ∧ w'.cell? ⟨gE, j * 8 + 2, none⟩ = some (.int .i64 (x.resp : Int)) ∧ w'.cell? ⟨b, o + x.i * 6 + 3, none⟩ = some (.int .u64 (y.a : Int)))) (by kernel_rfl) ?_ (fun hHeld => ?_)
                            · first | with_reducible exact ⟨u0, u1, u2, u3, u4, u5, u6, u7, x0, x2, xa⟩ | go_keep
                            refine tkI (i := 0) (v := ?v570) rfl (.inl ⟨by kernel_rfl, ?y570⟩) ‹_› ?r570
                            case y570 => (intro w h; (try dsimp only at h); go_simp <;> with_reducible rfl)
                            refine tkI (i := 1) (v := ?v571) rfl (.inl ⟨by kernel_rfl, ?y571⟩) ‹_› ?r571
                            case y571 => (intro w h; (try dsimp only at h); go_simp <;> with_reducible rfl)
                            try simp only [Act.put, List.getElem_toArray, List.getElem_cons_zero, List.getElem_cons_succ, List.setIfInBounds_toArray, List.set_cons_zero, List.set_cons_succ]
                            refine tkI (i := 2) (v := ?v572) rfl (.inl ⟨by kernel_rfl, ?y572⟩) ‹_› ?r572
                            case y572 => (intro w h; (try dsimp only at h); go_simp <;> with_reducible rfl)
                            refine tkI (i := 3) (v := ?v573) rfl (.inl ⟨by kernel_rfl, ?y573⟩) ‹_› ?r573
                            case y573 => (intro w h; (try dsimp only at h); go_simp <;> with_reducible rfl)
                            try simp only [Act.put, List.getElem_toArray, List.getElem_cons_zero, List.getElem_cons_succ, List.setIfInBounds_toArray, List.set_cons_zero, List.set_cons_succ]
                            refine tkI (i := 4) (v := ?v574) rfl (.inl ⟨by kernel_rfl, ?y574⟩) ‹_› ?r574
                            case y574 => (intro w h; (try dsimp only at h); go_simp <;> with_reducible rfl)
                            refine tkI (i := 5) (v := ?v575) rfl (.inl ⟨by kernel_rfl, ?y575⟩) ‹_› ?r575
                            case y575 => (intro w h; (try dsimp only at h); go_simp <;> with_reducible rfl)
                            try simp only [Act.put, List.getElem_toArray, List.getElem_cons_zero, List.getElem_cons_succ, List.setIfInBounds_toArray, List.set_cons_zero, List.set_cons_succ]
                            refine tkI (i := 6) (v := ?v576) rfl (.inl ⟨by kernel_rfl, ?y576⟩) ‹_› ?r576
                            case y576 => (intro w h; (try dsimp only at h); go_simp <;> with_reducible rfl)
                            refine wpAnyH_ready (rs := [7]) (by kernel_rfl) (by simp) ?_
                            refine AllReadyH.cons (o := _) rfl (fun K hK => ?_) AllReadyH.nil
                            go_simp
                            go_at_call 17
                            refine (HIu0.out _ (below_drew HBc.out)).mono ?_
                            rintro e w7 ⟨rfl, hb7⟩
                            have HB7 : Hid (Below w0.heap.size w0 w7) := Lib.hid ((below_drew HBc.out).trans (hb7.mono (by have := HBc.out.size; exact this)))
                            clear hb7
                            obtain ⟨x0', x1', x2', x3', x4', x5', x6', x7', xa'⟩ := HFx.out w7 HB7.out
                            obtain ⟨u0', u1', u2', u3', u4', u5', u6', u7', ua'⟩ := HFu.out w7 HB7.out
                            go_simp
                            refine hK.out _ _ ?_ (fun hHeld => ?_)
                            · with_reducible exact ⟨u0', u1', u2', u3', u4', u5', u6', u7', x0', x2', xa'⟩
                            clear hK K
                            try simp only [Act.put, List.getElem_toArray, List.getElem_cons_zero, List.getElem_cons_succ, List.setIfInBounds_toArray, List.set_cons_zero, List.set_cons_succ]
                            refine tkI (i := 8) (v := ?v577) rfl (.inl ⟨by kernel_rfl, ?y577⟩) ‹_› ?r577
                            case y577 => (intro w h; (try dsimp only at h); go_simp <;> with_reducible rfl)
                            refine tkI (i := 9) (v := ?v578) rfl (.inl ⟨by kernel_rfl, ?y578⟩) ‹_› ?r578
                            case y578 => (intro w h; (try dsimp only at h); go_simp <;> with_reducible rfl)
                            try simp only [Act.put, List.getElem_toArray, List.getElem_cons_zero, List.getElem_cons_succ, List.setIfInBounds_toArray, List.set_cons_zero, List.set_cons_succ]
                            refine tkI (i := 10) (v := ?v579) rfl (.inl ⟨by kernel_rfl, ?y579⟩) ‹_› ?r579
                            case y579 => (intro w h; (try dsimp only at h); go_simp <;> with_reducible rfl)
                            refine tkI (i := 11) (v := ?v580) rfl (.inl ⟨by kernel_rfl, ?y580⟩) ‹_› ?r580
                            case y580 => (intro w h; (try dsimp only at h); go_simp <;> with_reducible rfl)
                            try simp only [Act.put, List.getElem_toArray, List.getElem_cons_zero, List.getElem_cons_succ, List.setIfInBounds_toArray, List.set_cons_zero, List.set_cons_succ]
                            refine tkI (i := 12) (v := ?v581) rfl (.inl ⟨by kernel_rfl, ?y581⟩) ‹_› ?r581
                            case y581 => (intro w h; (try dsimp only at h); go_simp <;> with_reducible rfl)
                            refine tkI (i := 13) (v := ?v582) rfl (.inl ⟨by kernel_rfl, ?y582⟩) ‹_› ?r582
                            case y582 => (intro w h; (try dsimp only at h); go_simp <;> with_reducible rfl)
                            try simp only [Act.put, List.getElem_toArray, List.getElem_cons_zero, List.getElem_cons_succ, List.setIfInBounds_toArray, List.set_cons_zero, List.set_cons_succ]
                            refine tkI (i := 14) (v := ?v583) rfl (.inl ⟨by kernel_rfl, ?y583⟩) ‹_› ?r583
                            case y583 => (intro w h; (try dsimp only at h); go_simp <;> with_reducible rfl)
                            refine tkI (i := 15) (v := ?v584) rfl (.inl ⟨by kernel_rfl, ?y584⟩) ‹_› ?r584
                            case y584 => (intro w h; (try dsimp only at h); go_simp <;> with_reducible rfl)
                            try simp only [Act.put, List.getElem_toArray, List.getElem_cons_zero, List.getElem_cons_succ, List.setIfInBounds_toArray, List.set_cons_zero, List.set_cons_succ]
                            refine tkI (i := 16) (v := ?v585) rfl (.inl ⟨by kernel_rfl, ?y585⟩) ‹_› ?r585
                            case y585 => (intro w h; (try dsimp only at h); go_simp <;> with_reducible rfl)
                            refine tkI (i := 17) (v := ?v586) rfl (.inl ⟨by kernel_rfl, ?y586⟩) ‹_› ?r586
                            case y586 => (intro w h; (try dsimp only at h); go_simp <;> with_reducible rfl)
                            try simp only [Act.put, List.getElem_toArray, List.getElem_cons_zero, List.getElem_cons_succ, List.setIfInBounds_toArray, List.set_cons_zero, List.set_cons_succ]
                            refine tkI (i := 18) (v := ?v587) rfl (.inl ⟨by kernel_rfl, ?y587⟩) ‹_› ?r587
                            case y587 => (intro w h; (try dsimp only at h); go_simp <;> with_reducible rfl)
                            refine tkI (i := 19) (v := ?v588) rfl (.inl ⟨by kernel_rfl, ?y588⟩) ‹_› ?r588
                            case y588 => (intro w h; (try dsimp only at h); go_simp <;> with_reducible rfl)
                            try simp only [Act.put, List.getElem_toArray, List.getElem_cons_zero, List.getElem_cons_succ, List.setIfInBounds_toArray, List.set_cons_zero, List.set_cons_succ]
                            refine tkI (i := 20) (v := ?v589) rfl (.inl ⟨by kernel_rfl, ?y589⟩) ‹_› ?r589
                            case y589 => (intro w h; (try dsimp only at h); go_simp <;> with_reducible rfl)
                            refine tkI (i := 21) (v := ?v590) rfl (.inl ⟨by kernel_rfl, ?y590⟩) ‹_› ?r590
                            case y590 => (intro w h; (try dsimp only at h); go_simp <;> with_reducible rfl)
                            try simp only [Act.put, List.getElem_toArray, List.getElem_cons_zero, List.getElem_cons_succ, List.setIfInBounds_toArray, List.set_cons_zero, List.set_cons_succ]
                            refine tkI (i := 22) (v := undef) rfl (.inr ⟨by kernel_rfl, rfl⟩) ‹_› ?r591
                            refine tkI (i := 23) (v := undef) rfl (.inr ⟨by kernel_rfl, rfl⟩) ‹_› ?r592
                            try simp only [Act.put, List.getElem_toArray, List.getElem_cons_zero, List.getElem_cons_succ, List.setIfInBounds_toArray, List.set_cons_zero, List.set_cons_succ]
                            refine tkI (i := 24) (v := undef) rfl (.inr ⟨by kernel_rfl, rfl⟩) ‹_› ?r593
                            refine tkI (i := 25) (v := undef) rfl (.inr ⟨by kernel_rfl, rfl⟩) ‹_› ?r594
                            try simp only [Act.put, List.getElem_toArray, List.getElem_cons_zero, List.getElem_cons_succ, List.setIfInBounds_toArray, List.set_cons_zero, List.set_cons_succ]
                            refine tkI (i := 26) (v := undef) rfl (.inr ⟨by kernel_rfl, rfl⟩) ‹_› ?r595
                            refine tkI (i := 27) (v := undef) rfl (.inr ⟨by kernel_rfl, rfl⟩) ‹_› ?r596
                            try simp only [Act.put, List.getElem_toArray, List.getElem_cons_zero, List.getElem_cons_succ, List.setIfInBounds_toArray, List.set_cons_zero, List.set_cons_succ]
                            refine tkI (i := 28) (v := undef) rfl (.inr ⟨by kernel_rfl, rfl⟩) ‹_› ?r597
                            refine tkI (i := 29) (v := undef) rfl (.inr ⟨by kernel_rfl, rfl⟩) ‹_› ?r598
                            try simp only [Act.put, List.getElem_toArray, List.getElem_cons_zero, List.getElem_cons_succ, List.setIfInBounds_toArray, List.set_cons_zero, List.set_cons_succ]
                            refine tkI (i := 30) (v := undef) rfl (.inr ⟨by kernel_rfl, rfl⟩) ‹_› ?r599
                            try simp only [Act.put, List.getElem_toArray, List.getElem_cons_zero, List.getElem_cons_succ, List.setIfInBounds_toArray, List.set_cons_zero, List.set_cons_succ]
                            refine tkI (i := 31) (v := undef) rfl (.inr ⟨by kernel_rfl, rfl⟩) ‹_› ?r600
                            try simp only [Act.put, List.getElem_toArray, List.getElem_cons_zero, List.getElem_cons_succ, List.setIfInBounds_toArray, List.set_cons_zero, List.set_cons_succ]
                            refine tkI (i := 32) (v := undef) rfl (.inr ⟨by kernel_rfl, rfl⟩) ‹_› ?r601
                            try simp only [Act.put, List.getElem_toArray, List.getElem_cons_zero, List.getElem_cons_succ, List.setIfInBounds_toArray, List.set_cons_zero, List.set_cons_succ]
                            refine tkI (i := 33) (v := undef) rfl (.inr ⟨by kernel_rfl, rfl⟩) ‹_› ?r602
                            try simp only [Act.put, List.getElem_toArray, List.getElem_cons_zero, List.getElem_cons_succ, List.setIfInBounds_toArray, List.set_cons_zero, List.set_cons_succ]
                            refine tkI (i := 34) (v := undef) rfl (.inr ⟨by kernel_rfl, rfl⟩) ‹_› ?r603
                            try simp only [Act.put, List.getElem_toArray, List.getElem_cons_zero, List.getElem_cons_succ, List.setIfInBounds_toArray, List.set_cons_zero, List.set_cons_succ]
                            refine tkI (i := 35) (v := undef) rfl (.inr ⟨by kernel_rfl, rfl⟩) ‹_› ?r604
                            try simp only [Act.put, List.getElem_toArray, List.getElem_cons_zero, List.getElem_cons_succ, List.setIfInBounds_toArray, List.set_cons_zero, List.set_cons_succ]
                            refine tkI (i := 36) (v := undef) rfl (.inr ⟨by kernel_rfl, rfl⟩) ‹_› ?r605
                            try simp only [Act.put, List.getElem_toArray, List.getElem_cons_zero, List.getElem_cons_succ, List.setIfInBounds_toArray, List.set_cons_zero, List.set_cons_succ]
                            refine tkI (i := 37) (v := undef) rfl (.inr ⟨by kernel_rfl, rfl⟩) ‹_› ?r606
                            try simp only [Act.put, List.getElem_toArray, List.getElem_cons_zero, List.getElem_cons_succ, List.setIfInBounds_toArray, List.set_cons_zero, List.set_cons_succ]
                            refine tkI (i := 38) (v := ?v607) rfl (.inl ⟨by kernel_rfl, ?y607⟩) ‹_› ?r607
                            case y607 => (intro w h; (try dsimp only at h); go_simp <;> with_reducible rfl)
                            try simp only [Act.put, List.getElem_toArray, List.getElem_cons_zero, List.getElem_cons_succ, List.setIfInBounds_toArray, List.set_cons_zero, List.set_cons_succ]
                            refine tkI (i := 39) (v := ?v608) rfl (.inl ⟨by kernel_rfl, ?y608⟩) ‹_› ?r608
                            case y608 => (intro w h; (try dsimp only at h); go_simp <;> with_reducible rfl)
                            try simp only [Act.put, List.getElem_toArray, List.getElem_cons_zero, List.getElem_cons_succ, List.setIfInBounds_toArray, List.set_cons_zero, List.set_cons_succ]
                            refine tkI (i := 40) (v := ?v609) rfl (.inl ⟨by kernel_rfl, ?y609⟩) ‹_› ?r609
                            case y609 => (intro w h; (try dsimp only at h); go_simp <;> with_reducible rfl)
                            try simp only [Act.put, List.getElem_toArray, List.getElem_cons_zero, List.getElem_cons_succ, List.setIfInBounds_toArray, List.set_cons_zero, List.set_cons_succ]
                            refine wpAnyH_done (by kernel_rfl) ?_ _
                            clear x0 x1 x2 x3 x4 x5 x6 x7 xa x0' x1' x2' x3' x4' x5' x6' x7' xa' u0 u1 u2 u3 u4 u5 u6 u7 ua u0' u1' u2' u3' u4' u5' u6' u7' ua'
                            go_wp2_with fail
                            go_roundw
                            case rel => first | exact ⟨j2 + 1, false, by omega, by go_num, rfl, Lib.hid (by rw [any_snoc HUu.out, ← hG.out]; exact HRB.out), HB7⟩ | ((repeat apply Exists.intro); exact ⟨⟨j2 + 1, false, by omega, by go_num, rfl, Lib.hid (by rw [any_snoc HUu.out, ← hG.out]; exact HRB.out), HB7⟩, rfl⟩)
                            case measure => simp [intOf]; omega
              · have hjn : ¬ (j2 : Int) < (R.evs.length : Int) := by omega
                have hgt : tb = true := by
                  rw [hG.out, List.take_of_length_le (by omega)]
                  obtain ⟨mm, zz, hmm, hzz, hlz, hcz⟩ := HON.out.from'
                  rw [caC_some HZx.out] at hcz
                  exact any_of (f := tkP cs x.resp y.a) hmm (by unfold tkP; rw [hzz, decide_eq_true hcz, decide_eq_true hlz]; rfl)
                subst hgt
                obtain ⟨x0, x1, x2, x3, x4, x5, x6, x7, xa⟩ := HFx.out wr hBq.out
                go_wp2_with fail
                refine (HIx0.out wr hBq.out).mono ?_
                rintro e w4 ⟨rfl, hb4⟩
                have HB4 : Hid (Below w0.heap.size w0 w4) := Lib.hid (hBq.out.trans (hb4.mono hBq.out.size))
                clear hb4
                clear x0 x1 x2 x3 x4 x5 x6 x7 xa
                go_wp2_with fail
                go_roundw
                case rel => first | exact ⟨j + 1, by omega, by go_num, HB4⟩ | ((repeat apply Exists.intro); exact ⟨⟨j + 1, by omega, by go_num, HB4⟩, rfl⟩)
                case measure => simp [intOf]; omega
      · have hjn : ¬ (j : Int) < (R.evs.length : Int) := by omega
        have HB4 : Hid (Below w.heap.size w wr) := Lib.hid (HB3.out.trans (hBr.out.mono HB3.out.size))
        go_wp2_with fail
        refine (one_any _).mono ?_
        rintro e w4 ⟨rfl, hb4⟩
        have HB5 : Hid (Below w.heap.size w w4) := Lib.hid (HB4.out.trans (hb4.mono HB4.out.size))
        clear hb4
        go_wp2_with fail
        go_ret
        exact ⟨rfl, HB5.out⟩
theorem ponce_all (q0 q1 : Int) (ao : Option Addr) (b o cap : Nat) (cs : List CallV) (ao3 : Option Addr) (b3 o3 cap3 : Nat) (picks : List Int) (w : World) (ha : 0 < cs.length → ao = some ⟨b, o, none⟩) (hb : 0 < cs.length → b < w.heap.size) (hc : CallsAt w b o cs) (hcap : ao = none → cap = 0)
    (ha3 : 0 < picks.length → ao3 = some ⟨b3, o3, none⟩) (hb3 : 0 < picks.length → b3 < w.heap.size) (hc3 : ICells w b3 o3 picks) (hnp : picks.length ≤ 9223372036854775807) (hcl : cs.length ≤ 9223372036854775807) :
    Calls Try.prog 5 #[.agg #[.int .i64 q0, .int .i64 q1], .slice ao cs.length cap, .slice ao3 picks.length cap3] w fun e w' => e = .returned (.bool true) ∧ Below w.heap.size w w' := by
  by_cases hl : longB cs.length picks.length
  · exact ponce_long q0 q1 ao ao3 cs.length cap picks.length cap3 w hnp hl
  · by_cases he : playErr q0 cs picks.length (poolErr q1) = 0
    · obtain ⟨n, rfl, hn1, hth, hpl, _, her⟩ := play_threads he
      have hk : 1 ≤ q1 ∧ q1 ≤ 32 := by
        unfold poolErr at her
        split at her
        · next h => exact h
        · cases her
      obtain ⟨k, rfl⟩ : ∃ k : Nat, q1 = (k : Int) := ⟨q1.toNat, by omega⟩
      have hsz : poolSz (n : Int) (k : Int) = n * k := by unfold poolSz; rw [if_pos hk]; rfl
      have hm : n * k ≤ 512 := Nat.le_trans (Nat.mul_le_mul hn1.2 (show k ≤ 32 by omega)) (by decide)
      have hevs := endM_evs (M := poolM n k) cs (List.replicate (n * k) 0) () picks
      have hend := pool_end (n := n) (k := k) (by omega) hm hth picks
      have hR := rowI_end (M := poolM n k) cs (List.replicate (n * k) 0) () picks
      refine ponce_good n k ao b o cap cs ao3 b3 o3 cap3 picks w hl ha hb hc hcap ha3 hb3 hc3 hnp hcl he (by omega) (repOf (endM (M := poolM n k) cs (List.replicate (n * k) 0) () picks)) (by rw [hsz]) (pool_once hm hR hend.2) ?_
      show ((endM (M := poolM n k) cs (List.replicate (n * k) 0) () picks).evs.map _).length ≤ _
      rw [List.length_map]; omega
    · exact ponce_bad q0 q1 ao b o cap cs ao3 b3 o3 cap3 picks w hl ha hb hc hcap ha3 hb3 hc3 hnp he
end Go.Proofs.Ytebfkkgemccbfaa
