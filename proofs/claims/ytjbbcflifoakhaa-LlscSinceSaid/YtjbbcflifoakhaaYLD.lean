/- Walks of the law on linked words: the example; who linked last; whether it was written. -/
import Derived.Test.YtjbbcflifoakhaaGYD
import Derived.Test.YtjbbcflifoakhaaGYA
import Derived.Test.YtjbbcflifoakhaaZE
import Derived.Deep.QuietTactic
import Derived.BigQuiet
namespace Go.Proofs.Ytjbbcflifoakhaa
open Go.RowKit
set_option linter.unusedVariables false
set_option linter.unusedSimpArgs false
def againCs : List CallV := [⟨0, 0, 0, 0, 0, 0⟩, ⟨1, 0, 0, 0, 0, 0⟩, ⟨1, 0, 1, 0, 5, 0⟩, ⟨1, 0, 0, 0, 0, 0⟩, ⟨1, 0, 1, 0, 0, 0⟩, ⟨0, 0, 2, 0, 0, 0⟩, ⟨0, 0, 1, 0, 7, 0⟩]
theorem again_end : repOf (endM (M := (llM (1 : Int).toNat)) againCs (List.replicate (llSz 1) 0) ll0 [0, 1, 1, 1, 1, 0, 0]) = ⟨[⟨0, 1, 1, 1, ⟨0, 0, []⟩, [2]⟩, ⟨1, 2, 2, 1, ⟨0, 0, []⟩, [4]⟩, ⟨2, 3, 3, 1, ⟨0, 1, []⟩, [6]⟩, ⟨3, 4, 4, 1, ⟨0, 5, []⟩, [8]⟩, ⟨4, 5, 5, 1, ⟨0, 1, []⟩, [10]⟩, ⟨5, 6, 6, 1, ⟨0, 0, []⟩, [12]⟩, ⟨6, 7, 7, 1, ⟨0, 0, []⟩, [14]⟩], [8589934592], ⟨4, 0, 3, 0, 0⟩, 7, 0⟩ := by kernel_rfl
set_option maxRecDepth 100000 in
set_option maxHeartbeats 4000000 in
theorem again_any (w : World) : Calls Try.prog 5 #[] w fun e w' => e = .returned (.bool true) ∧ Below w.heap.size w w' := by
  go_enter Try.func5, Try.ntmps5
  go_wp2_with fail
  generalize hw2 : (w.alloc (.cells #[.int .i64 0, .int .i64 0, .int .i64 0, .int .u64 0, .int .u64 0, .int .u64 0, .int .i64 1, .int .i64 0, .int .i64 0, .int .u64 0, .int .u64 0, .int .u64 0, .int .i64 1, .int .i64 0, .int .i64 1, .int .u64 0, .int .u64 5, .int .u64 0, .int .i64 1, .int .i64 0, .int .i64 0, .int .u64 0, .int .u64 0, .int .u64 0, .int .i64 1, .int .i64 0, .int .i64 1, .int .u64 0, .int .u64 0, .int .u64 0, .int .i64 0, .int .i64 0, .int .i64 2, .int .u64 0, .int .u64 0, .int .u64 0, .int .i64 0, .int .i64 0, .int .i64 1, .int .u64 0, .int .u64 7, .int .u64 0] 43)).alloc (.cells #[.int .i64 0, .int .i64 1, .int .i64 1, .int .i64 1, .int .i64 1, .int .i64 0, .int .i64 0] 3) = w2
  have HB0 : Hid (Below w.heap.size w w2) := Lib.hid (by rw [← hw2]; exact ((Below.refl _ _).alloc (Nat.le_refl _) _).alloc (by simp) _)
  have hsz : w2.heap.size = w.heap.size + 2 := by rw [← hw2]; simp
  have hc : CallsAt w2 w.heap.size 0 againCs := by
    have e : ∀ k, w2.cell? ⟨w.heap.size, k, none⟩ = (#[.int .i64 0, .int .i64 0, .int .i64 0, .int .u64 0, .int .u64 0, .int .u64 0, .int .i64 1, .int .i64 0, .int .i64 0, .int .u64 0, .int .u64 0, .int .u64 0, .int .i64 1, .int .i64 0, .int .i64 1, .int .u64 0, .int .u64 5, .int .u64 0, .int .i64 1, .int .i64 0, .int .i64 0, .int .u64 0, .int .u64 0, .int .u64 0, .int .i64 1, .int .i64 0, .int .i64 1, .int .u64 0, .int .u64 0, .int .u64 0, .int .i64 0, .int .i64 0, .int .i64 2, .int .u64 0, .int .u64 0, .int .u64 0, .int .i64 0, .int .i64 0, .int .i64 1, .int .u64 0, .int .u64 7, .int .u64 0] : Array Value)[k]? := fun k => by
      rw [← hw2, World.cell?_alloc_past _ _ _ (by simp), World.cell?_alloc_at _ _ _ _ rfl]
    intro i x hx
    match i, hx with
    | 0, hx => cases hx; refine ⟨e _, e _, e _, e _, e _, e _, ?_⟩; decide
    | 1, hx => cases hx; refine ⟨e _, e _, e _, e _, e _, e _, ?_⟩; decide
    | 2, hx => cases hx; refine ⟨e _, e _, e _, e _, e _, e _, ?_⟩; decide
    | 3, hx => cases hx; refine ⟨e _, e _, e _, e _, e _, e _, ?_⟩; decide
    | 4, hx => cases hx; refine ⟨e _, e _, e _, e _, e _, e _, ?_⟩; decide
    | 5, hx => cases hx; refine ⟨e _, e _, e _, e _, e _, e _, ?_⟩; decide
    | 6, hx => cases hx; refine ⟨e _, e _, e _, e _, e _, e _, ?_⟩; decide
    | i + 7, hx => simp [againCs] at hx
  have hp : ICells w2 (w.heap.size + 1) 0 [0, 1, 1, 1, 1, 0, 0] := by
    have e : ∀ k, w2.cell? ⟨w.heap.size + 1, k, none⟩ = (#[.int .i64 0, .int .i64 1, .int .i64 1, .int .i64 1, .int .i64 1, .int .i64 0, .int .i64 0] : Array Value)[k]? := fun k => by
      rw [← hw2, World.cell?_alloc_at _ _ _ _ (by simp)]
    intro i x hx
    match i, hx with
    | 0, hx => cases hx; exact ⟨e _, by decide⟩
    | 1, hx => cases hx; exact ⟨e _, by decide⟩
    | 2, hx => cases hx; exact ⟨e _, by decide⟩
    | 3, hx => cases hx; exact ⟨e _, by decide⟩
    | 4, hx => cases hx; exact ⟨e _, by decide⟩
    | 5, hx => cases hx; exact ⟨e _, by decide⟩
    | 6, hx => cases hx; exact ⟨e _, by decide⟩
    | i + 7, hx => simp at hx
  have HG := Lib.hid (ll_play 2 1 (some ⟨w.heap.size, 0, none⟩) w.heap.size 0 7 againCs (some ⟨w.heap.size + 1, 0, none⟩) (w.heap.size + 1) 0 7 [0, 1, 1, 1, 1, 0, 0] w2 (fun _ => rfl) (fun _ => by omega) hc (fun h => by cases h) (fun _ => rfl) (fun _ => by omega) hp (by decide))
  clear hw2 hc hp
  refine (show Calls Try.prog 6 #[.int .i64 2, .int .i64 1, .slice (some ⟨w.heap.size, 0, none⟩) 7 7, .slice (some ⟨w.heap.size + 1, 0, none⟩) 7 7] w2 (PlayG (llM (1 : Int).toNat) 2 0 againCs (List.replicate (llSz 1) 0) ll0 [0, 1, 1, 1, 1, 0, 0] w2) from HG.out).mono ?_
  rintro e w3 hP
  obtain ⟨aoE, gE, capE, gw, rfl, hao, hev, hrw, _, hb3⟩ := hP.good (by decide)
  rw [again_end] at hao hev hrw ⊢
  obtain rfl := hao (by decide)
  have z := hb3.size
  have HB3 : Hid (Below w.heap.size w w3) := Lib.hid (HB0.out.trans (hb3.mono (by omega)))
  obtain ⟨_, la2, ka2, lc2, kc2, v2⟩ := hev 2 _ rfl
  obtain ⟨_, la4, ka4, lc4, kc4, v4⟩ := hev 4 _ rfl
  obtain ⟨_, la5, ka5, lc5, kc5, v5⟩ := hev 5 _ rfl
  obtain ⟨_, la6, ka6, lc6, kc6, v6⟩ := hev 6 _ rfl
  have r25 : w3.cell? ⟨gE, 21, none⟩ = some (.int .u64 1) := v2.c5
  have r45 : w3.cell? ⟨gE, 37, none⟩ = some (.int .u64 1) := v4.c5
  have r55 : w3.cell? ⟨gE, 45, none⟩ = some (.int .u64 0) := v5.c5
  have r65 : w3.cell? ⟨gE, 53, none⟩ = some (.int .u64 0) := v6.c5
  have l1 := World.block_lt_of_cell? w3 ⟨gE, 21, none⟩ r25
  have w_0 : w3.cell? ⟨gw, 0, none⟩ = some (.int .u64 8589934592) := hrw.cell rfl
  have lw := hrw.lt
  clear hao hev hrw hb3 v2 v4 v5 v6 HG hP
  unfold repVs
  go_wp2_with fail
  go_ret
  exact ⟨rfl, HB3.out.alloc (by omega) _⟩
def longB (cl pl : Nat) : Prop := (60 < cl ∧ cl ≤ 1000) ∨ (600 < pl ∧ pl ≤ 65536) ∨ 1100 < cl
set_option maxRecDepth 20000 in
theorem lsince_long (q0 q1 : Int) (ao ao3 : Option Addr) (cl cap pl cap3 : Nat) (w : World) (hp : pl ≤ 9223372036854775807) (h : longB cl pl) :
    Calls Try.prog 3 #[.agg #[.int .i64 q0, .int .i64 q1], .slice ao cl cap, .slice ao3 pl cap3] w fun e w' => e = .returned (.bool true) ∧ Below w.heap.size w w' := by
  have H := Lib.hid h
  clear h
  go_enter Try.func3, Try.ntmps3
  go_wp2_with fail
  refine (many_yes _ _ _ _ _ _ _ hp H.out).mono ?_
  rintro e w1 ⟨rfl, rfl⟩
  go_wp2_with fail
  refine (again_any _).mono ?_
  rintro e w2 ⟨rfl, hb⟩
  have HB : Hid (Below w.heap.size w w2) := Lib.hid (((Below.refl w.heap.size w).alloc (Nat.le_refl _) (.cells #[.int .i64 q0, .int .i64 q1] 22)).trans (hb.mono (by simp)))
  clear hb
  go_wp2_with fail
  go_ret
  exact ⟨rfl, HB.out⟩
set_option maxRecDepth 100000 in
set_option maxHeartbeats 2000000 in
theorem lsince_bad (q0 q1 : Int) (ao : Option Addr) (b o cap : Nat) (cs : List CallV) (ao3 : Option Addr) (b3 o3 cap3 : Nat) (picks : List Int) (w : World) (hl : ¬ longB cs.length picks.length) (ha : 0 < cs.length → ao = some ⟨b, o, none⟩) (hb : 0 < cs.length → b < w.heap.size) (hc : CallsAt w b o cs) (hcap : ao = none → cap = 0)
    (ha3 : 0 < picks.length → ao3 = some ⟨b3, o3, none⟩) (hb3 : 0 < picks.length → b3 < w.heap.size) (hc3 : ICells w b3 o3 picks) (hnp : picks.length ≤ 9223372036854775807) (he : playErr q0 cs picks.length (llErr q1) ≠ 0) :
    Calls Try.prog 3 #[.agg #[.int .i64 q0, .int .i64 q1], .slice ao cs.length cap, .slice ao3 picks.length cap3] w fun e w' => e = .returned (.bool true) ∧ Below w.heap.size w w' := by
  have hw1 : Below w.heap.size w (w.alloc (.cells #[.int .i64 q0, .int .i64 q1] 22)) := (Below.refl _ _).alloc (Nat.le_refl _) _
  have hP := ll_play q0 q1 ao b o cap cs ao3 b3 o3 cap3 picks (w.alloc (.cells #[.int .i64 q0, .int .i64 q1] 22)) ha (fun h => by have := hb h; simp; omega) (hc.stays hw1 hb) hcap ha3 (fun h => by have := hb3 h; simp; omega) (hc3.stays hw1 hb3) hnp
  have HP := Lib.hid hP
  have HE := Lib.hid he
  have HL := Lib.hid hl
  have hne : ¬ ((playErr q0 cs picks.length (llErr q1) : Nat) : Int) = 0 := by omega
  have HW1 := Lib.hid hw1
  clear ha hb hc hcap ha3 hb3 hc3 he hl hP hw1
  go_enter Try.func3, Try.ntmps3
  go_wp2_with fail
  refine (many_no _ _ _ _ _ _ _ hnp HL.out).mono ?_
  rintro e w1 ⟨rfl, rfl⟩
  go_wp2_with fail
  refine HP.out.mono ?_
  rintro e w2 hP
  obtain ⟨rfl, hb2⟩ := hP.bad HE.out
  have HB2 : Hid (Below w.heap.size w w2) := Lib.hid (HW1.out.trans (hb2.mono (by simp)))
  clear hP hb2 HP
  generalize playErr q0 cs picks.length (llErr q1) = er at *
  unfold zeroRep zeroVs
  go_wp2_with fail
  have hnz := none_zero (w2.alloc (.cells #[.slice none 0 0, .slice none 0 0, .int .i64 0, .int .i64 0, .int .i64 0, .int .i64 0, .int .i64 0, .int .i64 0, .int .i64 0] 32))
  unfold zeroRep zeroVs at hnz
  refine hnz.mono ?_
  rintro e w3 ⟨rfl, hb3⟩
  have z2 := HB2.out.size
  have HB3 : Hid (Below w.heap.size w w3) := Lib.hid ((HB2.out.alloc z2 _).trans (hb3.mono (by simp; omega)))
  clear hb3 hnz
  go_wp2_with fail
  refine (again_any _).mono ?_
  rintro e w4 ⟨rfl, hb4⟩
  have HB4 : Hid (Below w.heap.size w w4) := Lib.hid (HB3.out.trans (hb4.mono HB3.out.size))
  clear hb4
  go_wp2_with fail
  go_ret
  exact ⟨rfl, HB4.out⟩
def pairE (v : EvR) : Nat × Ans := (v.i, v.ans)
/-- the last of the first so many that linked t to p; -1: none -/
def lastN (cs : List CallV) (t : Int) (p : Nat) (L : List (Nat × Ans)) : Nat → Int
  | 0 => -1
  | k + 1 => match L[k]? with
    | some u => if isLd cs t p u = true then (k : Int) else lastN cs t p L k
    | none => lastN cs t p L k
theorem lastN_yes {cs : List CallV} {t : Int} {p k : Nat} {L : List (Nat × Ans)} {u : Nat × Ans} (h : L[k]? = some u) (hl : isLd cs t p u = true) : lastN cs t p L (k + 1) = (k : Int) := by unfold lastN; simp only [h]; rw [if_pos hl]
theorem lastN_no {cs : List CallV} {t : Int} {p k : Nat} {L : List (Nat × Ans)} {u : Nat × Ans} (h : L[k]? = some u) (hl : isLd cs t p u = false) : lastN cs t p L (k + 1) = lastN cs t p L k := by rw [lastN]; simp only [h]; rw [if_neg (by rw [hl]; decide)]
theorem lastN_of {cs : List CallV} {t : Int} {p f : Nat} {L : List (Nat × Ans)} {u : Nat × Ans} (hf : L[f]? = some u) (hu : isLd cs t p u = true) : ∀ i, f < i → i ≤ L.length → (∀ g u, f < g → g < i → L[g]? = some u → isLd cs t p u = false) → lastN cs t p L i = (f : Int)
  | 0, h, _, _ => absurd h (by omega)
  | i + 1, h, hl, hn => by
    obtain ⟨v, hv⟩ : ∃ v, L[i]? = some v := ⟨L[i], List.getElem?_eq_getElem (by omega)⟩
    by_cases hi : i = f
    · subst hi
      exact lastN_yes hf hu
    · rw [lastN_no hv (hn i v (by omega) (by omega) hv)]
      exact lastN_of hf hu i (by omega) (by omega) (fun g u a b c => hn g u a (by omega) c)
theorem pair_get {evs : List EvR} {k : Nat} {x : EvR} (h : evs[k]? = some x) : (evs.map pairE)[k]? = some (pairE x) := by rw [List.getElem?_map, h]; rfl
set_option maxRecDepth 100000 in
set_option maxHeartbeats 4000000 in
theorem linked_any (b o cap : Nat) (cs : List CallV) (B gE capE j : Nat) (evs : List EvR) (x : EvR) (y : CallV) (w : World) (hC : CallsAt w b o cs) (hEV : EvAllG B w gE evs) (hx : evs[j]? = some x) (hy : cs[x.i]? = some y) (hcall : ∀ v ∈ evs, v.i < cs.length) (hel : evs.length ≤ 70000) (hcl : cs.length ≤ 9223372036854775807) :
    Calls Try.prog 8 #[.slice (some ⟨b, o, none⟩) cs.length cap, .slice (some ⟨gE, 0, none⟩) evs.length capE, .int .i64 (j : Int)] w fun e w' => e = .returned (.int .i64 (lastN cs y.t y.a (evs.map pairE) j)) ∧ Below w.heap.size w w' := by
  have hjl := (List.getElem?_eq_some_iff.1 hx).1
  have hil := (List.getElem?_eq_some_iff.1 hy).1
  obtain ⟨_, la, ka, lc, kc, hv⟩ := hEV j x hx
  obtain ⟨y0, y1, y2, y3, y4, y5, _⟩ := hC x.i y hy
  have v0 := hv.c0
  have HC := Lib.hid hC
  have HEV := Lib.hid hEV
  have HCALL := Lib.hid hcall
  have hbl := World.block_lt_of_cell? w ⟨b, o + x.i * 6, none⟩ y0
  have hbl' : b < w.heap.size := hbl
  have hj0 : (0 : Int) ≤ (j : Int) := Int.natCast_nonneg _
  have hj1 : (j : Int) < (evs.length : Int) := by omega
  have hi0 : (0 : Int) ≤ (x.i : Int) := Int.natCast_nonneg _
  have hi1 : (x.i : Int) < (cs.length : Int) := by omega
  have HX := Lib.hid hx
  have HY := Lib.hid hy
  clear hC hEV hcall hv hx hy hbl
  go_enter Try.func8, Try.ntmps8
  go_wp2_with fail
  have HB0 : Hid (Below w.heap.size w (w.alloc (.cells #[.int .i64 y.t, .int .i64 y.o, .int .i64 y.k, .int .u64 (y.a : Int), .int .u64 (y.b : Int), .int .u64 (y.c : Int)] 43))) := Lib.hid ((Below.refl _ _).alloc (Nat.le_refl _) _)
  have HR0 : Hid (RowBlk 43 (w.alloc (.cells #[.int .i64 y.t, .int .i64 y.o, .int .i64 y.k, .int .u64 (y.a : Int), .int .u64 (y.b : Int), .int .u64 (y.c : Int)] 43)) w.heap.size [.int .i64 y.t, .int .i64 y.o, .int .i64 y.k, .int .u64 (y.a : Int), .int .u64 (y.b : Int), .int .u64 (y.c : Int)]) := Lib.hid (RowBlk.new _ _ _)
  have hs0 : (w.alloc (.cells #[.int .i64 y.t, .int .i64 y.o, .int .i64 y.k, .int .u64 (y.a : Int), .int .u64 (y.b : Int), .int .u64 (y.c : Int)] 43)).heap.size = w.heap.size + 1 := by simp
  generalize w.alloc (.cells #[.int .i64 y.t, .int .i64 y.o, .int .i64 y.k, .int .u64 (y.a : Int), .int .u64 (y.b : Int), .int .u64 (y.c : Int)] 43) = w0 at HB0 HR0 hs0 ⊢
  clear y0 y1 y2 y3 y4 y5 v0
  go_loopw [8, 20] (fun v kv wr => ∃ (k : Nat), k ≤ j ∧ kv = .int .i64 k ∧ v = .int .i64 (lastN cs y.t y.a (evs.map pairE) k) ∧ Hid (Below (w.heap.size + 1) w0 wr)) (fun _ kv _ => j - (intOf kv).toNat)
  case atStart => exact ⟨0, Nat.zero_le _, rfl, rfl, Lib.hid (Below.refl _ _)⟩
  case round =>
    obtain ⟨k, hk, rfl, rfl, hBr⟩ := hrel
    have hBw : Below w.heap.size w wr := HB0.out.trans (hBr.out.mono (by omega))
    have hrw := hBr.out.size
    by_cases hlt : k < j
    · have hc1 : (k : Int) < (j : Int) := by omega
      obtain ⟨u, hu⟩ : ∃ u, evs[k]? = some u := ⟨evs[k], List.getElem?_eq_getElem (by omega)⟩
      have hui := HCALL.out u (List.mem_of_getElem? hu)
      obtain ⟨z, hz⟩ : ∃ z, cs[u.i]? = some z := ⟨cs[u.i], List.getElem?_eq_getElem hui⟩
      obtain ⟨_, la2, ka2, lc2, kc2, hv2⟩ := (HEV.out.below hBw (Nat.le_refl _)) k u hu
      obtain ⟨z0, z1, z2, z3, z4, z5, _⟩ := (HC.out.stays hBw (fun _ => hbl')) u.i z hz
      have u0 := hv2.c0
      have u4 := hv2.c4
      have hr0 := HR0.out.same (hBr.out.block _ (by omega))
      have q0 := hr0.cell (i := 0) rfl
      have q3 := hr0.cell (i := 3) rfl
      have hk0 : (0 : Int) ≤ (k : Int) := Int.natCast_nonneg _
      have hk1 : (k : Int) < (evs.length : Int) := by omega
      have hn0 : (0 : Int) ≤ (u.i : Int) := Int.natCast_nonneg _
      have hn1 : (u.i : Int) < (cs.length : Int) := by omega
      have hgl := World.block_lt_of_cell? wr ⟨gE, k * 8, none⟩ u0
      have hzl := World.block_lt_of_cell? wr ⟨b, o + u.i * 6, none⟩ z0
      have HB5 : Hid (∀ v : Obj, Below (w.heap.size + 1) w0 (wr.alloc v)) := Lib.hid (fun v => hBr.out.alloc (by omega) v)
      have HP := Lib.hid (pair_get hu)
      have HLD : Hid (isLd cs y.t y.a (pairE u) = decide (z.t = y.t ∧ z.o = 0 ∧ z.k = 0 ∧ z.a = y.a ∧ u.ans.err = 0)) := Lib.hid (isLd_some hz)
      have hql : w.heap.size < wr.heap.size := by omega
      clear hv2 hu hz hr0 hBw
      by_cases h0 : z.t = y.t
      · have hb0 : (z.t == y.t) = true := by rw [beq_iff_eq]; omega
        have hd0 : decide (z.t = y.t) = true := decide_eq_true (by omega)
        by_cases h1 : z.o = 0
        · have hb1 : (z.o == 0) = true := by rw [beq_iff_eq]; omega
          have hd1 : decide (z.o = 0) = true := decide_eq_true (by omega)
          by_cases h2 : z.k = 0
          · have hb2 : (z.k == 0) = true := by rw [beq_iff_eq]; omega
            have hd2 : decide (z.k = 0) = true := decide_eq_true (by omega)
            by_cases h3 : z.a = y.a
            · have hb3 : (((z.a : Nat) : Int) == ((y.a : Nat) : Int)) = true := by rw [beq_iff_eq]; omega
              have hd3 : decide (((z.a : Nat) : Int) = ((y.a : Nat) : Int)) = true := decide_eq_true (by omega)
              by_cases h4 : u.ans.err = 0
              · have hb4 : (((u.ans.err : Nat) : Int) == 0) = true := by rw [beq_iff_eq]; omega
                have hd4 : decide (((u.ans.err : Nat) : Int) = 0) = true := decide_eq_true (by omega)
                have HL := Lib.hid (lastN_yes HP.out (HLD.out.trans (decide_eq_true ⟨h0, h1, h2, h3, h4⟩)))
                clear h0 h1 h2 h3 h4
                go_wp2_with fail
                go_roundw
                case rel => exact ⟨k + 1, by omega, by go_num, by rw [HL.out], Lib.hid (HB5.out _)⟩
                case measure => simp [RowKit.intOf]; omega
              · have hb4 : (((u.ans.err : Nat) : Int) == 0) = false := by rw [beq_eq_false_iff_ne]; omega
                have hd4 : decide (((u.ans.err : Nat) : Int) = 0) = false := decide_eq_false (by omega)
                have HL := Lib.hid (lastN_no HP.out (HLD.out.trans (decide_eq_false (fun h => by omega))))
                clear h0 h1 h2 h3 h4
                go_wp2_with fail
                go_roundw
                case rel => exact ⟨k + 1, by omega, by go_num, by rw [HL.out], Lib.hid (HB5.out _)⟩
                case measure => simp [RowKit.intOf]; omega
            · have hb3 : (((z.a : Nat) : Int) == ((y.a : Nat) : Int)) = false := by rw [beq_eq_false_iff_ne]; omega
              have hd3 : decide (((z.a : Nat) : Int) = ((y.a : Nat) : Int)) = false := decide_eq_false (by omega)
              have HL := Lib.hid (lastN_no HP.out (HLD.out.trans (decide_eq_false (fun h => by omega))))
              clear h0 h1 h2 h3
              go_wp2_with fail
              go_roundw
              case rel => exact ⟨k + 1, by omega, by go_num, by rw [HL.out], Lib.hid (HB5.out _)⟩
              case measure => simp [RowKit.intOf]; omega
          · have hb2 : (z.k == 0) = false := by rw [beq_eq_false_iff_ne]; omega
            have hd2 : decide (z.k = 0) = false := decide_eq_false (by omega)
            have HL := Lib.hid (lastN_no HP.out (HLD.out.trans (decide_eq_false (fun h => by omega))))
            clear h0 h1 h2
            go_wp2_with fail
            go_roundw
            case rel => exact ⟨k + 1, by omega, by go_num, by rw [HL.out], Lib.hid (HB5.out _)⟩
            case measure => simp [RowKit.intOf]; omega
        · have hb1 : (z.o == 0) = false := by rw [beq_eq_false_iff_ne]; omega
          have hd1 : decide (z.o = 0) = false := decide_eq_false (by omega)
          have HL := Lib.hid (lastN_no HP.out (HLD.out.trans (decide_eq_false (fun h => by omega))))
          clear h0 h1
          go_wp2_with fail
          go_roundw
          case rel => exact ⟨k + 1, by omega, by go_num, by rw [HL.out], Lib.hid (HB5.out _)⟩
          case measure => simp [RowKit.intOf]; omega
      · have hb0 : (z.t == y.t) = false := by rw [beq_eq_false_iff_ne]; omega
        have hd0 : decide (z.t = y.t) = false := decide_eq_false (by omega)
        have HL := Lib.hid (lastN_no HP.out (HLD.out.trans (decide_eq_false (fun h => by omega))))
        clear h0
        go_wp2_with fail
        go_roundw
        case rel => exact ⟨k + 1, by omega, by go_num, by rw [HL.out], Lib.hid (HB5.out _)⟩
        case measure => simp [RowKit.intOf]; omega
    · obtain rfl : k = j := by omega
      have hc1 : ¬ (k : Int) < (k : Int) := by omega
      go_wp2_with fail
      go_ret
      exact ⟨rfl, hBw⟩
end Go.Proofs.Ytjbbcflifoakhaa
