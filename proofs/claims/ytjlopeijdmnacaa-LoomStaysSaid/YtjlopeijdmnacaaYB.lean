/- Walk of loom: New. -/
import Derived.Test.YtjlopeijdmnacaaYA
import Derived.Test.YtjlopeijdmnacaaN4
namespace Go.Proofs.Ytjlopeijdmnacaa
open Go.RowKit

def st0 (cs : List CallV) (size : Nat) : PlaySt := ⟨List.replicate cs.length false, List.replicate size 0, ⟨0, 0, 0, 0, 0⟩, 0, 0, []⟩

set_option maxRecDepth 100000 in
set_option maxHeartbeats 2000000 in
theorem lnew_bad (n : Int) (ao : Option Addr) (b o cap : Nat) (cs : List CallV) (ob co : Nat) (w : World) (ha : 0 < cs.length → ao = some ⟨b, o, none⟩) (hb : 0 < cs.length → b < w.heap.size) (hc : CallsAt w b o cs) (h : wrongL n (thr cs) ≠ 0) :
    Calls Try.prog 41 #[.int .i64 n, .slice ao cs.length cap, .slice (some ⟨ob, 0, none⟩) 1 co] w fun e w' => e = .returned (.tuple #[.pointer none, .int .i64 (wrongL n (thr cs) : Nat)]) ∧ Below w.heap.size w w' := by
  go_enter Try.func41, Try.ntmps41
  go_wp2_with fail
  refine (new_any n ao b o cap cs w ha hb hc).mono ?_
  rintro e w1 ⟨h1, _, hb1⟩
  obtain rfl := h1 h
  have hne : ((wrongL n (thr cs) : Nat) : Int) ≠ 0 := by omega
  clear h1
  go_wp2_with fail
  go_ret2
  exact ⟨rfl, hb1⟩

set_option maxRecDepth 100000 in
set_option maxHeartbeats 2000000 in
theorem lnew_size (n size : Int) (ao : Option Addr) (b o cap : Nat) (cs : List CallV) (ob co : Nat) (w : World) (ha : 0 < cs.length → ao = some ⟨b, o, none⟩) (hb : 0 < cs.length → b < w.heap.size) (hc : CallsAt w b o cs) (h : wrongL n (thr cs) = 0)
    (ho : w.cell? ⟨ob, 0, none⟩ = some (cellsV size)) (hs : size < 1 ∨ 64 < size) :
    Calls Try.prog 41 #[.int .i64 n, .slice ao cs.length cap, .slice (some ⟨ob, 0, none⟩) 1 co] w fun e w' => e = .returned (.tuple #[.pointer none, .int .i64 10]) ∧ Below w.heap.size w w' := by
  have hob := World.block_lt_of_cell? w ⟨ob, 0, none⟩ ho
  go_enter Try.func41, Try.ntmps41
  go_wp2_with fail
  refine (new_any n ao b o cap cs w ha hb hc).mono ?_
  rintro e w1 ⟨_, h1, hb1⟩
  obtain ⟨lb, mb, f, rfl, hlb, hmb, hln⟩ := h1 h
  have hs1 := hb1.size
  have ho1 : w1.cell? ⟨ob, 0, none⟩ = some (cellsV size) := (hb1.cell (p := ⟨ob, 0, none⟩) hob).trans ho
  clear h1 hln
  go_wp2_with fail
  refine (place_bad n size ob co w1 ho1 hs).mono ?_
  rintro e w2 ⟨rfl, hb2⟩
  have HB := Lib.hid (hb1.trans (hb2.mono hs1))
  clear hb1 hb2
  go_wp2_with fail
  go_ret2
  exact ⟨rfl, HB.out⟩

def LNewPost (cs : List CallV) (size : Nat) (w : World) (e : Ending) (w' : World) : Prop :=
  ∃ L top lb mb bm bw mc gc go capo capC aoC, e = .returned (.tuple #[.pointer (some ⟨L, 0, none⟩), .int .i64 0]) ∧ LoomIs cs size 0 w.heap.size L top lb mb bm bw mc gc go capo capC aoC w' (st0 cs size) ∧ Below w.heap.size w w'

set_option maxRecDepth 100000 in
set_option maxHeartbeats 4000000 in
theorem lnew_ok (n : Int) (size : Nat) (ao : Option Addr) (b o cap : Nat) (cs : List CallV) (ob co : Nat) (w : World) (ha : 0 < cs.length → ao = some ⟨b, o, none⟩) (hb : 0 < cs.length → b < w.heap.size) (hc : CallsAt w b o cs) (hcap : ao = none → cap = 0) (h : wrongL n (thr cs) = 0)
    (hcl : cs.length ≤ 1000) (ho : w.cell? ⟨ob, 0, none⟩ = some (cellsV size)) (hs1 : 1 ≤ size) (hs2 : size ≤ 64) :
    Calls Try.prog 41 #[.int .i64 n, .slice ao cs.length cap, .slice (some ⟨ob, 0, none⟩) 1 co] w (LNewPost cs size w) := by
  have hob := World.block_lt_of_cell? w ⟨ob, 0, none⟩ ho
  have hmm := @run_makeMap Try.prog
  go_enter Try.func41, Try.ntmps41
  go_wp2_with fail
  refine (new_any n ao b o cap cs w ha hb hc).mono ?_
  rintro e w1 ⟨_, h1, hb1⟩
  obtain ⟨lb, mb, f, rfl, hlb, hmb, hln⟩ := h1 h
  have z1 := hb1.size
  have ho1 : w1.cell? ⟨ob, 0, none⟩ = some (cellsV size) := (hb1.cell (p := ⟨ob, 0, none⟩) hob).trans ho
  have HC1 : Hid (CallsAt w1 b o cs) := Lib.hid (hc.stays hb1 hb)
  have HLN := Lib.hid hln
  have HB1 := Lib.hid hb1
  have HB := Lib.hid hb
  have HA := Lib.hid ha
  have HCP := Lib.hid hcap
  clear h1 hln hb1 hc hb ha h ho hcap
  go_wp2_with fail
  refine (place_ok n size ob co w1 ho1 hs1 hs2).mono ?_
  rintro e w2 ⟨gw, capw, go, capo, rfl, hu, hgo, q1, q2, q3, q4, hb2⟩
  have z2 := hb2.size
  have HU := Lib.hid hu
  have HGO := Lib.hid hgo
  have HB2 := Lib.hid hb2
  clear hu hgo hb2 ho1
  go_wp2_with fail
  have hm := new_ok (some ⟨gw, 0, none⟩) gw 0 capw (List.replicate size 0) w2 (by rw [List.length_replicate]; omega) (fun _ => rfl) (fun _ => q2) HU.out
  rw [List.length_replicate] at hm
  refine hm.mono ?_
  rintro e w3 ⟨bm, bw, rfl, hM, r1, r2, hb3⟩
  have z3 := hb3.size
  have HM := Lib.hid hM
  have HB3 := Lib.hid hb3
  clear hM hb3 hm
  go_wp2_with fail
  have HC3 : Hid (CallsAt w3 b o cs) := Lib.hid (((HC1.out.stays HB2.out (fun h => by have := HB.out h; omega)).stays HB3.out (fun h => by have := HB.out h; omega)))
  refine (clone_calls ao b o cap cs w3 (by omega) HA.out HC3.out HCP.out).mono ?_
  rintro e w4 ⟨aoC, gc, capC, rfl, hgc, hcc, hb4⟩
  have z4 := hb4.size
  have HGC := Lib.hid hgc
  have HCC := Lib.hid hcc
  have HB4 := Lib.hid hb4
  clear hgc hcc hb4
  go_wp2_with fail
  go_ret2
  have BM : Below w3.heap.size w3 (w4.alloc (.map #[] 0)) := HB4.out.alloc z4 _
  have hsm : (w4.alloc (.map #[] 0)).heap.size = w4.heap.size + 1 := by simp
  have BL : Below w3.heap.size w3 ((w4.alloc (.map #[] 0)).alloc (.cells (loomVs (.slice aoC cs.length capC) lb bm (.slice (some ⟨go, 0, none⟩) 1 capo) (.slice none 0 0) w4.heap.size 0 0).toArray 118)) := BM.alloc (by omega) _
  have BT : Below w.heap.size w ((w4.alloc (.map #[] 0)).alloc (.cells (loomVs (.slice aoC cs.length capC) lb bm (.slice (some ⟨go, 0, none⟩) 1 capo) (.slice none 0 0) w4.heap.size 0 0).toArray 118)) :=
    HB1.out.trans ((HB2.out.mono z1).trans ((HB3.out.mono (by omega)).trans (BL.mono (by omega))))
  have B1 : Below w1.heap.size w1 ((w4.alloc (.map #[] 0)).alloc (.cells (loomVs (.slice aoC cs.length capC) lb bm (.slice (some ⟨go, 0, none⟩) 1 capo) (.slice none 0 0) w4.heap.size 0 0).toArray 118)) :=
    HB2.out.trans ((HB3.out.mono z2).trans (BL.mono (by omega)))
  have B2 : Below w2.heap.size w2 ((w4.alloc (.map #[] 0)).alloc (.cells (loomVs (.slice aoC cs.length capC) lb bm (.slice (some ⟨go, 0, none⟩) 1 capo) (.slice none 0 0) w4.heap.size 0 0).toArray 118)) :=
    HB3.out.trans (BL.mono (by omega))
  have l1 := HLN.out.lt1
  have l2 := HLN.out.lt2
  have m1 := HM.out.lt1
  have m2 := HM.out.lt2
  have hL := RowBlk.new (w4.alloc (.map #[] 0)) (loomVs (.slice aoC cs.length capC) lb bm (.slice (some ⟨go, 0, none⟩) 1 capo) (.slice none 0 0) w4.heap.size 0 0) 118
  rw [hsm] at hL
  exact ⟨w4.heap.size + 1, w1.heap.size, lb, mb, bm, bw, w4.heap.size, gc, go, capo, capC, aoC, rfl,
    { blk := ⟨.slice none 0 0, hL, [], World.ownsRow_nil _ _ _ _, rfl, fun i x hx => by simp [st0] at hx⟩
      line := ⟨f, cs.length, HLN.out.stays B1 (Nat.le_refl _), by omega⟩
      cur := ⟨0, (MapIs.made _ _ _ _).alloc _, by omega⟩
      mem := HM.out.of_blocks (BL.block _ m1) (BL.block _ m2)
      calls := HCC.out.stays (B := w4.heap.size) ((((Below.refl _ _).alloc (Nat.le_refl _) _)).alloc (by omega) _) (fun h => (HGC.out h).2.2)
      haC := fun h => (HGC.out h).1
      obj := (B2.cell (p := ⟨go, 0, none⟩) q4).trans HGO.out
      lfin := by simp [st0]
      lws := by simp [st0]
      cnle := by simp [st0]
      tj := by simp [st0]
      evl := by simp [st0]
      t1 := ⟨by omega, by omega, by omega, by omega, by omega, by simp; omega⟩
      gsep := fun h => by have := HGC.out h; exact ⟨by omega, by omega, by omega, by omega, by omega, by omega⟩
      osep := ⟨by omega, by omega, by omega, by omega, by omega, by omega⟩
      lsep := ⟨by omega, by omega, by omega⟩
      b0 := ⟨by omega, by omega, by omega, by omega, by omega⟩
      szs := hs2
      cl := hcl
      jl := by omega }, BT⟩
end Go.Proofs.Ytjlopeijdmnacaa
