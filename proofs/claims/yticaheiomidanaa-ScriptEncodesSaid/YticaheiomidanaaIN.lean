/- Walk of what is known of scripts. -/
import Derived.Test.YticaheiomidanaaIM
namespace Go.Proofs.Yticaheiomidanaa
open Go.RowKit

def exS : ScI := ⟨1, [⟨1, 0, 0⟩], [], [0, 0, 0]⟩
def exL : List Nat := [1, 1, 1, 0, 0, 0, 0, 0, 0, 0, 3]
def exD : ScD := ⟨1, [⟨1, 0, 0⟩], [], [0, 0, 0]⟩
theorem exS_enc : encL exS = exL := by decide +kernel
theorem exS_ok : wrong exS = 0 := by decide +kernel
theorem exL_dec : pScript exL = some (exD, []) := by kernel_rfl
theorem exL_str : strOfNums (exL.map (fun x : Nat => (x : Int))) = { data := #[1, 1, 1, 0, 0, 0, 0, 0, 0, 0, 3] } := by decide +kernel

/-- the spots of the example -/
def exSp (g : Nat) : Spots := ⟨some ⟨g, 0, none⟩, g, 0, 1, none, 0, 0, 0, some ⟨g + 1, 0, none⟩, g + 1, 0, 3⟩
theorem exS_at (w : World) (o : Obj) : ScAt (((w.alloc (.cells #[.int .i64 1, .int .i64 0, .int .i64 0] 62)).alloc (.cells #[.int .i64 0, .int .i64 0, .int .i64 0] 3)).alloc o) exS (exSp w.heap.size) := by
  have k0 := heap_new w (.cells #[.int .i64 1, .int .i64 0, .int .i64 0] 62)
  have s1 : (w.alloc (.cells #[.int .i64 1, .int .i64 0, .int .i64 0] 62)).heap.size = w.heap.size + 1 := by simp
  have k1 := heap_new (w.alloc (.cells #[.int .i64 1, .int .i64 0, .int .i64 0] 62)) (.cells #[.int .i64 0, .int .i64 0, .int .i64 0] 3)
  rw [s1] at k1
  have k0' := (Below.heap_alloc _ (.cells #[.int .i64 0, .int .i64 0, .int .i64 0] 3) w.heap.size (by omega)).trans k0
  have j0 := (Below.heap_alloc _ o w.heap.size (lt_of_heap k0')).trans k0'
  have j1 := (Below.heap_alloc _ o (w.heap.size + 1) (lt_of_heap k1)).trans k1
  have l0 := lt_of_heap j0
  have l1 := lt_of_heap j1
  refine ⟨by unfold i64B exS; decide, by decide, by decide, by decide, fun _ => rfl, fun h => absurd h (by decide), fun _ => rfl, fun _ => l0, fun h => absurd h (by decide), fun _ => l1, Nat.le_refl 3, ?_, ?_, ?_⟩
  · intro i x hx
    match i, hx with
    | 0, hx =>
      obtain rfl : SpI.mk 1 0 0 = x := by simpa [exS] using hx
      exact ⟨cell_of_heap j0 (k := 0) rfl, cell_of_heap j0 (k := 1) rfl, cell_of_heap j0 (k := 2) rfl, by unfold i64B; decide, by unfold i64B; decide, by unfold i64B; decide⟩
  · intro i x hx
    simp [exS] at hx
  · intro i x hx
    match i, hx with
    | 0, hx => obtain rfl : (0 : Int) = x := by simpa [exS] using hx
               exact ⟨cell_of_heap j1 (k := 0) rfl, by decide⟩
    | 1, hx => obtain rfl : (0 : Int) = x := by simpa [exS] using hx
               exact ⟨cell_of_heap j1 (k := 1) rfl, by decide⟩
    | 2, hx => obtain rfl : (0 : Int) = x := by simpa [exS] using hx
               exact ⟨cell_of_heap j1 (k := 2) rfl, by decide⟩
theorem bcells_new (w : World) (g : Nat) (l : List Nat) (hg : g = w.heap.size) (h5 : ∀ x ∈ l, x < 256) : BCells (w.alloc (.cells (l.map bV).toArray 5)) g 0 l := by
  subst hg
  intro i x hx
  refine ⟨?_, h5 x (List.mem_of_getElem? hx)⟩
  rw [Nat.zero_add, World.cell?_alloc_at _ _ _ _ rfl]
  show (l.map bV).toArray[i]? = _
  simp [hx, bV]

set_option maxHeartbeats 2000000 in
set_option maxRecDepth 100000 in
theorem three_any (w : World) : Calls Try.prog 9 #[] w fun e w' => e = .returned (.bool true) ∧ Below w.heap.size w w' := by
  have HAT := Lib.hid (exS_at w (.cells #[.int .i64 1, .slice (some ⟨w.heap.size, 0, none⟩) 1 1, .slice none 0 0, .slice (some ⟨w.heap.size + 1, 0, none⟩) 3 3] 26))
  have HB0 : Hid (Below w.heap.size w (((w.alloc (.cells #[.int .i64 1, .int .i64 0, .int .i64 0] 62)).alloc (.cells #[.int .i64 0, .int .i64 0, .int .i64 0] 3)).alloc (.cells #[.int .i64 1, .slice (some ⟨w.heap.size, 0, none⟩) 1 1, .slice none 0 0, .slice (some ⟨w.heap.size + 1, 0, none⟩) 3 3] 26))) :=
    Lib.hid ((((Below.refl _ _).alloc (Nat.le_refl _) _).alloc (by simp) _).alloc (by simp; omega) _)
  go_enter Try.func9, Try.ntmps9
  go_wp2_with fail
  generalize ((w.alloc (.cells #[.int .i64 1, .int .i64 0, .int .i64 0] 62)).alloc (.cells #[.int .i64 0, .int .i64 0, .int .i64 0] 3)).alloc (.cells #[.int .i64 1, .slice (some ⟨w.heap.size, 0, none⟩) 1 1, .slice none 0 0, .slice (some ⟨w.heap.size + 1, 0, none⟩) 3 3] 26) = W0 at HAT HB0 ⊢
  refine (encode_ok exS (exSp w.heap.size) W0 HAT.out exS_ok).mono ?_
  rintro e W1 ⟨v, rfl, ho, hb⟩
  rw [exS_enc] at ho
  obtain ⟨av, gv, cv, rfl, hav, hgv, hcv⟩ := bown_cells ho (by decide)
  have HB1 := Lib.hid (HB0.out.trans (hb.mono HB0.out.size))
  have HAV := Lib.hid hav
  have HGV := Lib.hid hgv
  have HCV := Lib.hid hcv
  have HD := Lib.hid (decode_any (some ⟨W1.heap.size, 0, none⟩) W1.heap.size 0 11 exL (W1.alloc (.cells (exL.map bV).toArray 5)) (fun _ => rfl) (fun _ => by simp) (bcells_new W1 _ exL rfl (by decide)) (by decide))
  have HB2 : Hid (Below w.heap.size w (W1.alloc (.cells (exL.map bV).toArray 5))) := Lib.hid (HB1.out.alloc HB1.out.size _)
  have HBV : Hid (Below W1.heap.size W1 (W1.alloc (.cells (exL.map bV).toArray 5))) := Lib.hid ((Below.refl _ _).alloc (Nat.le_refl _) _)
  clear ho hb hav hgv hcv
  go_wp2_with fail
  generalize hW2 : W1.alloc (.cells #[.int .u8 1, .int .u8 1, .int .u8 1, .int .u8 0, .int .u8 0, .int .u8 0, .int .u8 0, .int .u8 0, .int .u8 0, .int .u8 0, .int .u8 3] 5) = W2
  have HD' : Hid (Calls Try.prog 13 #[.slice (some ⟨W1.heap.size, 0, none⟩) 11 11] W2 (DecP exL W2)) := Lib.hid (by rw [← hW2]; exact HD.out)
  have HB2' : Hid (Below w.heap.size w W2) := Lib.hid (by rw [← hW2]; exact HB2.out)
  have HBV' : Hid (Below W1.heap.size W1 W2) := Lib.hid (by rw [← hW2]; exact HBV.out)
  clear HD HB2 HBV hW2
  refine HD'.out.mono ?_
  rintro e W3 ⟨hb3, hm⟩
  rw [exL_dec] at hm
  obtain ⟨u, rfl, vs, vc, vp, rfl, o1, o2, o3⟩ := hm
  obtain ⟨a2, g2, c2, rfl, -, -, -, -⟩ := owns_open o1
  obtain ⟨a3, g3, c3, rfl, -, -, -, -⟩ := owns_open o2
  obtain ⟨a4, g4, c4, rfl, -, -, -, -⟩ := owns_open o3
  have HB3 : Hid (Below w.heap.size w W3) := Lib.hid (HB2'.out.trans (hb3.mono HB2'.out.size))
  have HBV3 : Hid (Below W1.heap.size W1 W3) := Lib.hid (HBV'.out.trans (hb3.mono HBV'.out.size))
  clear hb3 o1 o2 o3 HD'
  have hk3 := heap_new W3 (.cells #[.int .i64 ((exD.n : Nat) : Int), .slice a2 exD.specs.length c2, .slice a3 exD.calls.length c3, .slice a4 exD.picks.length c4] 26)
  have HK3 := Lib.hid hk3
  have hb4 : Below w.heap.size w (W3.alloc (.cells #[.int .i64 ((exD.n : Nat) : Int), .slice a2 exD.specs.length c2, .slice a3 exD.calls.length c3, .slice a4 exD.picks.length c4] 26)) := HB3.out.alloc HB3.out.size _
  have HB4 := Lib.hid hb4
  have HBV4 := Lib.hid (HBV3.out.alloc HBV3.out.size (.cells #[.int .i64 ((exD.n : Nat) : Int), .slice a2 exD.specs.length c2, .slice a3 exD.calls.length c3, .slice a4 exD.picks.length c4] 26))
  clear hk3 hb4
  go_upto_region 4 with fail
  generalize hW4 : W3.alloc (.cells #[.int .i64 ((exD.n : Nat) : Int), .slice a2 exD.specs.length c2, .slice a3 exD.calls.length c3, .slice a4 exD.picks.length c4] 26) = W4 at HK3 HB4 HBV4 ⊢
  clear hW4
  have HD5 := Lib.hid (decode_short (some ⟨W4.heap.size, 0, none⟩) W4.heap.size 0 2 [1, 1] (W4.alloc (.cells (([1, 1] : List Nat).map bV).toArray 5)) (fun _ => rfl) (fun _ => by simp) (bcells_new W4 _ [1, 1] rfl (by decide)) (by decide) rfl)
  have HB5 : Hid (Below w.heap.size w (W4.alloc (.cells (([1, 1] : List Nat).map bV).toArray 5))) := Lib.hid (HB4.out.alloc HB4.out.size _)
  have HBV5 : Hid (Below W1.heap.size W1 (W4.alloc (.cells (([1, 1] : List Nat).map bV).toArray 5))) := Lib.hid (HBV4.out.alloc HBV4.out.size _)
  have HK5 : Hid ((W4.alloc (.cells (([1, 1] : List Nat).map bV).toArray 5)).heap[W3.heap.size]? = _) := Lib.hid ((Below.heap_alloc W4 _ W3.heap.size (lt_of_heap HK3.out)).trans HK3.out)
  go_wp2_with fail
  generalize hW5 : W4.alloc (.cells #[.int .u8 1, .int .u8 1] 5) = W5
  have HD5' : Hid (Calls Try.prog 13 #[.slice (some ⟨W4.heap.size, 0, none⟩) 2 2] W5 (DecSh W5)) := Lib.hid (by rw [← hW5]; exact HD5.out)
  have HB5' : Hid (Below w.heap.size w W5) := Lib.hid (by rw [← hW5]; exact HB5.out)
  have HBV5' : Hid (Below W1.heap.size W1 W5) := Lib.hid (by rw [← hW5]; exact HBV5.out)
  have HK5' : Hid (W5.heap[W3.heap.size]? = some (.cells #[.int .i64 ((exD.n : Nat) : Int), .slice a2 exD.specs.length c2, .slice a3 exD.calls.length c3, .slice a4 exD.picks.length c4] 26)) := Lib.hid (by rw [← hW5]; exact HK5.out)
  clear HD5 HB5 HBV5 HK5 hW5
  refine HD5'.out.mono ?_
  rintro e W6 ⟨rfl, hb6⟩
  have hb7 := (HB5'.out.trans (hb6.mono HB5'.out.size)).alloc (HB5'.out.trans (hb6.mono HB5'.out.size)).size (.cells #[.int .i64 ((0 : Nat) : Int), nilV, nilV, nilV] 26)
  have hbv7 := (HBV5'.out.trans (hb6.mono HBV5'.out.size)).alloc (HBV5'.out.trans (hb6.mono HBV5'.out.size)).size (.cells #[.int .i64 ((0 : Nat) : Int), nilV, nilV, nilV] 26)
  have hk7 := (Below.heap_alloc W6 (.cells #[.int .i64 ((0 : Nat) : Int), nilV, nilV, nilV] 26) W3.heap.size (Nat.lt_of_lt_of_le (lt_of_heap HK5'.out) hb6.size)).trans ((hb6.block _ (lt_of_heap HK5'.out)).trans HK5'.out)
  have HB7 := Lib.hid hb7
  have HBV7 := Lib.hid hbv7
  have HK7 := Lib.hid hk7
  clear hb6 hb7 hbv7 hk7 HD5'
  go_upto_region 5 with fail
  generalize W6.alloc (.cells #[.int .i64 ((0 : Nat) : Int), nilV, nilV, nilV] 26) = W7 at HB7 HBV7 HK7 ⊢
  have q0 : W7.cell? ⟨W3.heap.size, 0, none⟩ = some (.int .i64 1) := cell_of_heap HK7.out (k := 0) rfl
  have q3 : W7.cell? ⟨W3.heap.size, 3, none⟩ = some (.slice a4 3 c4) := cell_of_heap HK7.out (k := 3) rfl
  have hst := str_of W7 av gv 0 cv exL HAV.out (HCV.out.stays HBV7.out HGV.out)
  rw [exL_str] at hst
  go_wp2
  go_ret
  exact ⟨rfl, HB7.out⟩
end Go.Proofs.Yticaheiomidanaa
