/- Walk of the law MemPlays. -/
import Derived.Test.YtehcfflofacapaaO
import Derived.Deep.RegionHeld3
namespace Go.Proofs.Ytehcfflofacapaa
open Go.RowKit

/-- accesses lie in a row -/
def ACells (w : World) (b o : Nat) (l : List (Int × Int × Nat × Nat)) : Prop :=
  ∀ (i : Nat) (x : Int × Int × Nat × Nat), l[i]? = some x → w.cell? ⟨b, o + i * 4, none⟩ = some (.int .i64 x.1) ∧ w.cell? ⟨b, o + i * 4 + 1, none⟩ = some (.int .i64 x.2.1) ∧
    w.cell? ⟨b, o + i * 4 + 2, none⟩ = some (.int .u64 (x.2.2.1 : Int)) ∧ w.cell? ⟨b, o + i * 4 + 3, none⟩ = some (.int .u64 (x.2.2.2 : Int)) ∧ (-9223372036854775808 ≤ x.2.1 ∧ x.2.1 ≤ 9223372036854775807)
theorem ACells.stays {w wr : World} {b o B : Nat} {l : List (Int × Int × Nat × Nat)} (h : ACells w b o l) (hb : Below B w wr) (hB : 0 < l.length → b < B) : ACells wr b o l := by
  intro i x hx
  have hl : 0 < l.length := by have := (List.getElem?_eq_some_iff.1 hx).1; omega
  obtain ⟨h1, h2, h3, h4, h5⟩ := h i x hx
  have e := fun o => hb.cell (p := ⟨b, o, none⟩) (hB hl)
  exact ⟨(e _).trans h1, (e _).trans h2, (e _).trans h3, (e _).trans h4, h5⟩

set_option maxHeartbeats 400000 in
theorem plays_long (ao : Option Addr) (cap n : Nat) (v : Value) (w : World) (hn : 65536 < n) :
    Calls Try.prog 7 #[.slice ao n cap, v] w fun e w' => e = .returned (.bool true) ∧ Below w.heap.size w w' := by
  go_enter Try.func7, Try.ntmps7
  go_wp2_with fail
  refine (new_long ao n cap _ hn).mono ?_
  rintro e w1 ⟨rfl, rfl⟩
  go_wp2_with fail
  refine (two_any _).mono ?_
  rintro e w1 ⟨rfl, hb⟩
  go_wp2_with fail
  go_ret
  exact ⟨rfl, hb⟩

theorem RefIs.cells {W : World} {bm bw cap : Nat} {l : List Nat} {c : Cn} (h : RefIs W bm bw cap l c) : W.cell? ⟨bm, 0, none⟩ = some (.slice (some ⟨bw, 0, none⟩) l.length cap) ∧ W.cell? ⟨bm, 1, none⟩ = some (.int .i64 c.r) ∧
    W.cell? ⟨bm, 2, none⟩ = some (.int .i64 c.w) ∧ W.cell? ⟨bm, 3, none⟩ = some (.int .i64 c.s) ∧ W.cell? ⟨bm, 4, none⟩ = some (.int .i64 c.a) ∧ W.cell? ⟨bm, 5, none⟩ = some (.int .i64 c.f) := ⟨h.c0, h.c1, h.c2, h.c3, h.c4, h.c5⟩
theorem RefIs.ucells {W : World} {bm bw cap : Nat} {l : List Nat} {c : Cn} (h : RefIs W bm bw cap l c) : UCells W bw 0 l := fun i x hx => by rw [Nat.zero_add]; exact h.word hx

set_option maxRecDepth 100000 in
set_option maxHeartbeats 1000000 in
theorem plays_walk (ao : Option Addr) (b o cap : Nat) (l : List Nat) (ao2 : Option Addr) (b2 o2 cap2 : Nat) (acts : List (Int × Int × Nat × Nat)) (w : World) (hn : l.length ≤ 65536)
    (ha : 0 < l.length → ao = some ⟨b, o, none⟩) (hb : 0 < l.length → b < w.heap.size) (hc : UCells w b o l) (hcap : ao = none → cap = 0)
    (ha2 : 0 < acts.length → ao2 = some ⟨b2, o2, none⟩) (hb2 : 0 < acts.length → b2 < w.heap.size) (hc2 : ACells w b2 o2 acts) (hn2 : acts.length ≤ 9223372036854775807) :
    Calls Try.prog 7 #[.slice ao l.length cap, .slice ao2 acts.length cap2] w fun e w' => e = .returned (.bool true) ∧ Below w.heap.size w w' := by
  have HA := Lib.hid ha
  have HB := Lib.hid hb
  have HC := Lib.hid hc
  have HP := Lib.hid hcap
  have HA2 := Lib.hid ha2
  have HB2 := Lib.hid hb2
  have HC2 := Lib.hid hc2
  clear ha hb hc hcap ha2 hb2 hc2
  go_enter Try.func7, Try.ntmps7
  go_wp2_with fail
  refine (new_ok ao b o cap l _ hn HA.out HB.out HC.out).mono ?_
  rintro e w1 ⟨bm, bw, rfl, hM, hbm, hbw, hb1⟩
  have HM := Lib.hid hM
  have hbm1 := hM.lt1
  have hbw1 := hM.lt2
  have hsz1 := hb1.size
  clear hM
  go_wp2_with fail
  refine (of_any ao b o cap l _ hn HA.out (fun h => by have := HB.out h; omega) (UCells.stays HC.out hb1 HB.out) HP.out).mono ?_
  rintro e w2 ⟨g, cap', rfl, hg, hgl, hb2, cur, hcur, hcurs⟩
  have hsz2 := hb2.size
  have HM2 : Hid (MemIs 72 (w2.alloc (.cells #[.slice (some ⟨g, 0, none⟩) l.length cap', .int .i64 0, .int .i64 0, .int .i64 0, .int .i64 0, .int .i64 0] 55)) bm bw l ⟨0, 0, 0, 0, 0⟩) :=
    Lib.hid ((HM.out.of_blocks (hb2.block bm hbm1) (hb2.block bw hbw1)).alloc _)
  have HR2 : Hid (RefIs (w2.alloc (.cells #[.slice (some ⟨g, 0, none⟩) l.length cap', .int .i64 0, .int .i64 0, .int .i64 0, .int .i64 0, .int .i64 0] 55)) w2.heap.size g cap' l ⟨0, 0, 0, 0, 0⟩) :=
    ⟨heap_alloc_new _ _, ⟨cur, (Below.heap_alloc _ _ _ hgl).trans hcur, hcurs⟩, by omega⟩
  have hB2 : Below w.heap.size w (w2.alloc (.cells #[.slice (some ⟨g, 0, none⟩) l.length cap', .int .i64 0, .int .i64 0, .int .i64 0, .int .i64 0, .int .i64 0] 55)) := (hb1.trans (hb2.mono hsz1)).alloc (by omega) _
  have HB20 := Lib.hid hB2
  clear hcur hcurs hB2 HM hb1 hb2
  go_wp2_with fail
  have hbrs : w.heap.size ≤ w2.heap.size := by omega
  have hbrm : w2.heap.size ≠ bm := by omega
  have hbrw : w2.heap.size ≠ bw := by omega
  have hgm : g ≠ bm := by omega
  have hgw : g ≠ bw := by omega
  have hgs : w.heap.size ≤ g := by omega
  clear hsz2 hgl hg hsz1 hbm1 hbw1
  generalize w2.alloc (.cells #[.slice (some ⟨g, 0, none⟩) l.length cap', .int .i64 0, .int .i64 0, .int .i64 0, .int .i64 0, .int .i64 0] 55) = w3 at HM2 HR2 HB20 ⊢
  generalize w2.heap.size = br at HR2 hbrs hbrm hbrw ⊢
  go_loopw [8] (fun i wr => ∃ (j : Nat) (lc : List Nat) (cc : Cn), j ≤ acts.length ∧ j ≤ 500 ∧ i = .int .i64 j ∧ Hid (MemIs 72 wr bm bw lc cc) ∧ Hid (RefIs wr br g cap' lc cc) ∧ Hid (cc.le j) ∧ Hid (lc.length = l.length) ∧ Hid (Below w.heap.size w wr)) (fun i _ => acts.length - (intOf i).toNat)
  case atStart => exact ⟨0, l, ⟨0, 0, 0, 0, 0⟩, Nat.zero_le _, Nat.zero_le _, rfl, HM2, HR2, ⟨Nat.le_refl _, Nat.le_refl _, Nat.le_refl _, Nat.le_refl _, Nat.le_refl _⟩, Lib.hid rfl, HB20⟩
  case round =>
    obtain ⟨j, lc, cc, hj, hj5, rfl, HM, HR, HL, HN, HBL⟩ := hrel
    by_cases hlt : j < acts.length
    · by_cases h5 : j < 500
      · obtain rfl := HA2.out (by omega)
        obtain ⟨⟨k, a, x, y⟩, hx⟩ : ∃ x, acts[j]? = some x := ⟨acts[j], List.getElem?_eq_getElem hlt⟩
        obtain ⟨s0, s1, s2, s3, ba⟩ := HC2.out.stays HBL.out HB2.out j _ hx
        have HX := Lib.hid hx
        clear hx
        have hi0 : (0 : Int) ≤ (j : Int) := Int.natCast_nonneg _
        have hi1 : (j : Int) < (acts.length : Int) := by omega
        go_wp2_with fail
        go_region_held3 (fun w' => w'.cell? ⟨b2, o2 + j * 4, none⟩ = some (.int .i64 k) ∧ w'.cell? ⟨b2, o2 + j * 4 + 1, none⟩ = some (.int .i64 a) ∧ w'.cell? ⟨b2, o2 + j * 4 + 2, none⟩ = some (.int .u64 (x : Int)) ∧ w'.cell? ⟨b2, o2 + j * 4 + 3, none⟩ = some (.int .u64 (y : Int)))
          (first | go_keep | exact ⟨t0, t1, t2, t3⟩ | exact ⟨v0, v1, v2, v3⟩)
          (first
            | (go_at_call 23; refine (do_any bm bw k a x y lc cc _ HM.out.drew (by rw [HN.out]; exact hn) j HL.out (by omega) ba).mono ?_; rintro e w5 ⟨rfl, hM5, hB5⟩; have hs5 := HBL.out.drew.trans (hB5.below (B := w.heap.size) (by omega) (by omega) HBL.out.size); obtain ⟨t0, t1, t2, t3, _⟩ := HC2.out.stays hs5 HB2.out j _ HX.out; have HR5 : Hid (RefIs w5 br g cap' lc cc) := Lib.hid (HR.out.of_blocks (hB5.block br HR.out.lt1 hbrm hbrw) (hB5.block g HR.out.lt2 hgm hgw)); have HM5 := Lib.hid hM5; have HS5 := Lib.hid hs5; have HB5 := Lib.hid hB5; clear hM5 hB5 hs5)
            | (go_at_call 24; refine (racc_any br g cap' k a x y lc cc _ HR5.out (by rw [HN.out]; exact hn) j HL.out (by omega)).mono ?_; rintro e w6 ⟨rfl, hR6, hB6⟩; have hs6 := HS5.out.trans (hB6.below (B := w.heap.size) (by omega) (by omega) HS5.out.size); obtain ⟨v0, v1, v2, v3, _⟩ := HC2.out.stays hs6 HB2.out j _ HX.out; have HM6 : Hid (MemIs 72 w6 bm bw _ _) := Lib.hid (HM5.out.of_blocks (hB6.block bm HM5.out.lt1 (Ne.symm hbrm) (Ne.symm hgm)) (hB6.block bw HM5.out.lt2 (Ne.symm hbrw) (Ne.symm hgw))); have HR6 := Lib.hid hR6; have HS6 := Lib.hid hs6; clear hR6 hB6 hs6))
        go_wp2
        go_roundw
        case rel => exact ⟨j + 1, _, _, by omega, by omega, by go_num, HM6, HR6, Lib.hid (stepA_le _ _ _ _ _ _ _ HL.out), Lib.hid ((stepA_len _ _ _ _ _ _).trans HN.out), HS6⟩
        case measure => simp [intOf]; omega
      · have hEq : ((lc.length : Int) == (l.length : Int)) = true := by rw [HN.out]; simp
        obtain ⟨p0, p1, p2, p3, p4, p5⟩ := RefIs.cells HR.out
        go_wp2_with fail
        go_region_held3 (fun w' => w'.cell? ⟨br, 0, none⟩ = some (.slice (some ⟨g, 0, none⟩) lc.length cap') ∧ w'.cell? ⟨br, 1, none⟩ = some (.int .i64 cc.r) ∧ w'.cell? ⟨br, 2, none⟩ = some (.int .i64 cc.w) ∧
            w'.cell? ⟨br, 3, none⟩ = some (.int .i64 cc.s) ∧ w'.cell? ⟨br, 4, none⟩ = some (.int .i64 cc.a) ∧ w'.cell? ⟨br, 5, none⟩ = some (.int .i64 cc.f))
          (first | exact ⟨p0, p1, p2, p3, p4, p5⟩ | go_keep)
          (first
            | (go_at_call 26; refine (words_ok bm bw lc cc _ HM.out.drew (by rw [HN.out]; exact hn)).mono ?_; rintro e w5 ⟨rfl, hg5, hb5⟩; have HU5 : Hid (UCells w5 wr.heap.size 0 lc) := Lib.hid (ucells_of_block hg5); have HR5 : Hid (RefIs w5 br g cap' lc cc) := Lib.hid (HR.out.of_blocks (hb5.block br HR.out.lt1) (hb5.block g HR.out.lt2)); have HM5 : Hid (MemIs 72 w5 bm bw lc cc) := Lib.hid (HM.out.of_blocks (hb5.block bm HM.out.lt1) (hb5.block bw HM.out.lt2)); have HS5 := Lib.hid (HBL.out.drew.trans (hb5.mono HBL.out.size)); clear hg5 hb5; obtain ⟨p0, p1, p2, p3, p4, p5⟩ := RefIs.cells HR5.out)
            | (go_at_call 25; refine (same_yes (some ⟨wr.heap.size, 0, none⟩) (some ⟨g, 0, none⟩) wr.heap.size 0 lc.length g 0 cap' lc _ (by rw [HN.out]; omega) (fun _ => rfl) (fun _ => rfl) HU5.out HR5.out.ucells).mono ?_; rintro e w6 ⟨rfl, m6, rfl⟩)
            | (go_at_call 27; refine (len_ok bm bw lc cc _ (HM5.out.drewN _)).mono ?_; rintro e w7 ⟨rfl, rfl⟩)
            | (go_at_call 28; refine (counts_ok bm bw lc cc _ (HM5.out.drewN _)).mono ?_; rintro e w8 ⟨rfl, hb8⟩; have HR8 : Hid (RefIs w8 br g cap' lc cc) := Lib.hid (HR5.out.of_blocks (hb8.block br HR5.out.lt1) (hb8.block g HR5.out.lt2)); have HS8 := Lib.hid ((below_drewN HS5.out _).trans (hb8.mono HS5.out.size)); clear hb8; obtain ⟨p0, p1, p2, p3, p4, p5⟩ := RefIs.cells HR8.out)
            | (go_at_call 21; refine (two_any _).mono ?_; rintro e w9 ⟨rfl, hb9⟩; have HS9 := Lib.hid (HS8.out.trans (hb9.mono HS8.out.size)); have HR9 : Hid (RefIs w9 br g cap' lc cc) := Lib.hid (HR8.out.of_blocks (hb9.block br HR8.out.lt1) (hb9.block g HR8.out.lt2)); clear hb9; obtain ⟨p0, p1, p2, p3, p4, p5⟩ := RefIs.cells HR9.out))
        go_wp2
        go_ret
        exact ⟨rfl, HS9.out⟩
    · have hEq : ((lc.length : Int) == (l.length : Int)) = true := by rw [HN.out]; simp
      obtain ⟨p0, p1, p2, p3, p4, p5⟩ := RefIs.cells HR.out
      go_wp2_with fail
      go_region_held3 (fun w' => w'.cell? ⟨br, 0, none⟩ = some (.slice (some ⟨g, 0, none⟩) lc.length cap') ∧ w'.cell? ⟨br, 1, none⟩ = some (.int .i64 cc.r) ∧ w'.cell? ⟨br, 2, none⟩ = some (.int .i64 cc.w) ∧
          w'.cell? ⟨br, 3, none⟩ = some (.int .i64 cc.s) ∧ w'.cell? ⟨br, 4, none⟩ = some (.int .i64 cc.a) ∧ w'.cell? ⟨br, 5, none⟩ = some (.int .i64 cc.f))
        (first | exact ⟨p0, p1, p2, p3, p4, p5⟩ | go_keep)
        (first
          | (go_at_call 26; refine (words_ok bm bw lc cc _ HM.out.drew (by rw [HN.out]; exact hn)).mono ?_; rintro e w5 ⟨rfl, hg5, hb5⟩; have HU5 : Hid (UCells w5 wr.heap.size 0 lc) := Lib.hid (ucells_of_block hg5); have HR5 : Hid (RefIs w5 br g cap' lc cc) := Lib.hid (HR.out.of_blocks (hb5.block br HR.out.lt1) (hb5.block g HR.out.lt2)); have HM5 : Hid (MemIs 72 w5 bm bw lc cc) := Lib.hid (HM.out.of_blocks (hb5.block bm HM.out.lt1) (hb5.block bw HM.out.lt2)); have HS5 := Lib.hid (HBL.out.drew.trans (hb5.mono HBL.out.size)); clear hg5 hb5; obtain ⟨p0, p1, p2, p3, p4, p5⟩ := RefIs.cells HR5.out)
          | (go_at_call 25; refine (same_yes (some ⟨wr.heap.size, 0, none⟩) (some ⟨g, 0, none⟩) wr.heap.size 0 lc.length g 0 cap' lc _ (by rw [HN.out]; omega) (fun _ => rfl) (fun _ => rfl) HU5.out HR5.out.ucells).mono ?_; rintro e w6 ⟨rfl, m6, rfl⟩)
          | (go_at_call 27; refine (len_ok bm bw lc cc _ (HM5.out.drewN _)).mono ?_; rintro e w7 ⟨rfl, rfl⟩)
          | (go_at_call 28; refine (counts_ok bm bw lc cc _ (HM5.out.drewN _)).mono ?_; rintro e w8 ⟨rfl, hb8⟩; have HR8 : Hid (RefIs w8 br g cap' lc cc) := Lib.hid (HR5.out.of_blocks (hb8.block br HR5.out.lt1) (hb8.block g HR5.out.lt2)); have HS8 := Lib.hid ((below_drewN HS5.out _).trans (hb8.mono HS5.out.size)); clear hb8; obtain ⟨p0, p1, p2, p3, p4, p5⟩ := RefIs.cells HR8.out)
          | (go_at_call 21; refine (two_any _).mono ?_; rintro e w9 ⟨rfl, hb9⟩; have HS9 := Lib.hid (HS8.out.trans (hb9.mono HS8.out.size)); have HR9 : Hid (RefIs w9 br g cap' lc cc) := Lib.hid (HR8.out.of_blocks (hb9.block br HR8.out.lt1) (hb9.block g HR8.out.lt2)); clear hb9; obtain ⟨p0, p1, p2, p3, p4, p5⟩ := RefIs.cells HR9.out))
      go_wp2
      go_ret
      exact ⟨rfl, HS9.out⟩
end Go.Proofs.Ytehcfflofacapaa
