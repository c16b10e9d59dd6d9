/- length, New, Right: the program's and the reference's. -/
import Derived.Test.YtmocjpcnohnfpaaGreatJA
namespace Go.Proofs.YtmocjpcnohnfpaaGreat
open Go.ChangeShapes Go.WideShapes Go.ChangeAt Go.RowKit
set_option linter.unusedVariables false
set_option linter.unusedSimpArgs false
set_option maxRecDepth 100000

def mdLen (n k p : Int) : Int := if k = 0 ∨ k = 9 then p else if k = 5 then 2 * n else if k = 6 then p + n else if k = 8 then 0 else 1
def mdNL (n k p : Int) : Nat := if k = 7 then 1 + sqLo p.toNat else (mdLen n k p).toNat
def mdNew (n k p : Int) : List Nat := List.replicate (mdNL n k p) 0
def mdIs (n k p : Int) (m : List Nat) : Bool := if k = 7 then decide (0 < m.length) && sqRight p m.tail else if k = 8 then decide (m.length % 2 = 0) else decide ((m.length : Int) = mdLen n k p)
def mdRight (n k p q : Int) (m : List Nat) : Bool := decide (Tb.tbErr n k p q = 0) && mdIs n k p m
/-- what of an object that may be is wanted -/
structure OkS (n k p q : Int) : Prop where
  n1 : 1 ≤ n
  n16 : n ≤ 16
  k0 : 0 ≤ k
  k9 : k ≤ 9
  h0 : k = 0 → 1 ≤ p ∧ p ≤ 64
  h4 : k = 4 → 1 ≤ p ∧ p ≤ 12
  h5 : k = 5 → 1 ≤ p ∧ p ≤ 64
  h6 : k = 6 → (1 ≤ p ∧ p ≤ 16) ∧ 1 ≤ q ∧ q ≤ 64
  h7 : k = 7 → (0 ≤ p ∧ p ≤ 7) ∧ 1 ≤ q ∧ q ≤ 256
  h8 : k = 8 → (1 ≤ p ∧ p ≤ 32) ∧ 0 ≤ q ∧ q ≤ 3
  h9 : k = 9 → 1 ≤ p ∧ p ≤ 8
theorem okS {n k p q : Int} (h : Tb.tbErr n k p q = 0) : OkS n k p q := by
  unfold Tb.tbErr at h
  split at h
  · cases h
  · split at h
    · cases h
    · split at h
      · rename_i h1 h2 h3
        unfold Tb.tbIn at h3
        exact ⟨by omega, by omega, by omega, by omega, h3.1, h3.2.1, h3.2.2.1, h3.2.2.2.1, h3.2.2.2.2.1, h3.2.2.2.2.2.1, h3.2.2.2.2.2.2⟩
      · cases h
theorem mdLen_bd {n k p q : Int} (h : OkS n k p q) (h7 : k ≠ 7) : 0 ≤ mdLen n k p ∧ mdLen n k p ≤ 64 := by
  have := h.n1; have := h.n16; have := h.h0; have := h.h5; have := h.h6; have := h.h9
  unfold mdLen
  split
  · omega
  · split
    · omega
    · split
      · omega
      · split <;> omega

theorem length_any (n k p q : Int) (h : OkS n k p q) (w : World) :
    Calls Tryz.prog 22 #[.int .i64 n, Tb.specV k p q] w fun e w' => e = .returned (.int .i64 (mdLen n k p)) ∧ Below w.heap.size w w' := by
  have hn1 := h.n1; have hn2 := h.n16; have h6 := h.h6
  clear h
  unfold Tb.specV
  by_cases e0 : k = 0
  · subst e0
    clear h6
    go_enter Tryz.func22, Tryz.ntmps22
    go_wp2_with fail
    go_ret
    exact ⟨rfl, (Below.refl _ _).alloc (Nat.le_refl _) _⟩
  by_cases e9 : k = 9
  · subst e9
    clear h6
    go_enter Tryz.func22, Tryz.ntmps22
    go_wp2_with fail
    go_ret
    exact ⟨rfl, (Below.refl _ _).alloc (Nat.le_refl _) _⟩
  by_cases e5 : k = 5
  · subst e5
    clear h6
    have hm : mdLen n 5 p = 2 * n := rfl
    rw [hm]
    clear hm
    go_enter Tryz.func22, Tryz.ntmps22
    go_wp2_with fail
    go_ret
    exact ⟨rfl, (Below.refl _ _).alloc (Nat.le_refl _) _⟩
  by_cases e6 : k = 6
  · subst e6
    have hp := (h6 rfl).1
    have hm : mdLen n 6 p = p + n := rfl
    rw [hm]
    clear hm h6
    go_enter Tryz.func22, Tryz.ntmps22
    go_wp2_with fail
    go_ret
    exact ⟨rfl, (Below.refl _ _).alloc (Nat.le_refl _) _⟩
  by_cases e8 : k = 8
  · subst e8
    clear h6
    go_enter Tryz.func22, Tryz.ntmps22
    go_wp2_with fail
    go_ret
    exact ⟨rfl, (Below.refl _ _).alloc (Nat.le_refl _) _⟩
  · have hm : mdLen n k p = 1 := by unfold mdLen; rw [if_neg (by omega), if_neg e5, if_neg e6, if_neg e8]
    rw [hm]
    clear hm h6
    go_enter Tryz.func22, Tryz.ntmps22
    go_wp2_with fail
    go_ret
    exact ⟨rfl, (Below.refl _ _).alloc (Nat.le_refl _) _⟩

/-- the first word, 0, and behind it what a type is at first -/
theorem zeros_one (a : Nat) : [Value.int .u64 0] ++ (List.replicate a 0).map wU = (List.replicate (1 + a) 0).map wU := by
  rw [Nat.add_comm, List.replicate_succ]; rfl
theorem spec_down {w w5 : World} {k p q : Int} (hb : Below (w.alloc (Tb.specO k p q)).heap.size (w.alloc (Tb.specO k p q)) w5) :
    (w5.cell? ⟨w.heap.size, 0, none⟩ = some (.int .i64 k) ∧ w5.cell? ⟨w.heap.size, 1, none⟩ = some (.int .i64 p) ∧ w5.cell? ⟨w.heap.size, 2, none⟩ = some (.int .i64 q)) ∧ Below w.heap.size w w5 ∧ w.heap.size < w5.heap.size := by
  obtain ⟨h1, h2, h3⟩ := Tb.spec_in hb
  exact ⟨⟨Tb.cell_of_blkT h1 rfl, Tb.cell_of_blkT h1 rfl, Tb.cell_of_blkT h1 rfl⟩, h2, h3⟩

/-- what New gives -/
def NewP (l : List Nat) (w : World) (e : Ending) (w' : World) : Prop := ∃ v, e = .returned (.tuple #[v, .int .i64 0]) ∧ OwnW w' w.heap.size v l ∧ Below w.heap.size w w'
set_option maxHeartbeats 1000000 in
theorem new_any (n k p q : Int) (hok : Tb.tbErr n k p q = 0) (w : World) :
    Calls Tryz.prog 6 #[.int .i64 n, Tb.specV k p q] w (NewP (mdNew n k p) w) := by
  have h := okS hok
  have HS := Lib.hid (fun w => Tb.size_any n k p q w)
  rw [hok] at HS
  generalize Tb.tbN n k p q = sz at *
  clear hok
  by_cases h7 : k = 7
  · subst h7
    obtain ⟨⟨hp0, hp7⟩, _⟩ := h.h7 rfl
    have hsl := sqLo_le p.toNat
    have HN := Lib.hid (fun w => seqNew_any p w)
    rw [sqIs_yes ⟨hp0, hp7⟩, if_pos rfl] at HN
    have hE : mdNew n 7 p = List.replicate (1 + sqLo p.toNat) 0 := rfl
    rw [hE]
    clear h hE
    generalize sqLo p.toNat = a at *
    obtain ⟨iI, ia, ib, ic, id⟩ := info_parts info22
    have HLEN : Hid (((List.replicate a 0).map wU).length = a) := Lib.hid (by simp)
    have HONE := Lib.hid (wU_one (List.replicate a 0))
    have HZ := Lib.hid (zeros_one a)
    unfold Tb.specV at *
    go_enter Tryz.func6, Tryz.ntmps6
    go_wp2_with (first
      | (go_at_call 20; refine (HS.out _).mono ?_; rintro e w1 ⟨rfl, hb⟩; (obtain ⟨⟨k0, k1, k2⟩, hb1, hlt⟩ := spec_down hb); (have HB1 := Lib.hid hb1); (have HO1 : Hid (OwnW (w1.alloc (.cells #[wU 0] 25)) w.heap.size (.slice (some ⟨w1.heap.size, 0, none⟩) 1 1) (List.replicate 1 0)) := Lib.hid (made_own w1 1 w.heap.size _ rfl (by omega) hb1.size)); clear hb hb1)
      | (go_at_call 21; refine (HN.out _).mono ?_; rintro e w2 ⟨v2, rfl, ho2, hb2⟩; (have HO2 : Hid (w2.ownsRow w.heap.size 25 1 (.slice (some ⟨w1.heap.size, 0, none⟩) 1 1) 1 [.int .u64 0]) := Lib.hid (HO1.out.below hb2)); (obtain ⟨ao2, b2, o2, cap2, rfl, hA2, hn2, hc2⟩ := ho2.arg); (have HA2 := Lib.hid hA2); (have HN2 := Lib.hid hn2); (have HC2 : Hid (∀ (j : Nat) (u : Value), ((List.replicate a 0).map wU)[j]? = some u → w2.cell? ⟨b2, o2 + j, none⟩ = some u) := Lib.hid (fun j u hu => by rw [List.getElem?_map] at hu; obtain ⟨x, hx, rfl⟩ := Option.map_eq_some_iff.1 hu; exact hc2 j x hx)); (have hsz2 : w.heap.size ≤ w2.heap.size := by have := hb2.size; simp at this; omega); (have HB2 : Hid (Below w.heap.size w w2) := Lib.hid ((HB1.out.alloc HB1.out.size _).trans (hb2.mono (by have := HB1.out.size; simp; omega)))); clear hb2 ho2 hA2 hn2 hc2)
      | (at_builtin; rw [List.length_replicate] at *; refine append_onto_own rfl _ _ 24 rfl w.heap.size 25 iI (.int .u64 0) 8 Tryz.underlying24 ia ib ic id rfl (by decide) _ 1 _ rfl HO2.out ao2 b2 o2 cap2 a ((List.replicate a 0).map wU) rfl HLEN.out HA2.out HN2.out HC2.out HONE.out (by omega) hsz2 ?_; intro v3 w3 ho3 hb3 _; (have HO3 : Hid (OwnW w3 w.heap.size v3 (List.replicate (1 + a) 0)) := Lib.hid (by unfold OwnW; rw [List.length_replicate, ← HZ.out]; exact ho3)); (have HB3 := Lib.hid (HB2.out.trans hb3)); clear ho3 hb3))
    go_ret2
    exact ⟨_, rfl, HO3.out, HB3.out⟩
  · have hbd := mdLen_bd h h7
    obtain ⟨a, ha⟩ : ∃ a : Nat, mdLen n k p = a := ⟨(mdLen n k p).toNat, by omega⟩
    have hE : mdNew n k p = List.replicate a 0 := by unfold mdNew mdNL; rw [if_neg h7, ha]; rfl
    have HL := Lib.hid (fun w => length_any n k p q h w)
    rw [ha] at HL hbd
    rw [hE]
    have HM := run_mkW a (by omega)
    clear hE ha h
    unfold Tb.specV at *
    go_enter Tryz.func6, Tryz.ntmps6
    go_wp2_with (first
      | (go_at_call 20; refine (HS.out _).mono ?_; rintro e w1 ⟨rfl, hb⟩; (obtain ⟨⟨k0, k1, k2⟩, hb1, hlt⟩ := spec_down hb); (have HB1 := Lib.hid hb1); clear hb hb1)
      | (go_at_call 22; refine (HL.out _).mono ?_; rintro e w2 ⟨rfl, hb2⟩; (have HB2 : Hid (Below w.heap.size w w2) := Lib.hid (HB1.out.trans (hb2.mono HB1.out.size))); clear hb2))
    go_ret2
    exact ⟨_, rfl, made_own w2 a _ _ rfl (by omega) HB2.out.size, HB2.out.alloc HB2.out.size _⟩

/-- there is no such object -/
theorem new_bad (n k p q : Int) (hok : Tb.tbErr n k p q ≠ 0) (w : World) :
    Calls Tryz.prog 6 #[.int .i64 n, Tb.specV k p q] w fun e w' => e = .returned (.tuple #[.slice none 0 0, .int .i64 (Tb.tbErr n k p q)]) ∧ Below w.heap.size w w' := by
  have HS := Lib.hid (fun w => Tb.size_any n k p q w)
  generalize Tb.tbN n k p q = sz at *
  generalize Tb.tbErr n k p q = er at *
  unfold Tb.specV at *
  go_enter Tryz.func6, Tryz.ntmps6
  go_wp2_with (go_at_call 20; refine (HS.out _).mono ?_; rintro e w1 ⟨rfl, hb⟩; (obtain ⟨⟨k0, k1, k2⟩, hb1, hlt⟩ := spec_down hb); (have HB1 := Lib.hid hb1); clear hb hb1)
  go_ret2
  exact ⟨rfl, HB1.out⟩
end Go.Proofs.YtmocjpcnohnfpaaGreat
