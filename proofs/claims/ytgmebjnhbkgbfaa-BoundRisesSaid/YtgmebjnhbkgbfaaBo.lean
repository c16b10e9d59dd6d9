/- bound.All; known. -/
import Derived.Test.YtgmebjnhbkgbfaaBm
namespace Go.Proofs.Ytgmebjnhbkgbfaa
open Go.ChangeShapes Go.WideShapes Go.ChangeAt Go.RowKit
set_option linter.unusedVariables false
set_option linter.unusedSimpArgs false

def maxI (a b : Int) : Int := if a ≤ b then b else a
theorem maxI_ge (a b : Int) : a ≤ maxI a b ∧ b ≤ maxI a b := by unfold maxI; split <;> omega
theorem maxI_le {a b c : Int} (ha : a ≤ c) (hb : b ≤ c) : maxI a b ≤ c := by unfold maxI; split <;> omega
/-- the most steps of all, so far m -/
def tbA (n : Int) : List SpecL → Int → Int × Int
  | [], m => (m, 0)
  | x :: l, m => if tbErr n x.k x.p x.q ≠ 0 then (0, tbErr n x.k x.p x.q) else tbA n l (maxI (maxI m (tbF n x.k x.p x.q)) (tbG n x.k x.p x.q))
theorem tbA_err {n m : Int} {x : SpecL} {l : List SpecL} (h : tbErr n x.k x.p x.q ≠ 0) : tbA n (x :: l) m = (0, tbErr n x.k x.p x.q) := by rw [tbA, if_pos h]
theorem tbA_next {n m : Int} {x : SpecL} {l : List SpecL} (h : tbErr n x.k x.p x.q = 0) : tbA n (x :: l) m = tbA n l (maxI (maxI m (tbF n x.k x.p x.q)) (tbG n x.k x.p x.q)) := by rw [tbA, if_neg (by omega)]
theorem drop_specs {l : List SpecL} {j : Nat} {x : SpecL} (h : l[j]? = some x) : l.drop j = x :: l.drop (j + 1) := by
  have hl := (List.getElem?_eq_some_iff.1 h).1
  rw [List.drop_eq_getElem_cons hl]
  rw [List.getElem?_eq_getElem hl, Option.some.injEq] at h
  rw [h]
theorem tb_le {n k p q : Int} (hn : 1 ≤ n ∧ n ≤ 16) (hk : 0 ≤ k ∧ k ≤ 9) (h : tbIn k p q) : (1 ≤ tbF n k p q ∧ tbF n k p q ≤ 200000) ∧ 1 ≤ tbG n k p q ∧ tbG n k p q ≤ 200000 := by
  rcases tb_nine hk with rfl | rfl | rfl | rfl | rfl | rfl | rfl | rfl | rfl | rfl
  · rw [tbF_0, tbG_0]; rw [tbIn_0] at h
    omega
  · rw [tbF_1, tbG_1]; rw [tbIn_1] at h
    omega
  · rw [tbF_2, tbG_2]; rw [tbIn_2] at h
    omega
  · rw [tbF_3, tbG_3]; rw [tbIn_3] at h
    omega
  · rw [tbF_4, tbG_4]; rw [tbIn_4] at h
    omega
  · rw [tbF_5, tbG_5]; rw [tbIn_5] at h
    have b1 := mul_bd (a := n) (b := n) (A := 16) (B := 16) (by omega) (by omega)
    omega
  · rw [tbF_6, tbG_6]; rw [tbIn_6] at h
    have b1 := mul_bd (a := p) (b := n + 3) (A := 16) (B := 19) (by omega) (by omega)
    have b2 := mul_bd (a := p) (b := n + 2) (A := 16) (B := 18) (by omega) (by omega)
    have b3 := mul_pos1 (a := p) (b := n + 2) (by omega) (by omega)
    omega
  · rw [tbF_7, tbG_7]; rw [tbIn_7] at h
    omega
  · rw [tbF_8, tbG_8]; rw [tbIn_8] at h
    have b2 := tb_d hn
    rw [tbQ_eq]
    omega
  · rw [tbF_9, tbG_9]; rw [tbIn_9] at h
    omega

def AllP (n : Int) (l : List SpecL) (w : World) (e : Ending) (w' : World) : Prop := e = .returned (.tuple #[.int .i64 (tbA n l 1).1, .int .i64 (tbA n l 1).2]) ∧ Below w.heap.size w w'
set_option maxRecDepth 100000 in
set_option maxHeartbeats 2000000 in
theorem all_any (n : Int) (ao : Option Addr) (b o c : Nat) (l : List SpecL) (w : World) (hl : l.length ≤ 1000) (ha : 0 < l.length → ao = some ⟨b, o, none⟩) (hb : 0 < l.length → b < w.heap.size) (hc : SpecsAt w b o l) :
    Calls Try.prog 15 #[.int .i64 n, .slice ao l.length c] w (AllP n l w) := by
  have HC := Lib.hid hc
  have HA := Lib.hid ha
  have HB := Lib.hid hb
  clear hc ha hb
  go_enter Try.func15, Try.ntmps15
  go_wp2
  go_loopw [6, 15] (fun v k wr => ∃ (j : Nat) (m : Int), j ≤ l.length ∧ k = .int .i64 j ∧ v = .int .i64 m ∧ (1 ≤ m ∧ m ≤ 200000) ∧ Hid (tbA n (l.drop j) m = tbA n l 1) ∧ Below w.heap.size w wr) (fun _ k _ => l.length - (intOf k).toNat)
  case atStart => exact ⟨0, 1, Nat.zero_le _, rfl, rfl, by omega, Lib.hid rfl, Below.refl _ _⟩
  case round =>
    obtain ⟨j, m, hj, rfl, rfl, hm, hp, hbl⟩ := hrel
    have hsz := hbl.size
    by_cases hlt : j < l.length
    · obtain rfl := HA.out (by omega)
      obtain ⟨x, hx⟩ : ∃ x, l[j]? = some x := ⟨l[j], List.getElem?_eq_getElem (by omega)⟩
      obtain ⟨c0, c1, c2⟩ := HC.out.stays hbl HB.out j _ hx
      have hd := Lib.hid (drop_specs hx)
      clear hx
      obtain ⟨k, p, q⟩ := x
      have HS := Lib.hid (fun w => size_any n k p q w)
      have HC0 := Lib.hid (SpCtx.init wr k p q)
      simp only at c0 c1 c2
      by_cases he : tbErr n k p q = 0
      · obtain ⟨s, hs⟩ : ∃ s, tbN n k p q = s := ⟨_, rfl⟩
        rw [hs, he] at HS
        obtain ⟨f, hf⟩ : ∃ f, tbF n k p q = f := ⟨_, rfl⟩
        obtain ⟨g, hg⟩ : ∃ g, tbG n k p q = g := ⟨_, rfl⟩
        obtain ⟨z1, z2, z3⟩ := tbErr_zero he
        have HT := Lib.hid (fun w => steps_any n k p q z1 z2 z3 w)
        have hle := tb_le z1 z2 z3
        rw [hf, hg] at HT hle
        have hN : Hid (tbA n (l.drop (j + 1)) (maxI (maxI m f) g) = tbA n l 1) := Lib.hid (by rw [← hp.out, hd.out, tbA_next he, hf, hg])
        clear hs hf hg he z1 z2 z3 hd hp
        unfold specV specO at *
        go_wp2_with (first
          | (go_at_call 7; refine (HS.out _).mono ?_; rintro e w1 ⟨rfl, hb1⟩; (have HC1 := Lib.hid (HC0.out.next hb1)); (obtain ⟨b0, b1, b2⟩ := HC1.out.cells); clear hb1)
          | (go_at_call 23; refine (HT.out _).mono ?_; rintro e w3 ⟨rfl, rfl⟩))
        go_roundw
        case rel => exact ⟨j + 1, maxI (maxI m f) g, by omega, by go_num, by unfold maxI; first | rfl | (congr 1; split <;> (try split) <;> omega), ⟨by have := maxI_ge (maxI m f) g; have := maxI_ge m f; omega, maxI_le (maxI_le hm.2 hle.1.2) hle.2.2⟩, hN, hbl.trans (HC1.out.bel.mono hsz)⟩
        case measure => simp [intOf]; omega
      · have hN : Hid (tbA n l 1 = (0, tbErr n k p q)) := Lib.hid (by rw [← hp.out, hd.out, tbA_err he])
        obtain ⟨s, hs⟩ : ∃ s, tbN n k p q = s := ⟨_, rfl⟩
        obtain ⟨er, her⟩ : ∃ er, tbErr n k p q = er := ⟨_, rfl⟩
        rw [hs, her] at HS
        rw [her] at he hN
        clear hs her hd hp
        unfold specV specO at *
        go_wp2_with (go_at_call 7; refine (HS.out _).mono ?_; rintro e w1 ⟨rfl, hb1⟩; (have HC1 := Lib.hid (HC0.out.next hb1)); (obtain ⟨b0, b1, b2⟩ := HC1.out.cells); clear hb1)
        go_ret2
        exact ⟨by rw [hN.out]; rfl, hbl.trans (HC1.out.bel.mono hsz)⟩
    · have : j = l.length := by omega
      subst this
      have hN : Hid (tbA n l 1 = (m, 0)) := Lib.hid (by rw [← hp.out, List.drop_length]; rfl)
      go_wp2
      go_ret2
      exact ⟨by rw [hN.out]; rfl, hbl⟩
def tallyO : Obj := .cells #[.int .i64 2, .int .i64 0, .int .i64 0] 23
set_option maxRecDepth 100000 in
set_option maxHeartbeats 1000000 in
theorem known_any (w : World) : Calls Try.prog 13 #[] w fun e w' => e = .returned (.bool true) ∧ Below w.heap.size w w' := by
  have HM : Hid (∀ w, Calls Try.prog 12 #[.int .i64 2, specV 8 3 1, .int .i64 0] w fun e w' => e = .returned (.tuple #[.int .i64 756, .int .i64 0]) ∧ Below w.heap.size w w') := Lib.hid (fun w => most_any 2 8 3 1 0 w)
  have HA : Hid (∀ (b c : Nat) (w : World), w.heap[b]? = some tallyO → Calls Try.prog 15 #[.int .i64 3, .slice (some ⟨b, 0, none⟩) 1 c] w fun e w' => e = .returned (.tuple #[.int .i64 3, .int .i64 0]) ∧ Below w.heap.size w w') := Lib.hid (fun b c w h => all_any 3 _ b 0 c [⟨2, 0, 0⟩] w (by decide) (fun _ => rfl) (fun _ => blk_lt h) (fun i x hx => by
    match i, hx with
    | 0, hx => cases hx; exact ⟨cell_of_blkT h rfl, cell_of_blkT h rfl, cell_of_blkT h rfl⟩))
  unfold specV at *
  go_enter Try.func13, Try.ntmps13
  go_wp2_with (first
    | (go_at_call 12; refine (HM.out _).mono ?_; rintro e w1 ⟨rfl, hb⟩; (have HB1 := Lib.hid hb); clear hb)
    | (go_at_call 15; refine (HA.out _ _ _ (heap_alloc_new _ _)).mono ?_; rintro e w2 ⟨rfl, hb⟩; (have HB2 := Lib.hid hb); clear hb))
  go_ret
  exact ⟨rfl, (HB1.out.alloc HB1.out.size _).trans (HB2.out.mono (by have := HB1.out.size; simp; omega))⟩
end Go.Proofs.Ytgmebjnhbkgbfaa
