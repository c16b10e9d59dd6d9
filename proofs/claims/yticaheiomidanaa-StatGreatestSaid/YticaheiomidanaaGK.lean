/- Walk of the law StatGreatest. -/
import Derived.Test.YticaheiomidanaaGH
import Derived.Test.YticaheiomidanaaGI
import Derived.Test.YticaheiomidanaaKA
namespace Go.Proofs.Yticaheiomidanaa
open Go.RowKit

theorem order_gt_no {x y : Nat} (hx : isNB x = false) (hy : isNB y = false) (h : ky x ≤ ky y) : (fD.order x y == some Ordering.gt) = false := by
  apply beq_false_of_ne
  rw [order_sv hx hy]
  intro h1
  have h1 := cmp_gt.1 (Option.some.inj h1)
  have := sv_le h
  omega
theorem gr_parts {a b : List Nat} (hl : ∀ x ∈ a ++ b, x < 18446744073709551616) (hn : (a ++ b).any isNB = false) :
    (gr (a ++ b) = gr a ∨ gr (a ++ b) = gr b) ∧ ky (gr a) ≤ ky (gr (a ++ b)) ∧ ky (gr b) ≤ ky (gr (a ++ b)) ∧ isNB (gr a) = false ∧ isNB (gr b) = false := by
  have hn' := hn
  rw [List.any_append, Bool.or_eq_false_iff] at hn'
  obtain ⟨p1, p2, p3, p4⟩ := gr_all (a ++ b) hl hn
  obtain ⟨q1, q2, q3, q4⟩ := gr_all a (fun x hx => hl x (by simp [hx])) hn'.1
  obtain ⟨r1, r2, r3, r4⟩ := gr_all b (fun x hx => hl x (by simp [hx])) hn'.2
  have ka : ky (gr a) ≤ ky (gr (a ++ b)) := by
    rcases q4 with h | h
    · rw [h]; exact ninf_ky _ p2
    · exact p3 _ (by simp [h])
  have kb : ky (gr b) ≤ ky (gr (a ++ b)) := by
    rcases r4 with h | h
    · rw [h]; exact ninf_ky _ p2
    · exact p3 _ (by simp [h])
  refine ⟨?_, ka, kb, q2, r2⟩
  rcases p4 with h | h
  · left
    have := ninf_ky _ q2
    exact ky_inj p1 q1 (by rw [h] at ka ⊢; omega)
  · rcases List.mem_append.1 h with h | h
    · left; have := q3 _ h; exact ky_inj p1 q1 (by omega)
    · right; have := r3 _ h; exact ky_inj p1 r1 (by omega)

theorem any_take {l : List Nat} {p : Nat → Bool} {j x : Nat} (h : l[j]? = some x) : (l.take (j + 1)).any p = ((l.take j).any p || p x) := by
  rw [take_snoc h, List.any_append]; simp

theorem len_zero (l : List Nat) (p : Nat → Bool) : ((l.length : Int) == 0) = (decide (l.length = 0) || (l.take 0).any p) := by
  cases l with
  | nil => rfl
  | cons x l =>
    rw [List.take_zero, List.any_nil, Bool.or_false, List.length_cons]
    rw [decide_eq_false (by omega)]
    apply beq_false_of_ne
    omega

theorem flV_all (l : List Nat) : (l.map flV).all (fun u => u.oneCell') = true := by
  induction l with
  | nil => rfl
  | cons x l ih => rw [List.map_cons, List.all_cons, ih]; rfl

set_option maxHeartbeats 4000000 in
set_option maxRecDepth 100000 in
theorem great_walk (am : Option Addr) (ba oa ca : Nat) (A : List Nat) (ab : Option Addr) (bb ob cb : Nat) (B : List Nat) (w : World) (hla : A.length ≤ 9223372036854775807) (hlb : B.length ≤ 9223372036854775807)
    (haa : 0 < A.length → am = some ⟨ba, oa, none⟩) (hba : 0 < A.length → ba < w.heap.size) (hca : FCells w ba oa A) (hra : am = none → ca = 0)
    (hab : 0 < B.length → ab = some ⟨bb, ob, none⟩) (hbb : 0 < B.length → bb < w.heap.size) (hcb : FCells w bb ob B) (hrb : ab = none → cb = 0) :
    Calls Try.prog 7 #[.slice am A.length ca, .slice ab B.length cb] w fun e w' => e = .returned (.bool true) ∧ Below w.heap.size w w' := by
  obtain ⟨iI, ia, ib, ic, id⟩ := info_parts infoF
  have HAA := Lib.hid haa
  have HBA := Lib.hid hba
  have HCA := Lib.hid hca
  have HRA := Lib.hid hra
  have HAB := Lib.hid hab
  have HBB := Lib.hid hbb
  have HCB := Lib.hid hcb
  have HRB := Lib.hid hrb
  clear haa hba hca hra hab hbb hcb hrb
  by_cases h1 : 1000 < A.length
  · go_enter Try.func7, Try.ntmps7
    go_wp2_with fail
    refine (known_any _).mono ?_
    rintro e w' ⟨rfl, hb⟩
    go_wp2_with fail
    go_ret
    exact ⟨rfl, hb⟩
  by_cases h2 : 1000 < B.length
  · go_enter Try.func7, Try.ntmps7
    go_wp2_with fail
    refine (known_any _).mono ?_
    rintro e w' ⟨rfl, hb⟩
    go_wp2_with fail
    go_ret
    exact ⟨rfl, hb⟩
  have HL : Hid (∀ x ∈ A ++ B, x < 18446744073709551616) := Lib.hid (fun x hx => by
    rcases List.mem_append.1 hx with h | h
    · obtain ⟨i, hi⟩ := List.mem_iff_getElem?.1 h; exact (HCA.out i x hi).2
    · obtain ⟨i, hi⟩ := List.mem_iff_getElem?.1 h; exact (HCB.out i x hi).2)
  have hmade : (w.alloc (.cells #[] 44)).ownsRow w.heap.size 44 1 (.slice (some ⟨w.heap.size, 0, none⟩) 0 0) 0 [] :=
    World.ownsRow_made (base := w.heap.size) (e := 44) (size := 1) w #[] 0 (Nat.le_refl _) (by unfold maxLen; omega) rfl
  have hb0 : Below w.heap.size w (w.alloc (.cells #[] 44)) := (Below.refl _ _).alloc (Nat.le_refl _) _
  have HM := Lib.hid hmade
  have HCA0 := Lib.hid (HCA.out.stays hb0 HBA.out)
  have HB0 := Lib.hid hb0
  clear hmade hb0
  go_enter Try.func7, Try.ntmps7
  have HUA : Hid (∀ (j : Nat) (u : Value), (A.map flV)[j]? = some u → (w.alloc (.cells #[] 44)).cell? ⟨ba, oa + j, none⟩ = some u) := Lib.hid (fun j u hu => by
    rw [List.getElem?_map, Option.map_eq_some_iff] at hu; obtain ⟨x, hx, rfl⟩ := hu; exact (HCA0.out j x hx).1)
  have HUB : Hid (∀ w1, Below w.heap.size w w1 → ∀ (j : Nat) (u : Value), (B.map flV)[j]? = some u → w1.cell? ⟨bb, ob + j, none⟩ = some u) := Lib.hid (fun w1 hw j u hu => by
    rw [List.getElem?_map, Option.map_eq_some_iff] at hu; obtain ⟨x, hx, rfl⟩ := hu; exact (HCB.out.stays hw HBB.out j x hx).1)
  have HULA : Hid ((A.map flV).length = A.length) := Lib.hid (List.length_map ..)
  have HULB : Hid ((B.map flV).length = B.length) := Lib.hid (List.length_map ..)
  have HLE0 : Hid (0 + A.length ≤ 4294967296) := Lib.hid (by omega)
  have HLE1 : Hid (0 + A.length + B.length ≤ 4294967296) := Lib.hid (by omega)
  have HU0 := Lib.hid (flV_all A)
  have HU1 := Lib.hid (flV_all B)
  go_wp2_with (at_builtin; first
    | (refine append_onto_own rfl _ _ 49 rfl w.heap.size 44 iI (.float .f64 0) 8 Try.underlying49 ia ib ic id rfl (by decide) _ 0 [] rfl HM.out am ba oa ca A.length (A.map flV) rfl HULA.out HAA.out HRA.out HUA.out HU0.out HLE0.out (by simp) ?_; intro v1 w1 hown1 hb1 _; (have HB1 : Hid (Below w.heap.size w w1) := Lib.hid (HB0.out.trans hb1)); (have HO1 := Lib.hid hown1); (have HS1 : Hid (w.heap.size ≤ w1.heap.size) := Lib.hid HB1.out.size); clear hown1 hb1)
    | (refine append_onto_own rfl _ _ 49 rfl w.heap.size 44 iI (.float .f64 0) 8 Try.underlying49 ia ib ic id rfl (by decide) _ (0 + A.length) ([] ++ A.map flV) rfl HO1.out ab bb ob cb B.length (B.map flV) rfl HULB.out HAB.out HRB.out (HUB.out _ HB1.out) HU1.out HLE1.out HS1.out ?_))
  intro v2 w2 hown2 hb2 _
  have hb2' : Below w.heap.size w w2 := HB1.out.trans hb2
  rw [← List.map_append, ← List.length_append] at hown2
  obtain ⟨av, gv, cv, rfl, hav, hgv, hgl, hvc⟩ := owns_open hown2
  have HF : Hid (FCells w2 gv 0 (A ++ B)) := Lib.hid (fun i x hx => ⟨by rw [Nat.zero_add]; exact hvc i (flV x) (by rw [List.getElem?_map, hx]; rfl), HL.out x (List.mem_of_getElem? hx)⟩)
  have HCA2 := Lib.hid (HCA.out.stays hb2' HBA.out)
  have HCB2 := Lib.hid (HCB.out.stays hb2' HBB.out)
  have HB2 := Lib.hid hb2'
  have HAV := Lib.hid hav
  have hll : (A ++ B).length ≤ 2000 := by rw [List.length_append]; omega
  obtain ⟨L, hL⟩ : ∃ L, L = A ++ B := ⟨_, rfl⟩
  rw [← hL] at HF HAV HL hll ⊢
  have HLE := Lib.hid hL
  clear hown2 hb2 hb2' hav hgv hgl hvc hL
  have G1 := Lib.hid (fun n => greatest_any am ba oa ca A (w2.drewN n) hla HAA.out HCA2.out)
  have G2 := Lib.hid (fun n => greatest_any ab bb ob cb B (w2.drewN n) hlb HAB.out HCB2.out)
  have G3 := Lib.hid (fun n => greatest_any av gv 0 cv L (w2.drewN n) (by omega) HAV.out HF.out)
  go_wp2_with fail
  refine (G1.out 0).mono ?_
  rintro e w3 ⟨x, k1, rfl, hx, rfl⟩
  have HX := Lib.hid hx
  clear hx
  go_wp2_with fail
  refine (G2.out _).mono ?_
  rintro e w4 ⟨y, k2, rfl, hy, rfl⟩
  have HY := Lib.hid hy
  clear hy
  go_wp2_with fail
  refine (G3.out _).mono ?_
  rintro e w5 ⟨z, k3, rfl, hz, hw5⟩
  have HZ := Lib.hid hz
  have HF5 : Hid (FCells w5 gv 0 L) := Lib.hid (by rw [hw5]; exact HF.out)
  have HB5 : Hid (Below w.heap.size w w5) := Lib.hid (by rw [hw5]; exact below_drewN (below_drewN HB2.out _) _)
  clear hz hw5
  have hfm : FloatKind.f64.format = fD := rfl
  go_wp2
  go_loopw [9, 10, 37] (fun n i k wr => ∃ (j q : Nat) (nb ib : Bool), j ≤ L.length ∧ k = .int .i64 j ∧ n = .bool nb ∧ i = .bool ib ∧ Hid (nb = (L.take j).any isNB) ∧ Hid (ib = (decide (L.length = 0) || (L.take j).any (fun t => alikeB t z))) ∧ wr = w5.drewN q) (fun _ _ k _ => L.length - (intOf k).toNat)
  case atStart => exact ⟨0, 0, _, _, Nat.zero_le _, rfl, rfl, rfl, Lib.hid rfl, Lib.hid (len_zero _ _), rfl⟩
  case round =>
    obtain ⟨j, q, nb, ib, hj, rfl, rfl, rfl, hnb, hib, rfl⟩ := hrel
    by_cases hlt : j < L.length
    · obtain rfl := HAV.out (by omega)
      obtain ⟨t, ht⟩ : ∃ t, L[j]? = some t := ⟨L[j], List.getElem?_eq_getElem (by omega)⟩
      obtain ⟨ct, bt⟩ := HF5.out j t ht
      rw [Nat.zero_add] at ct
      have HT := Lib.hid ht
      have htm : t ∈ L := List.mem_of_getElem? ht
      have O1 : (fD.order t z == some Ordering.gt) = false := by
        cases hn : L.any isNB
        · obtain ⟨_, p2, p3, _⟩ := gr_all L HL.out hn
          rw [HZ.out.num hn]
          refine order_gt_no ?_ p2 (p3 t htm)
          cases ht : isNB t
          · rfl
          · exact absurd (List.any_eq_true.2 ⟨t, htm, ht⟩) (by rw [hn]; decide)
        · rw [order_nan2 t (HZ.out.nan hn)]; rfl
      have HTM := Lib.hid htm
      have o2 : (fD.order t t != some Ordering.eq) = isNB t := by
        cases h : isNB t
        · rw [order_self h]; rfl
        · rw [order_nan1 t h]; rfl
      have HN : Hid ((L.take (j + 1)).any isNB = (nb || isNB t)) := Lib.hid (by rw [any_take HT.out, hnb.out])
      have HI : Hid ((decide (L.length = 0) || (L.take (j + 1)).any (fun t => alikeB t z)) = (ib || alikeB t z)) := Lib.hid (by rw [any_take (p := fun t => alikeB t z) HT.out, hib.out, Bool.or_assoc])
      clear ht htm bt
      generalize hnt : isNB t = nt at o2
      have HNT := Lib.hid hnt
      clear hnt
      cases hnb2 : nb
      · subst hnb2
        go_wp2_with fail
        go_quiet (fail)
        cases hib2 : ib
        · subst hib2
          go_wp2_with fail
          refine (same_any _ _ _).mono ?_
          rintro e w6 ⟨rfl, rfl⟩
          have HAL := Lib.hid (rfl : alikeB t z = alikeB t z)
          generalize hal : alikeB t z = al at HAL ⊢
          have HAL2 := Lib.hid hal
          clear hal
          by_cases c0 : (fD.order t 0 == some Ordering.eq) = true
          · by_cases c1 : (fD.order z 0 == some Ordering.eq) = true
            · have e0 : fD.order t 0 = some .eq := by simpa using c0
              have e1 : fD.order z 0 = some .eq := by simpa using c1
              have n0 := (order_num e0).1
              have n1 := (order_num e1).1
              have s0 := (order_eq_zero n0).1 e0
              have s1 := (order_eq_zero n1).1 e1
              have q1 := fun w => quo_zero (P := Try.prog) (x := t) s0 w 44
              have q2 := fun w => quo_zero (P := Try.prog) (x := z) s1 w 44
              have g1 := pinf_gt
              have g2 := ninf_lt
              have g3 : (fD.order ninf 0 == some Ordering.gt) = false := by decide
              have g4 : (fD.order pinf 0 == some Ordering.lt) = false := by decide
              have hsz : sg t = true ∨ sg z = false := by
                cases hn : L.any isNB
                · obtain ⟨_, p2, p3, _⟩ := gr_all L HL.out hn
                  have h := p3 t HTM.out
                  rw [← HZ.out.num hn] at h
                  have r0 := sv_zero.1 s0
                  have r1 := sv_zero.1 s1
                  unfold ky at h
                  rw [r0, r1] at h
                  cases h3 : sg t <;> cases h4 : sg z <;> simp_all
                · rw [HZ.out.nan hn] at n1; cases n1
              clear e0 e1 n0 n1 s0 s1
              rcases hsz with hs | hs
              · rw [hs] at q1
                simp only [if_true] at q1
                clear hs q2
                go_wp2
                go_roundw
                case rel => exact ⟨j + 1, _, nt, al, by omega, by go_num, rfl, rfl, Lib.hid (by rw [HN.out, HNT.out]; try rfl), Lib.hid (by rw [HI.out]; rw [HAL2.out]; rfl), rfl⟩
                case measure => simp [intOf]; omega
              · rw [hs] at q2
                simp only [if_false, Bool.false_eq_true] at q2
                cases hs0 : sg t <;> rw [hs0] at q1 <;> simp only [if_true, if_false, Bool.false_eq_true] at q1
                · clear hs hs0
                  go_wp2
                  go_roundw
                  case rel => exact ⟨j + 1, _, nt, al, by omega, by go_num, rfl, rfl, Lib.hid (by rw [HN.out, HNT.out]; try rfl), Lib.hid (by rw [HI.out]; rw [HAL2.out]; rfl), rfl⟩
                  case measure => simp [intOf]; omega
                · clear hs hs0
                  go_wp2
                  go_roundw
                  case rel => exact ⟨j + 1, _, nt, al, by omega, by go_num, rfl, rfl, Lib.hid (by rw [HN.out, HNT.out]; try rfl), Lib.hid (by rw [HI.out]; rw [HAL2.out]; rfl), rfl⟩
                  case measure => simp [intOf]; omega
            · have c1 := Bool.eq_false_iff.2 c1
              go_wp2
              go_roundw
              case rel => exact ⟨j + 1, _, nt, al, by omega, by go_num, rfl, rfl, Lib.hid (by rw [HN.out, HNT.out]; try rfl), Lib.hid (by rw [HI.out]; rw [HAL2.out]; rfl), rfl⟩
              case measure => simp [intOf]; omega
          · have c0 := Bool.eq_false_iff.2 c0
            go_wp2
            go_roundw
            case rel => exact ⟨j + 1, _, nt, al, by omega, by go_num, rfl, rfl, Lib.hid (by rw [HN.out, HNT.out]; try rfl), Lib.hid (by rw [HI.out]; rw [HAL2.out]; rfl), rfl⟩
            case measure => simp [intOf]; omega
        · subst hib2
          by_cases c0 : (fD.order t 0 == some Ordering.eq) = true
          · by_cases c1 : (fD.order z 0 == some Ordering.eq) = true
            · have e0 : fD.order t 0 = some .eq := by simpa using c0
              have e1 : fD.order z 0 = some .eq := by simpa using c1
              have n0 := (order_num e0).1
              have n1 := (order_num e1).1
              have s0 := (order_eq_zero n0).1 e0
              have s1 := (order_eq_zero n1).1 e1
              have q1 := fun w => quo_zero (P := Try.prog) (x := t) s0 w 44
              have q2 := fun w => quo_zero (P := Try.prog) (x := z) s1 w 44
              have g1 := pinf_gt
              have g2 := ninf_lt
              have g3 : (fD.order ninf 0 == some Ordering.gt) = false := by decide
              have g4 : (fD.order pinf 0 == some Ordering.lt) = false := by decide
              have hsz : sg t = true ∨ sg z = false := by
                cases hn : L.any isNB
                · obtain ⟨_, p2, p3, _⟩ := gr_all L HL.out hn
                  have h := p3 t HTM.out
                  rw [← HZ.out.num hn] at h
                  have r0 := sv_zero.1 s0
                  have r1 := sv_zero.1 s1
                  unfold ky at h
                  rw [r0, r1] at h
                  cases h3 : sg t <;> cases h4 : sg z <;> simp_all
                · rw [HZ.out.nan hn] at n1; cases n1
              clear e0 e1 n0 n1 s0 s1
              rcases hsz with hs | hs
              · rw [hs] at q1
                simp only [if_true] at q1
                clear hs q2
                go_wp2
                go_roundw
                case rel => exact ⟨j + 1, _, nt, true, by omega, by go_num, rfl, rfl, Lib.hid (by rw [HN.out, HNT.out]; try rfl), Lib.hid (by rw [HI.out]; rfl), rfl⟩
                case measure => simp [intOf]; omega
              · rw [hs] at q2
                simp only [if_false, Bool.false_eq_true] at q2
                cases hs0 : sg t <;> rw [hs0] at q1 <;> simp only [if_true, if_false, Bool.false_eq_true] at q1
                · clear hs hs0
                  go_wp2
                  go_roundw
                  case rel => exact ⟨j + 1, _, nt, true, by omega, by go_num, rfl, rfl, Lib.hid (by rw [HN.out, HNT.out]; try rfl), Lib.hid (by rw [HI.out]; rfl), rfl⟩
                  case measure => simp [intOf]; omega
                · clear hs hs0
                  go_wp2
                  go_roundw
                  case rel => exact ⟨j + 1, _, nt, true, by omega, by go_num, rfl, rfl, Lib.hid (by rw [HN.out, HNT.out]; try rfl), Lib.hid (by rw [HI.out]; rfl), rfl⟩
                  case measure => simp [intOf]; omega
            · have c1 := Bool.eq_false_iff.2 c1
              go_wp2
              go_roundw
              case rel => exact ⟨j + 1, _, nt, true, by omega, by go_num, rfl, rfl, Lib.hid (by rw [HN.out, HNT.out]; try rfl), Lib.hid (by rw [HI.out]; rfl), rfl⟩
              case measure => simp [intOf]; omega
          · have c0 := Bool.eq_false_iff.2 c0
            go_wp2
            go_roundw
            case rel => exact ⟨j + 1, _, nt, true, by omega, by go_num, rfl, rfl, Lib.hid (by rw [HN.out, HNT.out]; try rfl), Lib.hid (by rw [HI.out]; rfl), rfl⟩
            case measure => simp [intOf]; omega
      · subst hnb2
        go_wp2_with fail
        go_quiet (fail)
        cases hib2 : ib
        · subst hib2
          go_wp2_with fail
          refine (same_any _ _ _).mono ?_
          rintro e w6 ⟨rfl, rfl⟩
          have HAL := Lib.hid (rfl : alikeB t z = alikeB t z)
          generalize hal : alikeB t z = al at HAL ⊢
          have HAL2 := Lib.hid hal
          clear hal
          by_cases c0 : (fD.order t 0 == some Ordering.eq) = true
          · by_cases c1 : (fD.order z 0 == some Ordering.eq) = true
            · have e0 : fD.order t 0 = some .eq := by simpa using c0
              have e1 : fD.order z 0 = some .eq := by simpa using c1
              have n0 := (order_num e0).1
              have n1 := (order_num e1).1
              have s0 := (order_eq_zero n0).1 e0
              have s1 := (order_eq_zero n1).1 e1
              have q1 := fun w => quo_zero (P := Try.prog) (x := t) s0 w 44
              have q2 := fun w => quo_zero (P := Try.prog) (x := z) s1 w 44
              have g1 := pinf_gt
              have g2 := ninf_lt
              have g3 : (fD.order ninf 0 == some Ordering.gt) = false := by decide
              have g4 : (fD.order pinf 0 == some Ordering.lt) = false := by decide
              have hsz : sg t = true ∨ sg z = false := by
                cases hn : L.any isNB
                · obtain ⟨_, p2, p3, _⟩ := gr_all L HL.out hn
                  have h := p3 t HTM.out
                  rw [← HZ.out.num hn] at h
                  have r0 := sv_zero.1 s0
                  have r1 := sv_zero.1 s1
                  unfold ky at h
                  rw [r0, r1] at h
                  cases h3 : sg t <;> cases h4 : sg z <;> simp_all
                · rw [HZ.out.nan hn] at n1; cases n1
              clear e0 e1 n0 n1 s0 s1
              rcases hsz with hs | hs
              · rw [hs] at q1
                simp only [if_true] at q1
                clear hs q2
                go_wp2
                go_roundw
                case rel => exact ⟨j + 1, _, true, al, by omega, by go_num, rfl, rfl, Lib.hid (by rw [HN.out, HNT.out]; try rfl), Lib.hid (by rw [HI.out]; rw [HAL2.out]; rfl), rfl⟩
                case measure => simp [intOf]; omega
              · rw [hs] at q2
                simp only [if_false, Bool.false_eq_true] at q2
                cases hs0 : sg t <;> rw [hs0] at q1 <;> simp only [if_true, if_false, Bool.false_eq_true] at q1
                · clear hs hs0
                  go_wp2
                  go_roundw
                  case rel => exact ⟨j + 1, _, true, al, by omega, by go_num, rfl, rfl, Lib.hid (by rw [HN.out, HNT.out]; try rfl), Lib.hid (by rw [HI.out]; rw [HAL2.out]; rfl), rfl⟩
                  case measure => simp [intOf]; omega
                · clear hs hs0
                  go_wp2
                  go_roundw
                  case rel => exact ⟨j + 1, _, true, al, by omega, by go_num, rfl, rfl, Lib.hid (by rw [HN.out, HNT.out]; try rfl), Lib.hid (by rw [HI.out]; rw [HAL2.out]; rfl), rfl⟩
                  case measure => simp [intOf]; omega
            · have c1 := Bool.eq_false_iff.2 c1
              go_wp2
              go_roundw
              case rel => exact ⟨j + 1, _, true, al, by omega, by go_num, rfl, rfl, Lib.hid (by rw [HN.out, HNT.out]; try rfl), Lib.hid (by rw [HI.out]; rw [HAL2.out]; rfl), rfl⟩
              case measure => simp [intOf]; omega
          · have c0 := Bool.eq_false_iff.2 c0
            go_wp2
            go_roundw
            case rel => exact ⟨j + 1, _, true, al, by omega, by go_num, rfl, rfl, Lib.hid (by rw [HN.out, HNT.out]; try rfl), Lib.hid (by rw [HI.out]; rw [HAL2.out]; rfl), rfl⟩
            case measure => simp [intOf]; omega
        · subst hib2
          by_cases c0 : (fD.order t 0 == some Ordering.eq) = true
          · by_cases c1 : (fD.order z 0 == some Ordering.eq) = true
            · have e0 : fD.order t 0 = some .eq := by simpa using c0
              have e1 : fD.order z 0 = some .eq := by simpa using c1
              have n0 := (order_num e0).1
              have n1 := (order_num e1).1
              have s0 := (order_eq_zero n0).1 e0
              have s1 := (order_eq_zero n1).1 e1
              have q1 := fun w => quo_zero (P := Try.prog) (x := t) s0 w 44
              have q2 := fun w => quo_zero (P := Try.prog) (x := z) s1 w 44
              have g1 := pinf_gt
              have g2 := ninf_lt
              have g3 : (fD.order ninf 0 == some Ordering.gt) = false := by decide
              have g4 : (fD.order pinf 0 == some Ordering.lt) = false := by decide
              have hsz : sg t = true ∨ sg z = false := by
                cases hn : L.any isNB
                · obtain ⟨_, p2, p3, _⟩ := gr_all L HL.out hn
                  have h := p3 t HTM.out
                  rw [← HZ.out.num hn] at h
                  have r0 := sv_zero.1 s0
                  have r1 := sv_zero.1 s1
                  unfold ky at h
                  rw [r0, r1] at h
                  cases h3 : sg t <;> cases h4 : sg z <;> simp_all
                · rw [HZ.out.nan hn] at n1; cases n1
              clear e0 e1 n0 n1 s0 s1
              rcases hsz with hs | hs
              · rw [hs] at q1
                simp only [if_true] at q1
                clear hs q2
                go_wp2
                go_roundw
                case rel => exact ⟨j + 1, _, true, true, by omega, by go_num, rfl, rfl, Lib.hid (by rw [HN.out, HNT.out]; try rfl), Lib.hid (by rw [HI.out]; rfl), rfl⟩
                case measure => simp [intOf]; omega
              · rw [hs] at q2
                simp only [if_false, Bool.false_eq_true] at q2
                cases hs0 : sg t <;> rw [hs0] at q1 <;> simp only [if_true, if_false, Bool.false_eq_true] at q1
                · clear hs hs0
                  go_wp2
                  go_roundw
                  case rel => exact ⟨j + 1, _, true, true, by omega, by go_num, rfl, rfl, Lib.hid (by rw [HN.out, HNT.out]; try rfl), Lib.hid (by rw [HI.out]; rfl), rfl⟩
                  case measure => simp [intOf]; omega
                · clear hs hs0
                  go_wp2
                  go_roundw
                  case rel => exact ⟨j + 1, _, true, true, by omega, by go_num, rfl, rfl, Lib.hid (by rw [HN.out, HNT.out]; try rfl), Lib.hid (by rw [HI.out]; rfl), rfl⟩
                  case measure => simp [intOf]; omega
            · have c1 := Bool.eq_false_iff.2 c1
              go_wp2
              go_roundw
              case rel => exact ⟨j + 1, _, true, true, by omega, by go_num, rfl, rfl, Lib.hid (by rw [HN.out, HNT.out]; try rfl), Lib.hid (by rw [HI.out]; rfl), rfl⟩
              case measure => simp [intOf]; omega
          · have c0 := Bool.eq_false_iff.2 c0
            go_wp2
            go_roundw
            case rel => exact ⟨j + 1, _, true, true, by omega, by go_num, rfl, rfl, Lib.hid (by rw [HN.out, HNT.out]; try rfl), Lib.hid (by rw [HI.out]; rfl), rfl⟩
            case measure => simp [intOf]; omega
    · have : j = L.length := by omega
      subst this
      rw [List.take_length] at hnb hib
      cases hn : L.any isNB
      · rw [hn] at hnb
        have hnb0 := hnb.out
        subst hnb0
        have hgl := gr_all L HL.out hn
        have hzg := HZ.out.num hn
        have hpn : (A ++ B).any isNB = false := by rw [← HLE.out]; exact hn
        have hpl : ∀ x ∈ A ++ B, x < 18446744073709551616 := by rw [← HLE.out]; exact HL.out
        have hpn' := hpn
        rw [List.any_append, Bool.or_eq_false_iff] at hpn'
        have hxg := HX.out.num hpn'.1
        have hyg := HY.out.num hpn'.2
        have hpp := gr_parts hpl hpn
        rw [← HLE.out, ← hzg, ← hxg, ← hyg] at hpp
        obtain ⟨pz, pa, pb, na, nb⟩ := hpp
        have hibT : ib = true := by
          rw [hib.out]
          by_cases h0 : L.length = 0
          · rw [decide_eq_true h0]; rfl
          · have hm := gr_mem HL.out hn (fun h => h0 (by rw [h]; rfl))
            rw [Bool.or_eq_true]
            right
            refine List.any_eq_true.2 ⟨_, hm, ?_⟩
            rw [hzg]; exact alike_self _
        subst hibT
        have oz : L.length = 0 → (fD.order z 18318360957983683996 == some Ordering.lt) = true := by
          intro h0
          have : L = [] := List.length_eq_zero_iff.1 h0
          rw [hzg, this]
          decide
        have OZ := Lib.hid oz
        have PZ := Lib.hid pz
        have OA : z = x → (fD.order y x == some Ordering.gt) = false := fun h => by rw [h] at pb; exact order_gt_no nb na pb
        have OB : z = y → (fD.order x y == some Ordering.gt) = false := fun h => by rw [h] at pa; exact order_gt_no na nb pa
        have HOA := Lib.hid OA
        have HOB := Lib.hid OB
        have HBD : Hid (Below w.heap.size w (w5.drewN q)) := Lib.hid (below_drewN HB5.out _)
        have HSZ : Hid (w.heap.size ≤ (w5.drewN q).heap.size) := Lib.hid HBD.out.size
        clear hn hgl hzg hpn hpl hpn' hxg hyg pz pa pb na nb oz OA OB hnb hib
        generalize w5.drewN q = w6 at HBD HSZ ⊢
        by_cases h0 : L.length = 0
        · have oz := OZ.out h0
          cases hb1 : alikeB z x
          · have hzy : z = y := by
              rcases PZ.out with h | h
              · rw [h, alike_self] at hb1; cases hb1
              · exact h
            have o5 := HOB.out hzy
            have HS1 := Lib.hid hb1
            have HS2 : Hid (alikeB z y = true) := Lib.hid (by rw [hzy]; exact alike_self _)
            clear hb1 hzy
            go_wp2_with fail
            refine (same_any _ _ _).mono ?_
            rw [HS1.out]
            rintro e w8 ⟨rfl, rfl⟩
            go_wp2_with fail
            refine (same_any _ _ _).mono ?_
            rw [HS2.out]
            rintro e w9 ⟨rfl, rfl⟩
            go_wp2_with fail
            refine (known_any _).mono ?_
            rintro e w7 ⟨rfl, hb7⟩
            have hb8 : Below w.heap.size w w7 := HBD.out.trans (hb7.mono HSZ.out)
            go_wp2_with fail
            go_ret
            exact ⟨rfl, hb8⟩
          · have HS1 := Lib.hid hb1
            cases hg : (fD.order y x == some Ordering.gt)
            · clear hb1
              go_wp2_with fail
              refine (same_any _ _ _).mono ?_
              rw [HS1.out]
              rintro e w8 ⟨rfl, rfl⟩
              go_wp2_with fail
              refine (known_any _).mono ?_
              rintro e w7 ⟨rfl, hb7⟩
              have hb8 : Below w.heap.size w w7 := HBD.out.trans (hb7.mono HSZ.out)
              go_wp2_with fail
              go_ret
              exact ⟨rfl, hb8⟩
            · have hzy : z = y := by
                rcases PZ.out with h | h
                · have := HOA.out h; rw [this] at hg; cases hg
                · exact h
              have o5 := HOB.out hzy
              have HS2 : Hid (alikeB z y = true) := Lib.hid (by rw [hzy]; exact alike_self _)
              clear hb1 hzy
              go_wp2_with fail
              refine (same_any _ _ _).mono ?_
              rw [HS1.out]
              rintro e w8 ⟨rfl, rfl⟩
              go_wp2_with fail
              refine (same_any _ _ _).mono ?_
              rw [HS2.out]
              rintro e w9 ⟨rfl, rfl⟩
              go_wp2_with fail
              refine (known_any _).mono ?_
              rintro e w7 ⟨rfl, hb7⟩
              have hb8 : Below w.heap.size w w7 := HBD.out.trans (hb7.mono HSZ.out)
              go_wp2_with fail
              go_ret
              exact ⟨rfl, hb8⟩
        · cases hb1 : alikeB z x
          · have hzy : z = y := by
              rcases PZ.out with h | h
              · rw [h, alike_self] at hb1; cases hb1
              · exact h
            have o5 := HOB.out hzy
            have HS1 := Lib.hid hb1
            have HS2 : Hid (alikeB z y = true) := Lib.hid (by rw [hzy]; exact alike_self _)
            clear hb1 hzy
            go_wp2_with fail
            refine (same_any _ _ _).mono ?_
            rw [HS1.out]
            rintro e w8 ⟨rfl, rfl⟩
            go_wp2_with fail
            refine (same_any _ _ _).mono ?_
            rw [HS2.out]
            rintro e w9 ⟨rfl, rfl⟩
            go_wp2_with fail
            refine (known_any _).mono ?_
            rintro e w7 ⟨rfl, hb7⟩
            have hb8 : Below w.heap.size w w7 := HBD.out.trans (hb7.mono HSZ.out)
            go_wp2_with fail
            go_ret
            exact ⟨rfl, hb8⟩
          · have HS1 := Lib.hid hb1
            cases hg : (fD.order y x == some Ordering.gt)
            · clear hb1
              go_wp2_with fail
              refine (same_any _ _ _).mono ?_
              rw [HS1.out]
              rintro e w8 ⟨rfl, rfl⟩
              go_wp2_with fail
              refine (known_any _).mono ?_
              rintro e w7 ⟨rfl, hb7⟩
              have hb8 : Below w.heap.size w w7 := HBD.out.trans (hb7.mono HSZ.out)
              go_wp2_with fail
              go_ret
              exact ⟨rfl, hb8⟩
            · have hzy : z = y := by
                rcases PZ.out with h | h
                · have := HOA.out h; rw [this] at hg; cases hg
                · exact h
              have o5 := HOB.out hzy
              have HS2 : Hid (alikeB z y = true) := Lib.hid (by rw [hzy]; exact alike_self _)
              clear hb1 hzy
              go_wp2_with fail
              refine (same_any _ _ _).mono ?_
              rw [HS1.out]
              rintro e w8 ⟨rfl, rfl⟩
              go_wp2_with fail
              refine (same_any _ _ _).mono ?_
              rw [HS2.out]
              rintro e w9 ⟨rfl, rfl⟩
              go_wp2_with fail
              refine (known_any _).mono ?_
              rintro e w7 ⟨rfl, hb7⟩
              have hb8 : Below w.heap.size w w7 := HBD.out.trans (hb7.mono HSZ.out)
              go_wp2_with fail
              go_ret
              exact ⟨rfl, hb8⟩
      · rw [hn] at hnb
        have hnb0 := hnb.out
        subst hnb0
        have oz : (fD.order z z != some Ordering.eq) = true := by rw [order_nan1 z (HZ.out.nan hn)]; rfl
        have HBD : Hid (Below w.heap.size w (w5.drewN q)) := Lib.hid (below_drewN HB5.out _)
        have HSZ : Hid (w.heap.size ≤ (w5.drewN q).heap.size) := Lib.hid HBD.out.size
        clear hn
        go_wp2_with fail
        refine (known_any _).mono ?_
        rintro e w7 ⟨rfl, hb7⟩
        have hb8 : Below w.heap.size w w7 := HBD.out.trans (hb7.mono HSZ.out)
        go_wp2_with fail
        go_ret
        exact ⟨rfl, hb8⟩
end Go.Proofs.Yticaheiomidanaa
