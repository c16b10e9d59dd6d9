/- Walk of the law ScriptBack. -/
import Derived.Test.YticaheiomidanaaIN
namespace Go.Proofs.Yticaheiomidanaa
open Go.RowKit

theorem flat_get {α β : Type} {f : α → List β} {n : Nat} (hf : ∀ x, (f x).length = n) (l : List α) : ∀ (i : Nat) (x : α) (k : Nat), l[i]? = some x → k < n → (l.flatMap f)[i * n + k]? = (f x)[k]? := by
  induction l with
  | nil => intro i x k h; simp at h
  | cons y l ih =>
    intro i x k h hk
    rw [List.flatMap_cons]
    cases i with
    | zero =>
      obtain rfl : y = x := by simpa using h
      rw [Nat.zero_mul, Nat.zero_add, List.getElem?_append_left (by rw [hf]; exact hk)]
    | succ i =>
      rw [List.getElem?_append_right (by rw [hf, Nat.succ_mul]; omega), hf, show (i + 1) * n + k - n = i * n + k by rw [Nat.succ_mul]; omega]
      exact ih i x k (by simpa using h) hk
theorem own_room {w : World} {B : Nat} {e : TypeId} {s n cap : Nat} {ao : Option Addr} {xs : List Value} (h : w.ownsRow B e s (.slice ao n cap) n xs) : n ≤ cap := by
  obtain ⟨_, ⟨h1, h2⟩ | ⟨g, c, cur, h1, _, _, h3, _⟩⟩ := h
  · injection h1 with _ h1 h4; omega
  · injection h1 with _ h4 h5; omega

/-- a script that was read, in memory -/
theorem scAt_of {B : Nat} {x : ScD} {u : Value} {w : World} (h : scriptV B x u w) (h1 : ∀ s ∈ x.specs, okSp s) (h2 : ∀ s ∈ x.calls, okCa x.n s) (h3 : ∀ p ∈ x.picks, p ≤ 255)
    (l1 : x.specs.length ≤ 8) (l2 : x.calls.length ≤ 1000) (l3 : x.picks.length ≤ 65536) (hn : x.n ≤ 16) :
    ∃ s : Spots, u = scV x.toI s ∧ ScAt w x.toI s := by
  obtain ⟨vs, vc, vp, rfl, o1, o2, o3⟩ := h
  have r3 := o3
  obtain ⟨a1, g1, c1, rfl, p1, _, q1, k1⟩ := owns_open o1
  obtain ⟨a2, g2, c2, rfl, p2, _, q2, k2⟩ := owns_open o2
  obtain ⟨a3, g3, c3, rfl, p3, _, q3, k3⟩ := owns_open o3
  have e1 : x.toI.specs.length = x.specs.length := List.length_map ..
  have e2 : x.toI.calls.length = x.calls.length := List.length_map ..
  have e3 : x.toI.picks.length = x.picks.length := List.length_map ..
  refine ⟨⟨a1, g1, 0, c1, a2, g2, 0, c2, a3, g3, 0, c3⟩, ?_, ?_⟩
  · show scA x.n _ _ _ = .agg #[.int .i64 x.toI.n, .slice a1 x.toI.specs.length c1, .slice a2 x.toI.calls.length c2, .slice a3 x.toI.picks.length c3]
    rw [e1, e2, e3]; rfl
  · refine ⟨⟨by show (-9223372036854775808 : Int) ≤ (x.n : Int); omega, by show (x.n : Int) ≤ 9223372036854775807; omega⟩, by omega, by omega, by omega, by rw [e1]; exact p1, by rw [e2]; exact p2, by rw [e3]; exact p3, by rw [e1]; exact q1, by rw [e2]; exact q2, by rw [e3]; exact q3, by rw [e3]; exact own_room r3, ?_, ?_, ?_⟩
    · intro i y hy
      rw [show x.toI.specs = x.specs.map SpV.toI from rfl, List.getElem?_map, Option.map_eq_some_iff] at hy
      obtain ⟨s, hs, rfl⟩ := hy
      obtain ⟨b1, b2, b3⟩ := h1 s (List.mem_of_getElem? hs)
      have hg := fun k hk => flat_get (f := SpV.cells) (n := 3) (fun _ => rfl) x.specs i s k hs hk
      refine ⟨?_, ?_, ?_, ⟨?_, ?_⟩, ⟨?_, ?_⟩, ⟨?_, ?_⟩⟩
      · rw [Nat.zero_add]; exact k1 (i * 3 + 0) _ (hg 0 (by decide))
      · rw [Nat.zero_add]; exact k1 (i * 3 + 1) _ (hg 1 (by decide))
      · rw [Nat.zero_add]; exact k1 (i * 3 + 2) _ (hg 2 (by decide))
      all_goals (simp only [SpV.toI]; omega)
    · intro i y hy
      rw [show x.toI.calls = x.calls.map CaV.toI from rfl, List.getElem?_map, Option.map_eq_some_iff] at hy
      obtain ⟨s, hs, rfl⟩ := hy
      obtain ⟨b1, b2, b3, b4, b5, b6⟩ := h2 s (List.mem_of_getElem? hs)
      have hg := fun k hk => flat_get (f := CaV.cells) (n := 6) (fun _ => rfl) x.calls i s k hs hk
      refine ⟨?_, ?_, ?_, ?_, ?_, ?_, ⟨⟨?_, ?_⟩, ⟨?_, ?_⟩, ⟨?_, ?_⟩⟩, b4, b5, b6⟩
      · rw [Nat.zero_add]; exact k2 (i * 6 + 0) _ (hg 0 (by decide))
      · rw [Nat.zero_add]; exact k2 (i * 6 + 1) _ (hg 1 (by decide))
      · rw [Nat.zero_add]; exact k2 (i * 6 + 2) _ (hg 2 (by decide))
      · rw [Nat.zero_add]; exact k2 (i * 6 + 3) _ (hg 3 (by decide))
      · rw [Nat.zero_add]; exact k2 (i * 6 + 4) _ (hg 4 (by decide))
      · rw [Nat.zero_add]; exact k2 (i * 6 + 5) _ (hg 5 (by decide))
      all_goals (simp only [CaV.toI]; omega)
    · intro i y hy
      rw [show x.toI.picks = x.picks.map (fun p : Nat => (p : Int)) from rfl, List.getElem?_map, Option.map_eq_some_iff] at hy
      obtain ⟨p, hp, rfl⟩ := hy
      have := h3 p (List.mem_of_getElem? hp)
      refine ⟨?_, by omega, by omega⟩
      rw [Nat.zero_add]
      exact k3 i (inV p) (by rw [List.getElem?_map, hp]; rfl)

set_option maxHeartbeats 2000000 in
set_option maxRecDepth 100000 in
theorem back_walk (ao : Option Addr) (b o c : Nat) (L : List Nat) (w : World) (h0 : 0 < L.length → ao = some ⟨b, o, none⟩) (hb : 0 < L.length → b < w.heap.size) (hc : BCells w b o L) (hl : L.length ≤ 9223372036854775807) :
    Calls Try.prog 4 #[.slice ao L.length c] w fun e w' => e = .returned (.bool true) ∧ Below w.heap.size w w' := by
  by_cases hlong : 3000 < L.length
  · go_enter Try.func4, Try.ntmps4
    go_wp2_with fail
    refine (three_any _).mono ?_
    rintro e w' ⟨rfl, hb⟩
    go_wp2_with fail
    go_ret
    exact ⟨rfl, hb⟩
  · have h5 : ∀ y ∈ L, y < 256 := fun y hy => by obtain ⟨i, hi⟩ := List.mem_iff_getElem?.1 hy; exact (hc i y hi).2
    have HD := Lib.hid (decode_any ao b o c L w h0 hb hc (by omega))
    have H5 := Lib.hid h5
    have H0 := Lib.hid h0
    have HB := Lib.hid hb
    have HC := Lib.hid hc
    clear h5 h0 hb hc
    go_enter Try.func4, Try.ntmps4
    go_wp2_with fail
    refine HD.out.mono ?_
    rintro e w1 ⟨hb1, hm⟩
    have HB1 := Lib.hid hb1
    cases hp : pScript L with
    | none =>
      rw [hp] at hm
      obtain ⟨P, r, hP1, hP2, hr1, hr2, rfl⟩ := hm
      have d1 : (r == 0) = false := beq_false_of_ne (by omega)
      have d2 : decide (0 ≤ P) = true := decide_eq_true hP1
      have d3 : decide (P ≤ (L.length : Int)) = true := decide_eq_true hP2
      have HB2 := Lib.hid (hb1.alloc hb1.size (.cells #[.int .i64 ((0 : Nat) : Int), nilV, nilV, nilV] 26))
      clear hp hb1
      go_upto_region 4 with fail
      generalize w1.alloc (.cells #[.int .i64 ((0 : Nat) : Int), nilV, nilV, nilV] 26) = W2 at HB2 ⊢
      go_wp2_with fail
      refine (three_any _).mono ?_
      rintro e w3 ⟨rfl, hb3⟩
      have hb4 := HB2.out.trans (hb3.mono HB2.out.size)
      go_wp2_with fail
      go_ret
      exact ⟨rfl, hb4⟩
    | some q =>
      obtain ⟨x, rr⟩ := q
      rw [hp] at hm
      obtain ⟨u, rfl, hu⟩ := hm
      obtain ⟨henc, hwr, oks, okc, okp, l1, l2, l3, hn1, hn2⟩ := read_back H5.out hp
      obtain ⟨s, rfl, hat⟩ := scAt_of hu oks okc okp l1 l2 l3 hn2
      have hk := heap_new w1 (.cells #[.int .i64 x.toI.n, .slice s.sa x.toI.specs.length s.sc, .slice s.ca x.toI.calls.length s.cc, .slice s.pa x.toI.picks.length s.pc] 26)
      have hb2 := hb1.alloc hb1.size (.cells #[.int .i64 x.toI.n, .slice s.sa x.toI.specs.length s.sc, .slice s.ca x.toI.calls.length s.cc, .slice s.pa x.toI.picks.length s.pc] 26)
      have hat2 := hat.stays ((Below.refl _ _).alloc (Nat.le_refl _) (.cells #[.int .i64 x.toI.n, .slice s.sa x.toI.specs.length s.sc, .slice s.ca x.toI.calls.length s.cc, .slice s.pa x.toI.picks.length s.pc] 26))
      have HK := Lib.hid hk
      have HB2 := Lib.hid hb2
      have HE := Lib.hid henc
      have HEN := Lib.hid (encode_ok x.toI s _ hat2 hwr)
      clear hp hb1 hu oks okc okp l1 l2 l3 hn1 hn2 hat hk hb2 hat2 henc hwr
      generalize x.toI = xi at HK HB2 HE HEN ⊢
      obtain ⟨n, specs, calls, picks⟩ := xi
      obtain ⟨sa, sb, so, sc, ca, cb, co, cc, pa, pb, po, pc⟩ := s
      dsimp only at HK HB2 HE HEN ⊢
      go_upto_region 4 with fail
      generalize w1.alloc (.cells #[.int .i64 n, .slice sa specs.length sc, .slice ca calls.length cc, .slice pa picks.length pc] 26) = W2 at HK HB2 HEN ⊢
      have q0 := cell_of_heap HK.out (k := 0) (v := .int .i64 n) rfl
      have q1 := cell_of_heap HK.out (k := 1) (v := .slice sa specs.length sc) rfl
      have q2 := cell_of_heap HK.out (k := 2) (v := .slice ca calls.length cc) rfl
      have q3 := cell_of_heap HK.out (k := 3) (v := .slice pa picks.length pc) rfl
      go_wp2_with fail
      refine HEN.out.mono ?_
      rintro e W3 ⟨v, rfl, ho, hb3⟩
      rw [HE.out] at ho
      obtain ⟨av, gv, cv, rfl, hav, hgv, hcv⟩ := bown_cells ho H5.out
      have HB3 := Lib.hid (HB2.out.trans (hb3.mono HB2.out.size))
      have hst := str_of W3 av gv 0 cv L hav hcv
      have hst2 := str_of W3 ao b o c L H0.out (HC.out.stays HB3.out HB.out)
      generalize strOfNums (L.map (fun x : Nat => (x : Int))) = S at hst hst2
      clear q0 q1 q2 q3 ho hav hgv hcv hb3
      go_wp2_with fail
      refine (three_any _).mono ?_
      rintro e w5 ⟨rfl, hb5⟩
      have hb6 := HB3.out.trans (hb5.mono HB3.out.size)
      go_wp2_with fail
      go_ret
      exact ⟨rfl, hb6⟩
end Go.Proofs.Yticaheiomidanaa
