/- Walk of Encode. -/
import Derived.Test.YticaheiomidanaaIJ
import Derived.Deep.Cut
namespace Go.Proofs.Yticaheiomidanaa
open Go.RowKit

def specL (x : SpI) : List Nat := x.k.toNat :: (pairL x.p.toNat ++ pairL x.q.toNat)
def callL (x : CaI) : List Nat := [x.t.toNat, x.o.toNat, x.k.toNat] ++ varF 9 x.a ++ varF 9 x.b ++ varF 9 x.c
/-- a script's bytes -/
def encL (x : ScI) : List Nat := [x.n.toNat, x.specs.length] ++ x.specs.flatMap specL ++ pairL x.calls.length ++ x.calls.flatMap callL ++ refR 0 x.picks

theorem own_built {base : Nat} {e : TypeId} {size n : Nat} (w : World) (us : List Value) (hb : base ≤ w.heap.size) (hm : n ≤ maxLen) (hl : us.length = n * size) :
    (w.alloc (.cells us.toArray e)).ownsRow base e size (.slice (some ⟨w.heap.size, 0, none⟩) n n) n us :=
  ⟨hl, .inr ⟨w.heap.size, n, us.toArray, rfl, hb, heap_alloc_new w _, Nat.le_refl _, hm, by simpa using hl, by simp [← hl]⟩⟩
/-- a block of one struct, as a row -/
def SpB (w : World) (g : Nat) (k p q : Int) : Prop := w.ownsRow 0 62 3 (.slice (some ⟨g, 0, none⟩) 1 1) 1 [.int .i64 k, .int .i64 p, .int .i64 q]
theorem row_at {w : World} {B g : Nat} {e : TypeId} {s n c : Nat} {xs : List Value} (h : w.ownsRow B e s (.slice (some ⟨g, 0, none⟩) n c) n xs) (h0 : 0 < n) : ∀ i u, xs[i]? = some u → w.cell? ⟨g, i, none⟩ = some u := by
  obtain ⟨ao, g', cap, hv, ha, _, _, hc⟩ := owns_open h
  have h1 := ha h0
  injection hv with h2 h3 h4
  rw [h1] at h2
  injection h2 with h2
  injection h2 with h2
  subst h2
  exact hc
theorem SpB.new (w : World) (k p q : Int) : SpB (w.alloc (.cells #[.int .i64 k, .int .i64 p, .int .i64 q] 62)) w.heap.size k p q :=
  own_built (base := 0) (e := 62) (size := 3) (n := 1) w [.int .i64 k, .int .i64 p, .int .i64 q] (Nat.zero_le _) (by unfold maxLen; omega) rfl
theorem SpB.keep {w w' : World} {g : Nat} {k p q : Int} (h : SpB w g k p q) (hk : Keeps 5 w w') : SpB w' g k p q := hk _ _ _ _ _ _ (by decide) h
theorem SpB.cells {w : World} {g : Nat} {k p q : Int} (h : SpB w g k p q) : w.cell? ⟨g, 0, none⟩ = some (.int .i64 k) ∧ w.cell? ⟨g, 1, none⟩ = some (.int .i64 p) ∧ w.cell? ⟨g, 2, none⟩ = some (.int .i64 q) :=
  ⟨row_at h (by decide) 0 _ rfl, row_at h (by decide) 1 _ rfl, row_at h (by decide) 2 _ rfl⟩
def CaB (w : World) (g : Nat) (t o k a b c : Int) : Prop := w.ownsRow 0 66 6 (.slice (some ⟨g, 0, none⟩) 1 1) 1 [.int .i64 t, .int .i64 o, .int .i64 k, .int .u64 a, .int .u64 b, .int .u64 c]
theorem CaB.new (w : World) (t o k a b c : Int) : CaB (w.alloc (.cells #[.int .i64 t, .int .i64 o, .int .i64 k, .int .u64 a, .int .u64 b, .int .u64 c] 66)) w.heap.size t o k a b c :=
  own_built (base := 0) (e := 66) (size := 6) (n := 1) w [.int .i64 t, .int .i64 o, .int .i64 k, .int .u64 a, .int .u64 b, .int .u64 c] (Nat.zero_le _) (by unfold maxLen; omega) rfl
theorem CaB.keep {w w' : World} {g : Nat} {t o k a b c : Int} (h : CaB w g t o k a b c) (hk : Keeps 5 w w') : CaB w' g t o k a b c := hk _ _ _ _ _ _ (by decide) h
theorem CaB.cells {w : World} {g : Nat} {t o k a b c : Int} (h : CaB w g t o k a b c) : w.cell? ⟨g, 0, none⟩ = some (.int .i64 t) ∧ w.cell? ⟨g, 1, none⟩ = some (.int .i64 o) ∧ w.cell? ⟨g, 2, none⟩ = some (.int .i64 k) ∧
    w.cell? ⟨g, 3, none⟩ = some (.int .u64 a) ∧ w.cell? ⟨g, 4, none⟩ = some (.int .u64 b) ∧ w.cell? ⟨g, 5, none⟩ = some (.int .u64 c) :=
  ⟨row_at h (by decide) 0 _ rfl, row_at h (by decide) 1 _ rfl, row_at h (by decide) 2 _ rfl, row_at h (by decide) 3 _ rfl, row_at h (by decide) 4 _ rfl, row_at h (by decide) 5 _ rfl⟩

theorem wth_get {most : Int} {l : List Int} (h : wth most l = true) : ∀ x ∈ l, 0 ≤ x ∧ x ≤ most := fun x hx => by
  have := List.all_eq_true.1 h x hx
  rw [Bool.and_eq_true, decide_eq_true_iff, decide_eq_true_iff] at this
  exact this
theorem varF_len (f x : Nat) : (varF f x).length ≤ f + 1 := by
  induction f generalizing x with
  | zero => simp [varF]
  | succ f ih =>
    rw [varF]
    split
    · have := ih (x / 128); simp; omega
    · simp
theorem drop_flat {α : Type} {l : List α} {f : α → List Nat} {j : Nat} {x : α} (h : l[j]? = some x) : (l.drop j).flatMap f = f x ++ (l.drop (j + 1)).flatMap f := by
  have hl := (List.getElem?_eq_some_iff.1 h).1
  rw [List.drop_eq_getElem_cons hl, List.flatMap_cons]
  rw [List.getElem?_eq_getElem hl, Option.some.injEq] at h
  rw [h]
/-- what a script that is right has -/
theorem right_parts {x : ScI} (h : wrong x = 0) : (1 ≤ x.n ∧ x.n ≤ 16) ∧ x.specs.length ≤ 8 ∧ x.calls.length ≤ 1000 ∧ x.picks.length ≤ 65536 ∧
    (∀ y ∈ x.specs, (0 ≤ y.k ∧ y.k ≤ 255) ∧ (0 ≤ y.p ∧ y.p ≤ 65535) ∧ (0 ≤ y.q ∧ y.q ≤ 65535)) ∧ (∀ y ∈ x.calls, (0 ≤ y.t ∧ y.t < x.n) ∧ (0 ≤ y.o ∧ y.o ≤ 255) ∧ (0 ≤ y.k ∧ y.k ≤ 255)) ∧ ∀ y ∈ x.picks, 0 ≤ y ∧ y ≤ 255 := by
  unfold wrong at h
  by_cases h1 : x.n < 1 ∨ 16 < x.n
  · rw [if_pos h1] at h; cases h
  rw [if_neg h1] at h
  by_cases h2 : 8 < x.specs.length ∨ 1000 < x.calls.length ∨ 65536 < x.picks.length
  · rw [if_pos h2] at h; cases h
  rw [if_neg h2] at h
  by_cases h3 : room x = false
  · rw [if_pos h3] at h; cases h
  have h3 : room x = true := by simpa using h3
  unfold room at h3
  rw [Bool.and_eq_true, Bool.and_eq_true] at h3
  refine ⟨by omega, by omega, by omega, by omega, ?_, ?_, wth_get h3.2⟩
  · intro y hy
    have := List.all_eq_true.1 h3.1.1 y hy
    unfold okS at this
    rw [Bool.and_eq_true] at this
    exact ⟨wth_get this.1 _ (by simp), wth_get this.2 _ (by simp), wth_get this.2 _ (by simp)⟩
  · intro y hy
    have := List.all_eq_true.1 h3.1.2 y hy
    unfold okC at this
    rw [Bool.and_eq_true] at this
    have h4 := wth_get this.1 y.t (by simp)
    exact ⟨by omega, wth_get this.2 _ (by simp), wth_get this.2 _ (by simp)⟩

set_option maxHeartbeats 400000 in
set_option maxRecDepth 100000 in
theorem encode_bad (x : ScI) (s : Spots) (w : World) (h : ScAt w x s) (hw : wrong x ≠ 0) :
    Calls Try.prog 10 #[scV x s] w fun e w' => e = .returned (.tuple #[.slice none 0 0, .int .i64 (wrong x)]) ∧ Below w.heap.size w w' := by
  have hb0 : Below w.heap.size w (w.alloc (.cells #[.int .i64 x.n, .slice s.sa x.specs.length s.sc, .slice s.ca x.calls.length s.cc, .slice s.pa x.picks.length s.pc] 26)) := (Below.refl _ _).alloc (Nat.le_refl _) _
  have HB0 := Lib.hid hb0
  have HC := Lib.hid (check_any x s _ (h.stays hb0))
  have hne : (wrong x == 0) = false := beq_false_of_ne hw
  generalize wrong x = e0 at HC hne ⊢
  clear h hb0 hw
  obtain ⟨n, specs, calls, picks⟩ := x
  obtain ⟨sa, sb, so, sc, ca, cb, co, cc, pa, pb, po, pc⟩ := s
  dsimp only at *
  go_enter Try.func10, Try.ntmps10
  go_wp2_with fail
  refine HC.out.mono ?_
  rintro e w1 ⟨rfl, hb⟩
  have HB1 := Lib.hid (HB0.out.trans (hb.mono HB0.out.size))
  clear hb
  go_wp2_with fail
  refine bodyPost_ret (v := .tuple #[.slice none 0 0, .int .i64 e0]) (by simp [results, Try.results10, go_sem]) rfl ⟨rfl, HB1.out⟩

set_option maxHeartbeats 4000000 in
set_option maxRecDepth 100000 in
theorem encode_ok (x : ScI) (s : Spots) (w : World) (h : ScAt w x s) (hw : wrong x = 0) :
    Calls Try.prog 10 #[scV x s] w fun e w' => ∃ v, e = .returned (.tuple #[v, .int .i64 0]) ∧ BOwn w' w.heap.size v (encL x) ∧ Below w.heap.size w w' := by
  obtain ⟨iI, ia, ib, ic, id⟩ := info_parts infoB
  have hb0 : Below w.heap.size w (w.alloc (.cells #[.int .i64 x.n, .slice s.sa x.specs.length s.sc, .slice s.ca x.calls.length s.cc, .slice s.pa x.picks.length s.pc] 26)) := (Below.refl _ _).alloc (Nat.le_refl _) _
  have HB0 := Lib.hid hb0
  have hc := check_any x s _ (h.stays hb0)
  rw [hw] at hc
  have HC := Lib.hid hc
  have HN0 := Lib.hid (heap_new w (.cells #[.int .i64 x.n, .slice s.sa x.specs.length s.sc, .slice s.ca x.calls.length s.cc, .slice s.pa x.picks.length s.pc] 26))
  obtain ⟨⟨hn1, hn2⟩, hl1, hl2, hl3, hr1, hr2, hr3⟩ := right_parts hw
  have HR1 := Lib.hid hr1
  have HR2 := Lib.hid hr2
  have HR3 := Lib.hid hr3
  have HH := Lib.hid h
  clear h hb0 hw hc hr1 hr2 hr3
  obtain ⟨n, specs, calls, picks⟩ := x
  obtain ⟨sa, sb, so, sc, ca, cb, co, cc, pa, pb, po, pc⟩ := s
  dsimp only at *
  have HA1 : Hid (0 < specs.length → sa = some ⟨sb, so, none⟩) := Lib.hid HH.out.a1
  have HA2 : Hid (0 < calls.length → ca = some ⟨cb, co, none⟩) := Lib.hid HH.out.a2
  have HA3 : Hid (0 < picks.length → pa = some ⟨pb, po, none⟩) := Lib.hid HH.out.a3
  have HC1 : Hid (∀ wr, Below w.heap.size w wr → SpAt wr sb so specs) := Lib.hid (fun wr hb => HH.out.c1.stays hb HH.out.b1)
  have HC2 : Hid (∀ wr, Below w.heap.size w wr → CaAt wr cb co calls) := Lib.hid (fun wr hb => HH.out.c2.stays hb HH.out.b2)
  have HC3 : Hid (∀ wr, Below w.heap.size w wr → ICells wr pb po picks) := Lib.hid (fun wr hb => HH.out.c3.stays hb HH.out.b3)
  have HP3 : Hid (0 < picks.length → pb < w.heap.size) := Lib.hid HH.out.b3
  have HPR : Hid (picks.length ≤ pc) := Lib.hid HH.out.r3
  clear HH
  obtain ⟨nn, rfl⟩ : ∃ k : Nat, n = k := ⟨n.toNat, by omega⟩
  go_enter Try.func10, Try.ntmps10
  go_wp2_with fail
  refine HC.out.mono ?_
  rintro e w1 ⟨rfl, hb⟩
  have hlt0 := lt_of_heap HN0.out
  have hn1' := (hb.block w.heap.size hlt0).trans HN0.out
  have HN1 := Lib.hid hn1'
  have HB1 := Lib.hid (HB0.out.trans (hb.mono HB0.out.size))
  have q0 := cell_of_heap hn1' (k := 0) (v := .int .i64 (nn : Int)) rfl
  have q1 := cell_of_heap hn1' (k := 1) (v := .slice sa specs.length sc) rfl
  have hlt1 := lt_of_heap hn1'
  have HO0 : Hid (BOwn (w1.alloc (.cells #[bV nn, bV specs.length] 5)) w1.heap.size (.slice (some ⟨w1.heap.size, 0, none⟩) 2 2) [nn, specs.length]) := Lib.hid
    (own_built (base := w1.heap.size) (e := 5) (size := 1) (n := 2) w1 [bV nn, bV specs.length] (Nat.le_refl _) (by unfold maxLen; omega) rfl)
  have HBL0 : Hid (Below w1.heap.size w1 (w1.alloc (.cells #[bV nn, bV specs.length] 5))) := Lib.hid ((Below.refl _ _).alloc (Nat.le_refl _) _)
  clear hb hn1'
  go_upto_region 5 with fail
  generalize hW2 : w1.alloc (.cells #[.int .u8 (nn : Int), .int .u8 (specs.length : Int)] 5) = W2
  have HO0' : Hid (BOwn W2 w1.heap.size (.slice (some ⟨w1.heap.size, 0, none⟩) 2 2) [nn, specs.length]) := Lib.hid (by rw [← hW2]; exact HO0.out)
  have HBL0' : Hid (Below w1.heap.size w1 W2) := Lib.hid (by rw [← hW2]; exact HBL0.out)
  have q1' : W2.cell? ⟨w.heap.size, 1, none⟩ = some (.slice sa specs.length sc) := (HBL0'.out.cell (p := ⟨w.heap.size, 1, none⟩) hlt1).trans q1
  clear hW2 HO0 HBL0 q0
  have HWW : Hid (w.heap.size ≤ w1.heap.size) := Lib.hid HB1.out.size
  go_wp2
  go_loopw [5, 26] (fun u k wr => ∃ (j : Nat) (out : List Nat), j ≤ specs.length ∧ k = .int .i64 j ∧ Hid (out.length = 2 + 5 * j) ∧ Hid (BOwn wr w1.heap.size u out) ∧ Hid (Below w1.heap.size w1 wr) ∧ Hid (out ++ (specs.drop j).flatMap specL = [nn, specs.length] ++ specs.flatMap specL)) (fun _ k _ => specs.length - (intOf k).toNat)
  case atStart => exact ⟨0, [nn, specs.length], Nat.zero_le _, rfl, Lib.hid rfl, HO0', HBL0', Lib.hid rfl⟩
  case round =>
    obtain ⟨j, out, hj, rfl, hol, hown, hbl, hp⟩ := hrel
    have HBW := Lib.hid (HB1.out.trans (hbl.out.mono HWW.out))
    by_cases hlt : j < specs.length
    · obtain rfl := HA1.out (by omega)
      obtain ⟨y, hy⟩ : ∃ y, specs[j]? = some y := ⟨specs[j], List.getElem?_eq_getElem (by omega)⟩
      obtain ⟨c0, c1, c2, -⟩ := (HC1.out wr HBW.out) j y hy
      obtain ⟨⟨h1, h2⟩, ⟨h3, h4⟩, h5, h6⟩ := HR1.out y (List.mem_of_getElem? hy)
      have hq := drop_flat (f := specL) hy
      rw [hq] at hp
      clear hy hq
      obtain ⟨yk, yp, yq⟩ := y
      dsimp only at *
      obtain ⟨kn, rfl⟩ : ∃ k : Nat, yk = k := ⟨yk.toNat, by omega⟩
      obtain ⟨pn, rfl⟩ : ∃ k : Nat, yp = k := ⟨yp.toNat, by omega⟩
      obtain ⟨qn, rfl⟩ : ∃ k : Nat, yq = k := ⟨yq.toNat, by omega⟩
      have HS0 := Lib.hid (SpB.new wr kn pn qn)
      have HO1 := Lib.hid (hown.out.alloc (.cells #[.int .i64 (kn : Int), .int .i64 (pn : Int), .int .i64 (qn : Int)] 62))
      have HBL1 := Lib.hid (hbl.out.alloc hbl.out.size (.cells #[.int .i64 (kn : Int), .int .i64 (pn : Int), .int .i64 (qn : Int)] 62))
      go_upto_region 8 with fail
      generalize wr.alloc (.cells #[.int .i64 (kn : Int), .int .i64 (pn : Int), .int .i64 (qn : Int)] 62) = W3 at HS0 HO1 HBL1 ⊢
      clear c0 c1 c2
      obtain ⟨c0, -, -⟩ := HS0.out.cells
      have HL : Hid (out.length + 1 ≤ 4294967296) := Lib.hid (by have := hol.out; omega)
      have HSZ := Lib.hid HBL1.out.size
      go_wp2_with (at_builtin; refine append_laid rfl _ _ 28 rfl w1.heap.size 5 iI (.int .u8 0) 1 1 Try.underlying28 ia ib ic id rfl (by decide) (by decide) _ out.length (out.map bV) rfl HO1.out 1 (by decide) [bV kn] rfl rfl rfl HL.out HSZ.out ?_)
      intro v1 W4 ho4 hb4 hk4
      have HO4 : Hid (BOwn W4 w1.heap.size v1 (out ++ [kn])) := Lib.hid (BOwn.app ho4 rfl)
      have HBL4 := Lib.hid (HBL1.out.trans hb4)
      have HS4 := Lib.hid (HS0.out.keep hk4)
      obtain ⟨-, c1, -⟩ := HS4.out.cells
      clear ho4 hb4 hk4 c0
      go_wp2_with fail
      refine (appendPair_any w1.heap.size v1 (out ++ [kn]) pn W4 HO4.out (by omega) (by rw [List.length_append]; have := hol.out; simp; omega) HBL4.out.size).mono ?_
      rintro e W5 ⟨v2, rfl, ho5, hb5, hk5⟩
      have HO5 := Lib.hid ho5
      have HBL5 := Lib.hid (HBL4.out.trans hb5)
      have HS5 := Lib.hid (HS4.out.keep hk5)
      obtain ⟨-, -, c2⟩ := HS5.out.cells
      clear ho5 hb5 hk5 c1
      go_wp2_with fail
      refine (appendPair_any w1.heap.size v2 ((out ++ [kn]) ++ pairL pn) qn W5 HO5.out (by omega) (by rw [List.length_append, List.length_append]; have := hol.out; simp [pairL]; omega) HBL5.out.size).mono ?_
      rintro e W6 ⟨v3, rfl, ho6, hb6, hk6⟩
      have HO6 := Lib.hid ho6
      have HBL6 := Lib.hid (HBL5.out.trans hb6)
      clear ho6 hb6 hk6 c2
      go_wp2_with fail
      go_roundw
      case rel => exact ⟨j + 1, ((out ++ [kn]) ++ pairL pn) ++ pairL qn, by omega, by go_num, Lib.hid (by rw [List.length_append, List.length_append, List.length_append]; have := hol.out; simp [pairL]; omega), HO6, HBL6, Lib.hid (by
        rw [← hp.out]; simp [specL, List.append_assoc])⟩
      case measure => simp [intOf]; omega
    · have ES : Hid (out = [nn, specs.length] ++ specs.flatMap specL) := Lib.hid (by rw [← hp.out, show j = specs.length by omega, List.drop_length]; simp)
      clear hp
      have q2' : wr.cell? ⟨w.heap.size, 2, none⟩ = some (.slice ca calls.length cc) := (hbl.out.cell (p := ⟨w.heap.size, 2, none⟩) hlt1).trans (cell_of_heap HN1.out (k := 2) rfl)
      have hlw : w.heap.size < wr.heap.size := Nat.lt_of_lt_of_le hlt1 hbl.out.size
      go_wp2_with fail
      refine (appendPair_any w1.heap.size _ out calls.length wr hown.out (by omega) (by have := hol.out; omega) hbl.out.size).mono ?_
      rintro e W5 ⟨v2, rfl, ho5, hb5, -⟩
      have HO5 := Lib.hid ho5
      have HBL5 := Lib.hid (hbl.out.trans hb5)
      have q3' : W5.cell? ⟨w.heap.size, 2, none⟩ = some (.slice ca calls.length cc) := (HBL5.out.cell (p := ⟨w.heap.size, 2, none⟩) hlt1).trans (cell_of_heap HN1.out (k := 2) rfl)
      have hol5 : (out ++ pairL calls.length).length ≤ 100 := by rw [List.length_append]; have := hol.out; simp [pairL]; omega
      obtain ⟨out5, hout5⟩ : ∃ o5, o5 = out ++ pairL calls.length := ⟨_, rfl⟩
      rw [← hout5] at HO5 hol5
      have HE5 := Lib.hid hout5
      clear ho5 hb5 q2' hout5
      go_wp2
      go_loopw [5, 53] (fun u k wr => ∃ (i : Nat) (o5 : List Nat), i ≤ calls.length ∧ k = .int .i64 i ∧ Hid (o5.length ≤ 100 + 33 * i) ∧ Hid (BOwn wr w1.heap.size u o5) ∧ Hid (Below w1.heap.size w1 wr) ∧ Hid (o5 ++ (calls.drop i).flatMap callL = out5 ++ calls.flatMap callL)) (fun _ k _ => calls.length - (intOf k).toNat)
      case atStart => exact ⟨0, out5, Nat.zero_le _, rfl, Lib.hid (by omega), HO5, HBL5, Lib.hid rfl⟩
      case round =>
        obtain ⟨i, o5, hi, rfl, hl5, hown5, hbl5, hp5⟩ := hrel
        have HBX := Lib.hid (HB1.out.trans (hbl5.out.mono HWW.out))
        by_cases hlt5 : i < calls.length
        · obtain rfl := HA2.out (by omega)
          obtain ⟨y, hy⟩ : ∃ y, calls[i]? = some y := ⟨calls[i], List.getElem?_eq_getElem (by omega)⟩
          obtain ⟨c0, c1, c2, c3, c4, c5, -, b3, b4, b5⟩ := (HC2.out wr HBX.out) i y hy
          obtain ⟨⟨h1, h2⟩, ⟨h3, h4⟩, h5, h6⟩ := HR2.out y (List.mem_of_getElem? hy)
          have hq := drop_flat (f := callL) hy
          rw [hq] at hp5
          clear hy hq
          obtain ⟨yt, yo, yk, ya, yb, yc⟩ := y
          dsimp only at *
          obtain ⟨tn, rfl⟩ : ∃ k : Nat, yt = k := ⟨yt.toNat, by omega⟩
          obtain ⟨on, rfl⟩ : ∃ k : Nat, yo = k := ⟨yo.toNat, by omega⟩
          obtain ⟨kn, rfl⟩ : ∃ k : Nat, yk = k := ⟨yk.toNat, by omega⟩
          have HS0 := Lib.hid (CaB.new wr tn on kn ya yb yc)
          have HO1 := Lib.hid (hown5.out.alloc (.cells #[.int .i64 (tn : Int), .int .i64 (on : Int), .int .i64 (kn : Int), .int .u64 (ya : Int), .int .u64 (yb : Int), .int .u64 (yc : Int)] 66))
          have HBL1 := Lib.hid (hbl5.out.alloc hbl5.out.size (.cells #[.int .i64 (tn : Int), .int .i64 (on : Int), .int .i64 (kn : Int), .int .u64 (ya : Int), .int .u64 (yb : Int), .int .u64 (yc : Int)] 66))
          have ht16 : (tn : Int) < 16 := by omega
          go_upto_region 16 with fail
          generalize wr.alloc (.cells #[.int .i64 (tn : Int), .int .i64 (on : Int), .int .i64 (kn : Int), .int .u64 (ya : Int), .int .u64 (yb : Int), .int .u64 (yc : Int)] 66) = W6 at HS0 HO1 HBL1 ⊢
          clear c0 c1 c2 c3 c4 c5
          obtain ⟨c0, c1, c2, -, -, -⟩ := HS0.out.cells
          have HL : Hid (o5.length + 3 ≤ 4294967296) := Lib.hid (by have := hl5.out; omega)
          have HL2 : Hid (o5.length ≤ 40000) := Lib.hid (by have := hl5.out; omega)
          have HSZ := Lib.hid HBL1.out.size
          go_wp2_with (at_builtin; refine append_laid rfl _ _ 28 rfl w1.heap.size 5 iI (.int .u8 0) 1 1 Try.underlying28 ia ib ic id rfl (by decide) (by decide) _ o5.length (o5.map bV) rfl HO1.out 3 (by decide) [bV tn, bV on, bV kn] rfl rfl rfl HL.out HSZ.out ?_)
          intro v1 W7 ho7 hb7 hk7
          have HO7 : Hid (BOwn W7 w1.heap.size v1 (o5 ++ [tn, on, kn])) := Lib.hid (BOwn.app ho7 rfl)
          have HBL7 := Lib.hid (HBL1.out.trans hb7)
          have HS7 := Lib.hid (HS0.out.keep hk7)
          obtain ⟨-, -, -, c3, -, -⟩ := HS7.out.cells
          have v9a := varF_len 9 ya
          have v9b := varF_len 9 yb
          have v9c := varF_len 9 yc
          clear ho7 hb7 hk7 c0 c1 c2
          go_wp2_with fail
          refine (appendVarint_any w1.heap.size v1 (o5 ++ [tn, on, kn]) ya W7 HO7.out b3 (by rw [List.length_append]; have := HL2.out; simp; omega) HBL7.out.size).mono ?_
          rintro e W8 ⟨v2, rfl, ho8, hb8, hk8⟩
          have HO8 := Lib.hid ho8
          have HBL8 := Lib.hid (HBL7.out.trans hb8)
          have HS8 := Lib.hid (HS7.out.keep hk8)
          obtain ⟨-, -, -, -, c4, -⟩ := HS8.out.cells
          clear ho8 hb8 hk8 c3
          go_wp2_with fail
          refine (appendVarint_any w1.heap.size v2 ((o5 ++ [tn, on, kn]) ++ varF 9 ya) yb W8 HO8.out b4 (by rw [List.length_append, List.length_append]; have := HL2.out; simp; omega) HBL8.out.size).mono ?_
          rintro e W9 ⟨v3, rfl, ho9, hb9, hk9⟩
          have HO9 := Lib.hid ho9
          have HBL9 := Lib.hid (HBL8.out.trans hb9)
          have HS9 := Lib.hid (HS8.out.keep hk9)
          obtain ⟨-, -, -, -, -, c5⟩ := HS9.out.cells
          clear ho9 hb9 hk9 c4
          go_wp2_with fail
          refine (appendVarint_any w1.heap.size v3 (((o5 ++ [tn, on, kn]) ++ varF 9 ya) ++ varF 9 yb) yc W9 HO9.out b5 (by rw [List.length_append, List.length_append, List.length_append]; have := HL2.out; simp; omega) HBL9.out.size).mono ?_
          rintro e WA ⟨v4, rfl, hoA, hbA, hkA⟩
          have HOA := Lib.hid hoA
          have HBLA := Lib.hid (HBL9.out.trans hbA)
          clear hoA hbA hkA c5
          go_wp2_with fail
          go_roundw
          case rel => exact ⟨i + 1, (((o5 ++ [tn, on, kn]) ++ varF 9 ya) ++ varF 9 yb) ++ varF 9 yc, by omega, by go_num, Lib.hid (by rw [List.length_append, List.length_append, List.length_append, List.length_append]; have := hl5.out; simp; omega), HOA, HBLA, Lib.hid (by
            rw [← hp5.out]; simp [callL, List.append_assoc])⟩
          case measure => simp [intOf]; omega
        · have E2 : Hid (o5 = out5 ++ calls.flatMap callL) := Lib.hid (by rw [← hp5.out, show i = calls.length by omega, List.drop_length]; simp)
          clear hp5
          have q4 : wr.cell? ⟨w.heap.size, 3, none⟩ = some (.slice pa picks.length pc) := (hbl5.out.cell (p := ⟨w.heap.size, 3, none⟩) hlt1).trans (cell_of_heap HN1.out (k := 3) rfl)
          have hlw5 : w.heap.size < wr.heap.size := Nat.lt_of_lt_of_le hlt1 hbl5.out.size
          have HAR := Lib.hid (fun u (hu : BOwn wr w1.heap.size u o5) => appendRuns_any w1.heap.size u o5 pa pb po pc picks wr hu hl3 (by have := hl5.out; omega) hbl5.out.size HA3.out (fun h => Nat.lt_of_lt_of_le (HP3.out h) HWW.out) HPR.out (HC3.out wr HBX.out) HR3.out)
          go_wp2_with fail
          refine (HAR.out _ hown5.out).mono ?_
          rintro e WB ⟨v5, rfl, hoB, hbB, -⟩
          have HOB : Hid (BOwn WB w.heap.size v5 (encL ⟨(nn : Int), specs, calls, picks⟩)) := Lib.hid (by
            have e1 : encL ⟨(nn : Int), specs, calls, picks⟩ = o5 ++ refR 0 picks := by
              rw [E2.out, HE5.out, ES.out]; simp [encL]
            rw [e1]; exact own_lower hoB HWW.out)
          have HBB : Hid (Below w.heap.size w WB) := Lib.hid (HBX.out.trans (hbB.mono HWW.out))
          clear hoB hbB
          go_wp2_with fail
          refine bodyPost_ret (v := .tuple #[v5, .int .i64 0]) (by simp [results, Try.results10, go_sem]) rfl ⟨v5, rfl, HOB.out, HBB.out⟩
end Go.Proofs.Yticaheiomidanaa
