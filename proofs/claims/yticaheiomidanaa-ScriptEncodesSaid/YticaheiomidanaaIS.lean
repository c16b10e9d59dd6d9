/- Walk of the reference's bytes of a script. -/
import Derived.Test.YticaheiomidanaaIR
import Derived.Test.YticaheiomidanaaIM
import Derived.Deep.Cut
namespace Go.Proofs.Yticaheiomidanaa
open Go.RowKit

theorem varF_byte {x : Nat} (h : x < 18446744073709551616) : ∀ z ∈ varF 9 x, z < 256 := by
  have key : ∀ f x, x < 2 ^ (7 * (f + 1)) → ∀ z ∈ varF f x, z < 256 := by
    intro f
    induction f with
    | zero => intro x hx z hz; simp [varF] at hz; subst hz; simp at hx; omega
    | succ f ih =>
      intro x hx z hz
      rw [varF] at hz
      split at hz
      · rcases List.mem_cons.1 hz with rfl | hz
        · omega
        · refine ih (x / 128) ?_ z hz
          rw [Nat.div_lt_iff_lt_mul (by decide)]
          calc x < 2 ^ (7 * (f + 1 + 1)) := hx
            _ = 2 ^ (7 * (f + 1)) * 128 := by rw [show 7 * (f + 1 + 1) = 7 * (f + 1) + 7 by omega, Nat.pow_add]
      · simp at hz; omega
  exact key 9 x (Nat.lt_of_lt_of_le h (by decide))
theorem own_nil {w : World} {B : Nat} {e : TypeId} {s n c : Nat} {ao : Option Addr} {xs : List Value} (h : w.ownsRow B e s (.slice ao n c) n xs) : ao = none → c = 0 := by
  obtain ⟨_, ⟨h1, h2⟩ | ⟨g, cap, cur, h1, _⟩⟩ := h
  · injection h1 with _ _ h3; intro _; exact h3
  · injection h1 with h2 _ _; intro h3; rw [h2] at h3; cases h3

set_option maxHeartbeats 4000000 in
set_option maxRecDepth 100000 in
theorem bytes_any (x : ScI) (s : Spots) (w : World) (h : ScAt w x s) (hw : wrong x = 0) :
    Calls Try.prog 14 #[scV x s] w fun e w' => ∃ v, e = .returned v ∧ BOwn w' w.heap.size v (encL x) ∧ Below w.heap.size w w' := by
  obtain ⟨iI, ia, ib, ic, id⟩ := info_parts infoB
  have hb0 : Below w.heap.size w (w.alloc (.cells #[.int .i64 x.n, .slice s.sa x.specs.length s.sc, .slice s.ca x.calls.length s.cc, .slice s.pa x.picks.length s.pc] 33)) := (Below.refl _ _).alloc (Nat.le_refl _) _
  have HB0 := Lib.hid hb0
  have HN0 := Lib.hid (heap_new w (.cells #[.int .i64 x.n, .slice s.sa x.specs.length s.sc, .slice s.ca x.calls.length s.cc, .slice s.pa x.picks.length s.pc] 33))
  obtain ⟨⟨hn1, hn2⟩, hl1, hl2, hl3, hr1, hr2, hr3⟩ := right_parts hw
  have HR1 := Lib.hid hr1
  have HR2 := Lib.hid hr2
  have HR3 := Lib.hid hr3
  have HH := Lib.hid h
  clear h hb0 hw hr1 hr2 hr3
  obtain ⟨n, specs, calls, picks⟩ := x
  obtain ⟨sa, sb, so, sc, ca, cb, co, cc, pa, pb, po, pc⟩ := s
  dsimp only at *
  have HA1 : Hid (0 < specs.length → sa = some ⟨sb, so, none⟩) := Lib.hid HH.out.a1
  have HA2 : Hid (0 < calls.length → ca = some ⟨cb, co, none⟩) := Lib.hid HH.out.a2
  have HA3 : Hid (0 < picks.length → pa = some ⟨pb, po, none⟩) := Lib.hid HH.out.a3
  have HC1 : Hid (∀ wr, Below w.heap.size w wr → SpAt wr sb so specs) := Lib.hid (fun wr hb => HH.out.c1.stays hb HH.out.b1)
  have HC2 : Hid (∀ wr, Below w.heap.size w wr → CaAt wr cb co calls) := Lib.hid (fun wr hb => HH.out.c2.stays hb HH.out.b2)
  have HC3 : Hid (∀ wr, Below w.heap.size w wr → ICells wr pb po picks) := Lib.hid (fun wr hb => HH.out.c3.stays hb HH.out.b3)
  have HP3 : Hid (0 < picks.length → pb < w.heap.size) := Lib.hid HH.out.b3
  have HPR : Hid (picks.length ≤ pc) := Lib.hid HH.out.r3
  clear HH
  obtain ⟨nn, rfl⟩ : ∃ k : Nat, n = k := ⟨n.toNat, by omega⟩
  go_enter Try.func14, Try.ntmps14
  have hlt0 := lt_of_heap HN0.out
  generalize hW1 : w.alloc (.cells #[.int .i64 (nn : Int), .slice sa specs.length sc, .slice ca calls.length cc, .slice pa picks.length pc] 33) = w1 at HN0 HB0
  have hn1' := HN0.out
  have HN1 := Lib.hid hn1'
  have HB1 := HB0
  have q0 := cell_of_heap hn1' (k := 0) (v := .int .i64 (nn : Int)) rfl
  have q1 := cell_of_heap hn1' (k := 1) (v := .slice sa specs.length sc) rfl
  have hlt1 := lt_of_heap hn1'
  have HO0 : Hid (BOwn (w1.alloc (.cells #[bV nn, bV specs.length] 5)) w1.heap.size (.slice (some ⟨w1.heap.size, 0, none⟩) 2 2) [nn, specs.length]) := Lib.hid
    (own_built (base := w1.heap.size) (e := 5) (size := 1) (n := 2) w1 [bV nn, bV specs.length] (Nat.le_refl _) (by unfold maxLen; omega) rfl)
  have HBL0 : Hid (Below w1.heap.size w1 (w1.alloc (.cells #[bV nn, bV specs.length] 5))) := Lib.hid ((Below.refl _ _).alloc (Nat.le_refl _) _)
  clear hn1'
  go_upto_region 1 with fail
  clear hW1 hlt0
  go_upto_region 2 with fail
  generalize hW2 : w1.alloc (.cells #[.int .u8 (nn : Int), .int .u8 (specs.length : Int)] 5) = W2
  have HO0' : Hid (BOwn W2 w1.heap.size (.slice (some ⟨w1.heap.size, 0, none⟩) 2 2) [nn, specs.length]) := Lib.hid (by rw [← hW2]; exact HO0.out)
  have HBL0' : Hid (Below w1.heap.size w1 W2) := Lib.hid (by rw [← hW2]; exact HBL0.out)
  have q1' : W2.cell? ⟨w.heap.size, 1, none⟩ = some (.slice sa specs.length sc) := (HBL0'.out.cell (p := ⟨w.heap.size, 1, none⟩) hlt1).trans q1
  clear hW2 HO0 HBL0 q0
  have HWW : Hid (w.heap.size ≤ w1.heap.size) := Lib.hid HB1.out.size
  go_wp2
  go_loopw [3, 21] (fun u k wr => ∃ (j : Nat) (out : List Nat), j ≤ specs.length ∧ k = .int .i64 j ∧ Hid (out.length = 2 + 5 * j) ∧ Hid (BOwn wr w1.heap.size u out) ∧ Hid (Below w1.heap.size w1 wr) ∧ Hid (out ++ (specs.drop j).flatMap specL = [nn, specs.length] ++ specs.flatMap specL)) (fun _ k _ => specs.length - (intOf k).toNat)
  case atStart => exact ⟨0, [nn, specs.length], Nat.zero_le _, rfl, Lib.hid rfl, HO0', HBL0', Lib.hid rfl⟩
  case round =>
    obtain ⟨j, out, hj, rfl, hol, hown, hbl, hp⟩ := hrel
    have HBW := Lib.hid (HB1.out.trans (hbl.out.mono HWW.out))
    have q1w : wr.cell? ⟨w.heap.size, 1, none⟩ = some (.slice sa specs.length sc) := (hbl.out.cell (p := ⟨w.heap.size, 1, none⟩) hlt1).trans q1
    have hlw0 : w.heap.size < wr.heap.size := Nat.lt_of_lt_of_le hlt1 hbl.out.size
    by_cases hlt : j < specs.length
    · obtain rfl := HA1.out (by omega)
      obtain ⟨y, hy⟩ : ∃ y, specs[j]? = some y := ⟨specs[j], List.getElem?_eq_getElem (by omega)⟩
      obtain ⟨c0, c1, c2, -⟩ := (HC1.out wr HBW.out) j y hy
      obtain ⟨⟨h1, h2⟩, ⟨h3, h4⟩, h5, h6⟩ := HR1.out y (List.mem_of_getElem? hy)
      have hq := drop_flat (f := specL) hy
      rw [hq] at hp
      clear hy hq
      obtain ⟨yk, yp, yq⟩ := y
      dsimp only at *
      obtain ⟨kn, rfl⟩ : ∃ k : Nat, yk = k := ⟨yk.toNat, by omega⟩
      obtain ⟨pn, rfl⟩ : ∃ k : Nat, yp = k := ⟨yp.toNat, by omega⟩
      obtain ⟨qn, rfl⟩ : ∃ k : Nat, yq = k := ⟨yq.toNat, by omega⟩
      have HS0 := Lib.hid (SpB.new wr kn pn qn)
      have HO1 := Lib.hid (hown.out.alloc (.cells #[.int .i64 (kn : Int), .int .i64 (pn : Int), .int .i64 (qn : Int)] 62))
      have HBL1 := Lib.hid (hbl.out.alloc hbl.out.size (.cells #[.int .i64 (kn : Int), .int .i64 (pn : Int), .int .i64 (qn : Int)] 62))
      go_upto_region 6 with fail
      generalize wr.alloc (.cells #[.int .i64 (kn : Int), .int .i64 (pn : Int), .int .i64 (qn : Int)] 62) = W3 at HS0 HO1 HBL1 ⊢
      clear c0 c1 c2 q1w
      obtain ⟨c0, c1, c2⟩ := HS0.out.cells
      have HL : Hid (out.length + 5 ≤ 4294967296) := Lib.hid (by have := hol.out; omega)
      have HSZ := Lib.hid HBL1.out.size
      go_wp2_with (at_builtin; refine append_laid rfl _ _ 28 rfl w1.heap.size 5 iI (.int .u8 0) 1 1 Try.underlying28 ia ib ic id rfl (by decide) (by decide) _ out.length (out.map bV) rfl HO1.out 5 (by decide) [.int .u8 (kn : Int), .int .u8 ((pn : Int) / 256), .int .u8 ((pn : Int) % 256), .int .u8 ((qn : Int) / 256), .int .u8 ((qn : Int) % 256)] rfl rfl rfl HL.out HSZ.out ?_)
      intro v1 W4 ho4 hb4 hk4
      have HO4 : Hid (BOwn W4 w1.heap.size v1 (out ++ (kn :: (pairL pn ++ pairL qn)))) := Lib.hid (BOwn.app ho4 rfl)
      have HBL4 := Lib.hid (HBL1.out.trans hb4)
      clear ho4 hb4 hk4 c0 c1 c2
      go_wp2
      go_roundw
      case rel => exact ⟨j + 1, out ++ (kn :: (pairL pn ++ pairL qn)), by omega, by go_num, Lib.hid (by rw [List.length_append]; have := hol.out; simp [pairL]; omega), HO4, HBL4, Lib.hid (by
        rw [← hp.out]; simp [specL, List.append_assoc])⟩
      case measure => simp [intOf]; omega
    · have ES : Hid (out = [nn, specs.length] ++ specs.flatMap specL) := Lib.hid (by rw [← hp.out, show j = specs.length by omega, List.drop_length]; simp)
      clear hp q1w
      have q2' : wr.cell? ⟨w.heap.size, 2, none⟩ = some (.slice ca calls.length cc) := (hbl.out.cell (p := ⟨w.heap.size, 2, none⟩) hlt1).trans (cell_of_heap HN1.out (k := 2) rfl)
      have HL : Hid (out.length + 2 ≤ 4294967296) := Lib.hid (by have := hol.out; omega)
      have HSZ := Lib.hid hbl.out.size
      go_wp2_with (at_builtin; refine append_laid rfl _ _ 28 rfl w1.heap.size 5 iI (.int .u8 0) 1 1 Try.underlying28 ia ib ic id rfl (by decide) (by decide) _ out.length (out.map bV) rfl hown.out 2 (by decide) [.int .u8 ((calls.length : Int) / 256), .int .u8 ((calls.length : Int) % 256)] rfl rfl rfl HL.out HSZ.out ?_)
      intro v2 W5 ho5' hb5 hk5
      have HO5 : Hid (BOwn W5 w1.heap.size v2 (out ++ pairL calls.length)) := Lib.hid (BOwn.app ho5' rfl)
      have HBL5 := Lib.hid (hbl.out.trans hb5)
      have q3' : W5.cell? ⟨w.heap.size, 2, none⟩ = some (.slice ca calls.length cc) := (HBL5.out.cell (p := ⟨w.heap.size, 2, none⟩) hlt1).trans (cell_of_heap HN1.out (k := 2) rfl)
      have hol5 : (out ++ pairL calls.length).length ≤ 100 := by rw [List.length_append]; have := hol.out; simp [pairL]; omega
      obtain ⟨out5, hout5⟩ : ∃ o5, o5 = out ++ pairL calls.length := ⟨_, rfl⟩
      rw [← hout5] at HO5 hol5
      have HE5 := Lib.hid hout5
      clear ho5' hb5 hk5 q2' hout5 HL HSZ
      go_wp2
      go_loopw [3, 68] (fun u k wr => ∃ (i : Nat) (o5 : List Nat), i ≤ calls.length ∧ k = .int .i64 i ∧ Hid (o5.length ≤ 100 + 33 * i) ∧ Hid (BOwn wr w1.heap.size u o5) ∧ Hid (Below w1.heap.size w1 wr) ∧ Hid (o5 ++ (calls.drop i).flatMap callL = out5 ++ calls.flatMap callL)) (fun _ k _ => calls.length - (intOf k).toNat)
      case atStart => exact ⟨0, out5, Nat.zero_le _, rfl, Lib.hid (by omega), HO5, HBL5, Lib.hid rfl⟩
      case round =>
        obtain ⟨i, o5, hi, rfl, hl5, hown5, hbl5, hp5⟩ := hrel
        have HBX := Lib.hid (HB1.out.trans (hbl5.out.mono HWW.out))
        have q2w : wr.cell? ⟨w.heap.size, 2, none⟩ = some (.slice ca calls.length cc) := (hbl5.out.cell (p := ⟨w.heap.size, 2, none⟩) hlt1).trans (cell_of_heap HN1.out (k := 2) rfl)
        have hlw5 : w.heap.size < wr.heap.size := Nat.lt_of_lt_of_le hlt1 hbl5.out.size
        by_cases hlt5 : i < calls.length
        · obtain rfl := HA2.out (by omega)
          obtain ⟨y, hy⟩ : ∃ y, calls[i]? = some y := ⟨calls[i], List.getElem?_eq_getElem (by omega)⟩
          obtain ⟨c0, c1, c2, c3, c4, c5, -, b3, b4, b5⟩ := (HC2.out wr HBX.out) i y hy
          obtain ⟨⟨h1, h2⟩, ⟨h3, h4⟩, h5, h6⟩ := HR2.out y (List.mem_of_getElem? hy)
          have hq := drop_flat (f := callL) hy
          rw [hq] at hp5
          clear hy hq
          obtain ⟨yt, yo, yk, ya, yb, yc⟩ := y
          dsimp only at *
          obtain ⟨tn, rfl⟩ : ∃ k : Nat, yt = k := ⟨yt.toNat, by omega⟩
          obtain ⟨on, rfl⟩ : ∃ k : Nat, yo = k := ⟨yo.toNat, by omega⟩
          obtain ⟨kn, rfl⟩ : ∃ k : Nat, yk = k := ⟨yk.toNat, by omega⟩
          have HS0 := Lib.hid (CaB.new wr tn on kn ya yb yc)
          have HO1 := Lib.hid (hown5.out.alloc (.cells #[.int .i64 (tn : Int), .int .i64 (on : Int), .int .i64 (kn : Int), .int .u64 (ya : Int), .int .u64 (yb : Int), .int .u64 (yc : Int)] 66))
          have HBL1 := Lib.hid (hbl5.out.alloc hbl5.out.size (.cells #[.int .i64 (tn : Int), .int .i64 (on : Int), .int .i64 (kn : Int), .int .u64 (ya : Int), .int .u64 (yb : Int), .int .u64 (yc : Int)] 66))
          have ht16 : (tn : Int) < 16 := by omega
          go_upto_region 13 with fail
          generalize wr.alloc (.cells #[.int .i64 (tn : Int), .int .i64 (on : Int), .int .i64 (kn : Int), .int .u64 (ya : Int), .int .u64 (yb : Int), .int .u64 (yc : Int)] 66) = W6 at HS0 HO1 HBL1 ⊢
          clear c0 c1 c2 c3 c4 c5 q2w
          obtain ⟨c0, c1, c2, -, -, -⟩ := HS0.out.cells
          have HL : Hid (o5.length + 3 ≤ 4294967296) := Lib.hid (by have := hl5.out; omega)
          have HL2 : Hid (o5.length ≤ 40000) := Lib.hid (by have := hl5.out; omega)
          have HSZ := Lib.hid HBL1.out.size
          go_wp2_with (at_builtin; refine append_laid rfl _ _ 28 rfl w1.heap.size 5 iI (.int .u8 0) 1 1 Try.underlying28 ia ib ic id rfl (by decide) (by decide) _ o5.length (o5.map bV) rfl HO1.out 3 (by decide) [bV tn, bV on, bV kn] rfl rfl rfl HL.out HSZ.out ?_)
          intro v1 W7 ho7 hb7 hk7
          have HO7 : Hid (BOwn W7 w1.heap.size v1 (o5 ++ [tn, on, kn])) := Lib.hid (BOwn.app ho7 rfl)
          obtain ⟨o7, he_o7⟩ : ∃ l, l = o5 ++ [tn, on, kn] := ⟨_, rfl⟩
          rw [← he_o7] at HO7
          have HE_o7 := Lib.hid he_o7
          have HL_o7 : Hid (o7.length = o5.length + 3) := Lib.hid (by rw [he_o7, List.length_append]; rfl)
          clear he_o7
          have HBL7 := Lib.hid (HBL1.out.trans hb7)
          have HS7 := Lib.hid (HS0.out.keep hk7)
          have v9a := varF_len 9 ya
          have v9b := varF_len 9 yb
          have v9c := varF_len 9 yc
          have HV9 := Lib.hid (And.intro v9a (And.intro v9b v9c))
          obtain ⟨-, -, -, c3, -, -⟩ := HS7.out.cells
          clear ho7 hb7 hk7 c0 c1 c2 v9a v9b v9c
          go_wp2_with fail
          refine (number_any ya W7 b3).mono ?_
          rintro e WBx ⟨vnx, rfl, hoN, hbN, hkN⟩
          obtain ⟨anx, gnx, cnx, rfl, havN, hgvN, hcvN⟩ := bown_cells hoN (fun z hz => varF_byte (by assumption) z hz)
          have HNIL := Lib.hid (own_nil hoN)
          have HOBx := Lib.hid (owns_below HO7.out hbN)
          have HBLBx := Lib.hid (HBL7.out.trans (hbN.mono HBL7.out.size))
          have HSBx := Lib.hid (HS7.out.keep hkN)
          have HAVN := Lib.hid havN
          have HCU : Hid (∀ (j : Nat) (u : Value), ((varF 9 ya).map bV)[j]? = some u → WBx.cell? ⟨gnx, 0 + j, none⟩ = some u) := Lib.hid (fun j u hu => by
            rw [List.getElem?_map, Option.map_eq_some_iff] at hu; obtain ⟨z, hz, rfl⟩ := hu; exact (hcvN j z hz).1)
          have HLN : Hid (o7.length + (varF 9 ya).length ≤ 4294967296) := Lib.hid (by have := HL2.out; have := HV9.out; have := HL_o7.out; omega)
          have HSZ2 := Lib.hid HBLBx.out.size
          have HULN : Hid (((varF 9 ya).map bV).length = (varF 9 ya).length) := Lib.hid (List.length_map ..)
          have HU1N := Lib.hid (bV_all (varF 9 ya))
          clear hoN hbN hkN havN hgvN hcvN c3
          go_wp2_with (at_builtin; refine append_slice rfl _ _ 28 rfl w1.heap.size 5 iI (.int .u8 0) 1 Try.underlying28 ia ib ic id rfl (by decide) _ o7.length (o7.map bV) rfl HOBx.out anx gnx 0 cnx (varF 9 ya).length ((varF 9 ya).map bV) rfl HULN.out HAVN.out HNIL.out HCU.out HU1N.out HLN.out HSZ2.out ?_)
          intro v8 WCx hoC hbC hkC
          have HO8 : Hid (BOwn WCx w1.heap.size v8 (o7 ++ varF 9 ya)) := Lib.hid (BOwn.app hoC rfl)
          obtain ⟨o8, he_o8⟩ : ∃ l, l = o7 ++ varF 9 ya := ⟨_, rfl⟩
          rw [← he_o8] at HO8
          have HE_o8 := Lib.hid he_o8
          have HL_o8 : Hid (o8.length = o7.length + (varF 9 ya).length) := Lib.hid (by rw [he_o8, List.length_append])
          clear he_o8
          have HBL8 := Lib.hid (HBLBx.out.trans hbC)
          have HS8 := Lib.hid (HSBx.out.keep hkC)
          obtain ⟨-, -, -, -, c4, -⟩ := HS8.out.cells
          clear hoC hbC hkC
          go_wp2_with fail
          refine (number_any yb WCx b4).mono ?_
          rintro e WBy ⟨vny, rfl, hoN, hbN, hkN⟩
          obtain ⟨any, gny, cny, rfl, havN, hgvN, hcvN⟩ := bown_cells hoN (fun z hz => varF_byte (by assumption) z hz)
          have HNIL := Lib.hid (own_nil hoN)
          have HOBy := Lib.hid (owns_below HO8.out hbN)
          have HBLBy := Lib.hid (HBL8.out.trans (hbN.mono HBL8.out.size))
          have HSBy := Lib.hid (HS8.out.keep hkN)
          have HAVN := Lib.hid havN
          have HCU : Hid (∀ (j : Nat) (u : Value), ((varF 9 yb).map bV)[j]? = some u → WBy.cell? ⟨gny, 0 + j, none⟩ = some u) := Lib.hid (fun j u hu => by
            rw [List.getElem?_map, Option.map_eq_some_iff] at hu; obtain ⟨z, hz, rfl⟩ := hu; exact (hcvN j z hz).1)
          have HLN : Hid (o8.length + (varF 9 yb).length ≤ 4294967296) := Lib.hid (by have := HL2.out; have := HV9.out; have := HL_o7.out; have := HL_o8.out; omega)
          have HSZ2 := Lib.hid HBLBy.out.size
          have HULN : Hid (((varF 9 yb).map bV).length = (varF 9 yb).length) := Lib.hid (List.length_map ..)
          have HU1N := Lib.hid (bV_all (varF 9 yb))
          clear hoN hbN hkN havN hgvN hcvN c4
          go_wp2_with (at_builtin; refine append_slice rfl _ _ 28 rfl w1.heap.size 5 iI (.int .u8 0) 1 Try.underlying28 ia ib ic id rfl (by decide) _ o8.length (o8.map bV) rfl HOBy.out any gny 0 cny (varF 9 yb).length ((varF 9 yb).map bV) rfl HULN.out HAVN.out HNIL.out HCU.out HU1N.out HLN.out HSZ2.out ?_)
          intro v9 WCy hoC hbC hkC
          have HO9 : Hid (BOwn WCy w1.heap.size v9 (o8 ++ varF 9 yb)) := Lib.hid (BOwn.app hoC rfl)
          obtain ⟨o9, he_o9⟩ : ∃ l, l = o8 ++ varF 9 yb := ⟨_, rfl⟩
          rw [← he_o9] at HO9
          have HE_o9 := Lib.hid he_o9
          have HL_o9 : Hid (o9.length = o8.length + (varF 9 yb).length) := Lib.hid (by rw [he_o9, List.length_append])
          clear he_o9
          have HBL9 := Lib.hid (HBLBy.out.trans hbC)
          have HS9 := Lib.hid (HSBy.out.keep hkC)
          obtain ⟨-, -, -, -, -, c5⟩ := HS9.out.cells
          clear hoC hbC hkC
          go_wp2_with fail
          refine (number_any yc WCy b5).mono ?_
          rintro e WBz ⟨vnz, rfl, hoN, hbN, hkN⟩
          obtain ⟨anz, gnz, cnz, rfl, havN, hgvN, hcvN⟩ := bown_cells hoN (fun z hz => varF_byte (by assumption) z hz)
          have HNIL := Lib.hid (own_nil hoN)
          have HOBz := Lib.hid (owns_below HO9.out hbN)
          have HBLBz := Lib.hid (HBL9.out.trans (hbN.mono HBL9.out.size))
          have HSBz := Lib.hid (HS9.out.keep hkN)
          have HAVN := Lib.hid havN
          have HCU : Hid (∀ (j : Nat) (u : Value), ((varF 9 yc).map bV)[j]? = some u → WBz.cell? ⟨gnz, 0 + j, none⟩ = some u) := Lib.hid (fun j u hu => by
            rw [List.getElem?_map, Option.map_eq_some_iff] at hu; obtain ⟨z, hz, rfl⟩ := hu; exact (hcvN j z hz).1)
          have HLN : Hid (o9.length + (varF 9 yc).length ≤ 4294967296) := Lib.hid (by have := HL2.out; have := HV9.out; have := HL_o7.out; have := HL_o8.out; have := HL_o9.out; omega)
          have HSZ2 := Lib.hid HBLBz.out.size
          have HULN : Hid (((varF 9 yc).map bV).length = (varF 9 yc).length) := Lib.hid (List.length_map ..)
          have HU1N := Lib.hid (bV_all (varF 9 yc))
          clear hoN hbN hkN havN hgvN hcvN c5
          go_wp2_with (at_builtin; refine append_slice rfl _ _ 28 rfl w1.heap.size 5 iI (.int .u8 0) 1 Try.underlying28 ia ib ic id rfl (by decide) _ o9.length (o9.map bV) rfl HOBz.out anz gnz 0 cnz (varF 9 yc).length ((varF 9 yc).map bV) rfl HULN.out HAVN.out HNIL.out HCU.out HU1N.out HLN.out HSZ2.out ?_)
          intro vA WCz hoC hbC hkC
          have HOA : Hid (BOwn WCz w1.heap.size vA (o9 ++ varF 9 yc)) := Lib.hid (BOwn.app hoC rfl)
          obtain ⟨oA, he_oA⟩ : ∃ l, l = o9 ++ varF 9 yc := ⟨_, rfl⟩
          rw [← he_oA] at HOA
          have HE_oA := Lib.hid he_oA
          have HL_oA : Hid (oA.length = o9.length + (varF 9 yc).length) := Lib.hid (by rw [he_oA, List.length_append])
          clear he_oA
          have HBLA := Lib.hid (HBLBz.out.trans hbC)
          have HSA := Lib.hid (HSBz.out.keep hkC)
          clear hoC hbC hkC
          go_wp2
          go_roundw
          case rel => exact ⟨i + 1, oA, by omega, by go_num, Lib.hid (by have := hl5.out; have := HV9.out; have := HL_o7.out; have := HL_o8.out; have := HL_o9.out; have := HL_oA.out; omega), HOA, HBLA, Lib.hid (by
            rw [← hp5.out, HE_oA.out, HE_o9.out, HE_o8.out, HE_o7.out]; simp [callL, List.append_assoc])⟩
          case measure => simp [intOf]; omega
        · have E2 : Hid (o5 = out5 ++ calls.flatMap callL) := Lib.hid (by rw [← hp5.out, show i = calls.length by omega, List.drop_length]; simp)
          clear hp5 q2w
          have q4 : wr.cell? ⟨w.heap.size, 3, none⟩ = some (.slice pa picks.length pc) := (hbl5.out.cell (p := ⟨w.heap.size, 3, none⟩) hlt1).trans (cell_of_heap HN1.out (k := 3) rfl)
          have HL6 : Hid (o5.length ≤ 40000) := Lib.hid (by have := hl5.out; omega)
          go_wp2
          go_loopw [3, 8, 107] (fun u nv k wr => ∃ (i n : Nat) (o6 : List Nat), i ≤ picks.length ∧ k = .int .i64 i ∧ nv = .int .i64 n ∧ n < 255 ∧ n ≤ i ∧ (n ≠ 0 → i < picks.length) ∧ Hid (o6.length ≤ o5.length + 2 * i) ∧ Hid (BOwn wr w1.heap.size u o6) ∧ Hid (Below w1.heap.size w1 wr) ∧ Hid (o6 ++ refR n (picks.drop i) = o5 ++ refR 0 picks)) (fun _ _ k _ => picks.length - (intOf k).toNat)
          case atStart => exact ⟨0, 0, o5, Nat.zero_le _, rfl, rfl, by decide, by decide, fun h => absurd rfl h, Lib.hid (by omega), hown5, hbl5, Lib.hid rfl⟩
          case round =>
            obtain ⟨i, n, o6, hi, rfl, rfl, hn255, hni, hni2, hl6, hown6, hbl6, hp6⟩ := hrel
            have HBY := Lib.hid (HB1.out.trans (hbl6.out.mono HWW.out))
            have q3w : wr.cell? ⟨w.heap.size, 3, none⟩ = some (.slice pa picks.length pc) := (hbl6.out.cell (p := ⟨w.heap.size, 3, none⟩) hlt1).trans (cell_of_heap HN1.out (k := 3) rfl)
            by_cases hlt6 : i < picks.length
            · obtain rfl := HA3.out (by omega)
              obtain ⟨x, hx⟩ : ∃ x, picks[i]? = some x := ⟨picks[i], List.getElem?_eq_getElem (by omega)⟩
              have hxr := HR3.out x (List.mem_of_getElem? hx)
              obtain ⟨c0, _⟩ := (HC3.out wr HBY.out) i x hx
              obtain ⟨xn, rfl⟩ : ∃ k : Nat, x = k := ⟨x.toNat, by omega⟩
              have HX := Lib.hid hx
              clear hx
              have hn1' : (n : Int) < 255 := by omega
              have hn1i : (n : Int) ≤ 65536 := by omega
              by_cases g1 : n + 1 = 255
              · have d1 : (((n : Int) + 1) == 255) = true := by rw [beq_iff_eq]; omega
                have HST : Hid (refR n (picks.drop i) = xn :: (n + 1) :: refR 0 (picks.drop (i + 1))) := Lib.hid (by rw [drop_at HX.out, refR_stop (Or.inr (Or.inl g1)), Int.toNat_natCast])
                clear g1
                go_wp2_with fail
                go_quiet (fail)
                have HLE : Hid (o6.length + 2 ≤ 4294967296) := Lib.hid (by have := hl6.out; have := HL6.out; omega)
                have HSZ6 := Lib.hid hbl6.out.size
                go_wp2_with (at_builtin; refine append_laid rfl _ _ 28 rfl w1.heap.size 5 iI (.int .u8 0) 1 1 Try.underlying28 ia ib ic id rfl (by decide) (by decide) _ o6.length (o6.map bV) rfl (owns_drewN hown6.out _) 2 (by decide) [.int .u8 (xn : Int), .int .u8 ((n : Int) + 1)] rfl rfl rfl HLE.out HSZ6.out ?_)
                intro vE WE hoE hbE hkE
                have HOE : Hid (BOwn WE w1.heap.size vE (o6 ++ [xn, n + 1])) := Lib.hid (BOwn.app hoE rfl)
                have HBE := Lib.hid ((below_drewN hbl6.out _).trans hbE)
                clear hoE hbE hkE
                go_wp2
                go_roundw
                case rel => exact ⟨i + 1, 0, o6 ++ [xn, n + 1], by omega, by go_num, rfl, by decide, Nat.zero_le _, fun h => absurd rfl h, Lib.hid (by rw [List.length_append]; have := hl6.out; simp; omega), HOE, HBE, Lib.hid (by rw [← hp6.out, HST.out, List.append_assoc]; rfl)⟩
                case measure => simp [intOf]; omega
              · have d1 : (((n : Int) + 1) == 255) = false := beq_false_of_ne (by omega)
                by_cases g2 : i + 1 = picks.length
                · have d2 : (((i : Int) + 1) == (picks.length : Int)) = true := by rw [beq_iff_eq]; omega
                  have HST : Hid (refR n (picks.drop i) = xn :: (n + 1) :: refR 0 (picks.drop (i + 1))) := Lib.hid (by rw [drop_at HX.out, refR_stop (Or.inl (by rw [g2, List.drop_length])), Int.toNat_natCast])
                  clear g2 g1
                  go_wp2_with fail
                  go_quiet (fail)
                  have HLE : Hid (o6.length + 2 ≤ 4294967296) := Lib.hid (by have := hl6.out; have := HL6.out; omega)
                  have HSZ6 := Lib.hid hbl6.out.size
                  go_wp2_with (at_builtin; refine append_laid rfl _ _ 28 rfl w1.heap.size 5 iI (.int .u8 0) 1 1 Try.underlying28 ia ib ic id rfl (by decide) (by decide) _ o6.length (o6.map bV) rfl (owns_drewN hown6.out _) 2 (by decide) [.int .u8 (xn : Int), .int .u8 ((n : Int) + 1)] rfl rfl rfl HLE.out HSZ6.out ?_)
                  intro vE WE hoE hbE hkE
                  have HOE : Hid (BOwn WE w1.heap.size vE (o6 ++ [xn, n + 1])) := Lib.hid (BOwn.app hoE rfl)
                  have HBE := Lib.hid ((below_drewN hbl6.out _).trans hbE)
                  clear hoE hbE hkE
                  go_wp2
                  go_roundw
                  case rel => exact ⟨i + 1, 0, o6 ++ [xn, n + 1], by omega, by go_num, rfl, by decide, Nat.zero_le _, fun h => absurd rfl h, Lib.hid (by rw [List.length_append]; have := hl6.out; simp; omega), HOE, HBE, Lib.hid (by rw [← hp6.out, HST.out, List.append_assoc]; rfl)⟩
                  case measure => simp [intOf]; omega
                · have d2 : (((i : Int) + 1) == (picks.length : Int)) = false := beq_false_of_ne (by omega)
                  obtain ⟨y, hy⟩ : ∃ y, picks[i + 1]? = some y := ⟨picks[i + 1]'(by omega), List.getElem?_eq_getElem (by omega)⟩
                  obtain ⟨c1, _⟩ := (HC3.out wr HBY.out) (i + 1) y hy
                  have d3 : (i : Int) + 1 < picks.length := by omega
                  by_cases g3 : y = (xn : Int)
                  · have d4 : (y == (xn : Int)) = true := beq_iff_eq.2 g3
                    have HST : Hid (refR (n + 1) (picks.drop (i + 1)) = refR n (picks.drop i)) := Lib.hid (by rw [drop_at HX.out, drop_at hy, g3, refR_more g1])
                    clear g2 hy
                    go_wp2_with fail
                    go_quiet (fail)
                    go_wp2
                    go_roundw
                    case rel => exact ⟨i + 1, n + 1, o6, by omega, by go_num, by go_num, by omega, by omega, fun _ => by omega, Lib.hid (by have := hl6.out; omega), Lib.hid (owns_drewN hown6.out _), Lib.hid (below_drewN hbl6.out _), Lib.hid (by rw [HST.out]; exact hp6.out)⟩
                    case measure => simp [intOf]; omega
                  · have d4 : (y == (xn : Int)) = false := beq_false_of_ne g3
                    have HST : Hid (refR n (picks.drop i) = xn :: (n + 1) :: refR 0 (picks.drop (i + 1))) := Lib.hid (by rw [drop_at HX.out, refR_stop (Or.inr (Or.inr ⟨y, _, drop_at hy, g3⟩)), Int.toNat_natCast])
                    clear g2 hy g1
                    go_wp2_with fail
                    go_quiet (fail)
                    have HLE : Hid (o6.length + 2 ≤ 4294967296) := Lib.hid (by have := hl6.out; have := HL6.out; omega)
                    have HSZ6 := Lib.hid hbl6.out.size
                    go_wp2_with (at_builtin; refine append_laid rfl _ _ 28 rfl w1.heap.size 5 iI (.int .u8 0) 1 1 Try.underlying28 ia ib ic id rfl (by decide) (by decide) _ o6.length (o6.map bV) rfl (owns_drewN hown6.out _) 2 (by decide) [.int .u8 (xn : Int), .int .u8 ((n : Int) + 1)] rfl rfl rfl HLE.out HSZ6.out ?_)
                    intro vE WE hoE hbE hkE
                    have HOE : Hid (BOwn WE w1.heap.size vE (o6 ++ [xn, n + 1])) := Lib.hid (BOwn.app hoE rfl)
                    have HBE := Lib.hid ((below_drewN hbl6.out _).trans hbE)
                    clear hoE hbE hkE
                    go_wp2
                    go_roundw
                    case rel => exact ⟨i + 1, 0, o6 ++ [xn, n + 1], by omega, by go_num, rfl, by decide, Nat.zero_le _, fun h => absurd rfl h, Lib.hid (by rw [List.length_append]; have := hl6.out; simp; omega), HOE, HBE, Lib.hid (by rw [← hp6.out, HST.out, List.append_assoc]; rfl)⟩
                    case measure => simp [intOf]; omega
            · have hil : i = picks.length := by omega
              have E3 : Hid (encL ⟨(nn : Int), specs, calls, picks⟩ = o6) := Lib.hid (by
                have e1 : encL ⟨(nn : Int), specs, calls, picks⟩ = o5 ++ refR 0 picks := by
                  rw [E2.out, HE5.out, ES.out]; simp [encL]
                rw [e1, ← hp6.out, hil, List.drop_length]; cases n <;> simp [refR])
              have HOB := Lib.hid (own_lower hown6.out HWW.out)
              go_wp2
              go_ret
              exact ⟨_, rfl, by rw [E3.out]; exact HOB.out, HBY.out⟩
end Go.Proofs.Yticaheiomidanaa
