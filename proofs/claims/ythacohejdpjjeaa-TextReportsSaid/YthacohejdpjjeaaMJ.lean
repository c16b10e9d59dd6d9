/- Walks: the line of an event is appended; the lines of events and calls. -/
import Derived.Test.YthacohejdpjjeaaMI
namespace Go.Proofs.Ythacohejdpjjeaa
open Go.RowKit Go.Lib Go.Sort

/-- where an event's lists lie -/
structure EvS where
  la : Option Addr
  lb : Nat
  lo : Nat
  lc : Nat
  ka : Option Addr
  kb : Nat
  ko : Nat
  kc : Nat
abbrev wUv : Nat → Value := fun z => .int .u64 (z : Int)
abbrev iIv : Int → Value := fun z => .int .i64 z
structure EvAt (w : World) (B : Nat) (e : EvX) (s : EvS) : Prop where
  la : 0 < e.lw.length → s.la = some ⟨s.lb, s.lo, none⟩
  lr : e.lw.length ≤ s.lc
  lc : LaterC w B s.lb s.lo (e.lw.map (fun z : Nat => Value.int .u64 (z : Int)))
  ka : 0 < e.kw.length → s.ka = some ⟨s.kb, s.ko, none⟩
  kr : e.kw.length ≤ s.kc
  kc : LaterC w B s.kb s.ko (e.kw.map (fun z : Int => Value.int .i64 z))
theorem EvAt.trans {w w' : World} {B : Nat} {e : EvX} {s : EvS} (h : EvAt w B e s) (hb : Below B w w') (hk : Keeps 5 w w') : EvAt w' B e s :=
  ⟨h.la, h.lr, h.lc.trans hb hk, h.ka, h.kr, h.kc.trans hb hk⟩
def evVs (e : EvX) (s : EvS) : List Value := [.int .i64 e.ca, .int .i64 e.iv, .int .i64 e.rs, .int .i64 e.st, .int .i64 e.er, .int .u64 (e.vl : Int), .slice s.la e.lw.length s.lc, .slice s.ka e.kw.length s.kc]
abbrev evV (e : EvX) (s : EvS) : Value := .agg #[.int .i64 e.ca, .int .i64 e.iv, .int .i64 e.rs, .int .i64 e.st, .int .i64 e.er, .int .u64 (e.vl : Int), .slice s.la e.lw.length s.lc, .slice s.ka e.kw.length s.kc]
abbrev evO (e : EvX) (s : EvS) : Obj := .cells #[.int .i64 e.ca, .int .i64 e.iv, .int .i64 e.rs, .int .i64 e.st, .int .i64 e.er, .int .u64 (e.vl : Int), .slice s.la e.lw.length s.lc, .slice s.ka e.kw.length s.kc] 44

set_option maxHeartbeats 2000000 in
set_option maxRecDepth 100000 in
theorem appEvent_any (B : Nat) (v : Value) (out : List Nat) (x : EvX) (s : EvS) (w : World) (ho : BOwn w B v out) (hB : B ≤ w.heap.size) (hx : x.Ok) (hs : EvAt w B x s) (hn : out.length + x.lw.length * 22 + x.kw.length * 22 ≤ 3000000000) :
    Calls Try.prog 32 #[v, evV x s] w (ApP B w (out ++ evLine x)) := by
  obtain ⟨iI, ia, ib, ic, id⟩ := info_parts infoB
  obtain ⟨R, hR⟩ : ∃ R, out ++ evLine x = R := ⟨_, rfl⟩
  rw [hR]
  obtain ⟨ca, iv, rs, st, er, vl, lw, kw⟩ := x
  obtain ⟨la, lb, lo, lc, ka, kb, ko, kc⟩ := s
  have HR : Hid (((((((out ++ numsF digI true [ca, iv, rs, st, er]) ++ [32]) ++ digs vl) ++ [32]) ++ listL digs lw) ++ [32]) ++ listL digI kw = R) := Lib.hid (by rw [← hR]; simp [evLine])
  obtain ⟨h1, h2, h3, h4, h5, h6, h7, h8⟩ := hx
  obtain ⟨p1, p2, p3, p4, p5, p6⟩ := hs
  dsimp only at h1 h2 h3 h4 h5 h6 h7 h8 p1 p2 p3 p4 p5 p6 hn ⊢
  have s1 : (w.alloc (.cells #[.int .i64 ca, .int .i64 iv, .int .i64 rs, .int .i64 st, .int .i64 er, .int .u64 (vl : Int), .slice la lw.length lc, .slice ka kw.length kc] 44)).heap.size = w.heap.size + 1 := by simp
  have HS := StB.new w 44 [.int .i64 ca, .int .i64 iv, .int .i64 rs, .int .i64 st, .int .i64 er, .int .u64 (vl : Int), .slice la lw.length lc, .slice ka kw.length kc]
  have HA1 := Lib.hid (appNumsI_any B v out (some ⟨w.heap.size + 1, 0, none⟩) (w.heap.size + 1) 0 5 [ca, iv, rs, st, er] ((w.alloc (.cells #[.int .i64 ca, .int .i64 iv, .int .i64 rs, .int .i64 st, .int .i64 er, .int .u64 (vl : Int), .slice la lw.length lc, .slice ka kw.length kc] 44)).alloc (.cells #[.int .i64 ca, .int .i64 iv, .int .i64 rs, .int .i64 st, .int .i64 er] 3))
    ((World.ownsRow.alloc ho _).alloc _) (by simp; omega) (fun _ => rfl) (Nat.le_refl _) (LaterC.built [.int .i64 ca, .int .i64 iv, .int .i64 rs, .int .i64 st, .int .i64 er] (by decide) (by simp) s1.symm)
    (fun z hz => by simp at hz; rcases hz with rfl | rfl | rfl | rfl | rfl <;> assumption) (by simp; omega))
  have HB0 : Hid (Below B w ((w.alloc (.cells #[.int .i64 ca, .int .i64 iv, .int .i64 rs, .int .i64 st, .int .i64 er, .int .u64 (vl : Int), .slice la lw.length lc, .slice ka kw.length kc] 44)).alloc (.cells #[.int .i64 ca, .int .i64 iv, .int .i64 rs, .int .i64 st, .int .i64 er] 3))) := Lib.hid ((((Below.refl _ _).alloc hB _)).alloc (by simp; omega) _)
  have HK0 : Hid (Keeps 5 w ((w.alloc (.cells #[.int .i64 ca, .int .i64 iv, .int .i64 rs, .int .i64 st, .int .i64 er, .int .u64 (vl : Int), .slice la lw.length lc, .slice ka kw.length kc] 44)).alloc (.cells #[.int .i64 ca, .int .i64 iv, .int .i64 rs, .int .i64 st, .int .i64 er] 3))) := Lib.hid ((Keeps.alloc _ _ _).trans (Keeps.alloc _ _ _))
  have HS0 := Lib.hid (HS.alloc (.cells #[.int .i64 ca, .int .i64 iv, .int .i64 rs, .int .i64 st, .int .i64 er] 3))
  have HL : Hid ((out ++ numsF digI true [ca, iv, rs, st, er]).length + lw.length * 22 + kw.length * 22 ≤ 3000000120) := Lib.hid (by
    have := numsF_len (p := digI) (k := 21) digI_len true [ca, iv, rs, st, er]
    simp only [List.length_append, List.length_cons, List.length_nil] at this ⊢
    omega)
  have H6 := Lib.hid h6
  have H7 := Lib.hid h7
  have H8 := Lib.hid h8
  have P1 := Lib.hid p1
  have P2 := Lib.hid p2
  have P3 := Lib.hid p3
  have P4 := Lib.hid p4
  have P5 := Lib.hid p5
  have P6 := Lib.hid p6
  clear ho hR HS h1 h2 h3 h4 h5 h6 h7 h8 p1 p2 p3 p4 p5 p6 s1 hn
  go_enter Try.func32, Try.ntmps32
  go_wp2_with fail
  refine HA1.out.mono ?_
  rintro e w1 ⟨v1, rfl, ho1, hb1, hk1⟩
  obtain ⟨X, hX⟩ : ∃ X, out ++ numsF digI true [ca, iv, rs, st, er] = X := ⟨_, rfl⟩
  rw [hX] at ho1 HL HR
  have HO1 : Hid (w1.ownsRow B 5 1 v1 X.length (X.map bV)) := Lib.hid ho1
  have HB1 := Lib.hid (HB0.out.trans hb1)
  have HK1 := Lib.hid (HK0.out.trans hk1)
  have hs1 := HS0.out.keep (by decide) hk1
  have HSZ1 := Lib.hid (Nat.le_trans hB HB1.out.size)
  have HLL : Hid (X.length + 1 ≤ 4294967296) := Lib.hid (by have := HL.out; omega)
  have HS1 := Lib.hid hs1
  clear HA1 HB0 HK0 HS0 ho1 hb1 hk1 hX hs1
  go_wp2_with (at_builtin; refine append_laid rfl _ _ 77 rfl B 5 iI (.int .u8 0) 1 1 Try.underlying77 ia ib ic id rfl (by decide) (by decide) _ X.length (X.map bV) rfl HO1.out 1 (by decide) [.int .u8 32] rfl rfl rfl HLL.out HSZ1.out ?_)
  intro v2 w2 ho2 hb2 hk2
  have HO2 : Hid (BOwn w2 B v2 (X ++ [32])) := Lib.hid (BOwn.app (m := [32]) ho2 rfl)
  have hs2 := HS1.out.keep (by decide) hk2
  have c5 := hs2.cell (i := 5) rfl
  have HB2 := Lib.hid (HB1.out.trans hb2)
  have HK2 := Lib.hid (HK1.out.trans hk2)
  have HSZ2 := Lib.hid (Nat.le_trans hB HB2.out.size)
  have HS2 := Lib.hid hs2
  have HA2 := Lib.hid (appNat_any B v2 (X ++ [32]) vl w2 HO2.out H6.out (by have := HL.out; simp; omega) HSZ2.out)
  clear ho2 hb2 hk2 hs2 HO1 HB1 HK1 HSZ1 HLL HS1
  go_wp2_with fail
  refine HA2.out.mono ?_
  rintro e w3 ⟨v3, rfl, ho3, hb3, hk3⟩
  obtain ⟨Y, hY⟩ : ∃ Y, (X ++ [32]) ++ digs vl = Y := ⟨_, rfl⟩
  have HLY : Hid (Y.length + lw.length * 22 + kw.length * 22 ≤ 3000000141) := Lib.hid (by
    have := HL.out
    have := digs_len vl
    rw [← hY]
    simp only [List.length_append, List.length_cons, List.length_nil]
    omega)
  rw [hY] at ho3 HR
  have HO3 : Hid (w3.ownsRow B 5 1 v3 Y.length (Y.map bV)) := Lib.hid ho3
  have HB3 := Lib.hid (HB2.out.trans hb3)
  have HK3 := Lib.hid (HK2.out.trans hk3)
  have HSZ3 := Lib.hid (Nat.le_trans hB HB3.out.size)
  have HS3 := Lib.hid (HS2.out.keep (by decide) hk3)
  have HLL3 : Hid (Y.length + 1 ≤ 4294967296) := Lib.hid (by have := HLY.out; omega)
  clear HA2 ho3 hb3 hk3 hY HO2 HB2 HK2 HSZ2 HS2 c5 HL
  go_wp2_with (at_builtin; refine append_laid rfl _ _ 77 rfl B 5 iI (.int .u8 0) 1 1 Try.underlying77 ia ib ic id rfl (by decide) (by decide) _ Y.length (Y.map bV) rfl HO3.out 1 (by decide) [.int .u8 32] rfl rfl rfl HLL3.out HSZ3.out ?_)
  intro v4 w4 ho4 hb4 hk4
  have HO4 : Hid (BOwn w4 B v4 (Y ++ [32])) := Lib.hid (BOwn.app (m := [32]) ho4 rfl)
  have hs4 := HS3.out.keep (by decide) hk4
  have c6 := hs4.cell (i := 6) rfl
  have HB4 := Lib.hid (HB3.out.trans hb4)
  have HK4 := Lib.hid (HK3.out.trans hk4)
  have HSZ4 := Lib.hid (Nat.le_trans hB HB4.out.size)
  have HS4 := Lib.hid hs4
  have HA4 := Lib.hid (appListW_any B v4 (Y ++ [32]) la lb lo lc lw w4 HO4.out HSZ4.out P1.out P2.out (P3.out.trans HB4.out HK4.out) H7.out (by have := HLY.out; simp; omega))
  clear ho4 hb4 hk4 hs4 HO3 HB3 HK3 HSZ3 HLL3 HS3
  go_wp2_with fail
  refine HA4.out.mono ?_
  rintro e w5 ⟨v5, rfl, ho5, hb5, hk5⟩
  obtain ⟨Z, hZ⟩ : ∃ Z, (Y ++ [32]) ++ listL digs lw = Z := ⟨_, rfl⟩
  have HLZ : Hid (Z.length + kw.length * 22 ≤ 3000000144) := Lib.hid (by
    have := HLY.out
    have := listL_len (p := digs) (k := 20) digs_len lw
    rw [← hZ]
    simp only [List.length_append, List.length_cons, List.length_nil]
    omega)
  rw [hZ] at ho5 HR
  have HO5 : Hid (w5.ownsRow B 5 1 v5 Z.length (Z.map bV)) := Lib.hid ho5
  have HB5 := Lib.hid (HB4.out.trans hb5)
  have HK5 := Lib.hid (HK4.out.trans hk5)
  have HSZ5 := Lib.hid (Nat.le_trans hB HB5.out.size)
  have HS5 := Lib.hid (HS4.out.keep (by decide) hk5)
  have HLL5 : Hid (Z.length + 1 ≤ 4294967296) := Lib.hid (by have := HLZ.out; omega)
  clear HA4 ho5 hb5 hk5 hZ HO4 HB4 HK4 HSZ4 HS4 c6 HLY
  go_wp2_with (at_builtin; refine append_laid rfl _ _ 77 rfl B 5 iI (.int .u8 0) 1 1 Try.underlying77 ia ib ic id rfl (by decide) (by decide) _ Z.length (Z.map bV) rfl HO5.out 1 (by decide) [.int .u8 32] rfl rfl rfl HLL5.out HSZ5.out ?_)
  intro v6 w6 ho6 hb6 hk6
  have HO6 : Hid (BOwn w6 B v6 (Z ++ [32])) := Lib.hid (BOwn.app (m := [32]) ho6 rfl)
  have hs6 := HS5.out.keep (by decide) hk6
  have c7 := hs6.cell (i := 7) rfl
  have HB6 := Lib.hid (HB5.out.trans hb6)
  have HK6 := Lib.hid (HK5.out.trans hk6)
  have HSZ6 := Lib.hid (Nat.le_trans hB HB6.out.size)
  have HA6 := Lib.hid (appListI_any B v6 (Z ++ [32]) ka kb ko kc kw w6 HO6.out HSZ6.out P4.out P5.out (P6.out.trans HB6.out HK6.out) H8.out (by have := HLZ.out; simp; omega))
  clear ho6 hb6 hk6 hs6 HO5 HB5 HK5 HSZ5 HLL5 HS5
  go_wp2_with fail
  refine HA6.out.mono ?_
  rintro e w7 ⟨v7, rfl, ho7, hb7, hk7⟩
  have HO7 : Hid (BOwn w7 B v7 R) := Lib.hid (by rw [← HR.out]; exact ho7)
  have HB7 := Lib.hid (HB6.out.trans hb7)
  have HK7 := Lib.hid (HK6.out.trans hk7)
  clear HA6 ho7 hb7 hk7
  go_wp2
  go_ret
  exact ⟨_, rfl, HO7.out, HB7.out, HK7.out⟩
end Go.Proofs.Ythacohejdpjjeaa
