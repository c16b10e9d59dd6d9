/- Walks of what appends the lines of calls and events. -/
import Derived.Test.YthacohejdpjjeaaMH
namespace Go.Proofs.Ythacohejdpjjeaa
open Go.RowKit Go.Lib Go.Sort

theorem own_built {base : Nat} {e : TypeId} {size n : Nat} (w : World) (us : List Value) (hb : base ≤ w.heap.size) (hm : n ≤ maxLen) (hl : us.length = n * size) :
    (w.alloc (.cells us.toArray e)).ownsRow base e size (.slice (some ⟨w.heap.size, 0, none⟩) n n) n us :=
  ⟨hl, .inr ⟨w.heap.size, n, us.toArray, rfl, hb, heap_alloc_new w _, Nat.le_refl _, hm, by simpa using hl, by simp [← hl]⟩⟩
theorem row_at {w : World} {B g : Nat} {e : TypeId} {s n c : Nat} {xs : List Value} (h : w.ownsRow B e s (.slice (some ⟨g, 0, none⟩) n c) n xs) (h0 : 0 < n) : ∀ i u, xs[i]? = some u → w.cell? ⟨g, i, none⟩ = some u := by
  obtain ⟨ao, g', cap, hv, ha, _, _, hc⟩ := owns_open h
  have h1 := ha h0
  injection hv with h2 h3 h4
  rw [h1] at h2
  injection h2 with h2
  injection h2 with h2
  subst h2
  exact hc
/-- a block of one struct, as a row -/
def StB (w : World) (g : Nat) (e : TypeId) (cs : List Value) : Prop := w.ownsRow 0 e cs.length (.slice (some ⟨g, 0, none⟩) 1 1) 1 cs
theorem StB.new (w : World) (e : TypeId) (cs : List Value) : StB (w.alloc (.cells cs.toArray e)) w.heap.size e cs := own_built (base := 0) (n := 1) w cs (Nat.zero_le _) (by unfold maxLen; omega) (by omega)
theorem StB.keep {w w' : World} {g : Nat} {e : TypeId} {cs : List Value} (h : StB w g e cs) (he : e ≠ 5) (hk : Keeps 5 w w') : StB w' g e cs := hk _ _ _ _ _ _ he h
theorem StB.alloc {w : World} {g : Nat} {e : TypeId} {cs : List Value} (h : StB w g e cs) (o : Obj) : StB (w.alloc o) g e cs := World.ownsRow.alloc h o
theorem StB.cell {w : World} {g : Nat} {e : TypeId} {cs : List Value} (h : StB w g e cs) {i : Nat} {u : Value} (hu : cs[i]? = some u) : w.cell? ⟨g, i, none⟩ = some u := row_at h (by decide) i u hu
theorem LaterC.built {w : World} {B : Nat} {e : TypeId} (us : List Value) (he : e ≠ 5) (hm : us.length ≤ 1000) {g : Nat} (hg : g = w.heap.size) : LaterC (w.alloc (.cells us.toArray e)) B g 0 us := by
  subst hg
  exact LaterC.own (own_built (base := 0) (size := 1) (n := us.length) w us (Nat.zero_le _) (by unfold maxLen; omega) (by omega)) he
theorem LaterC.alloc {w : World} {B b o : Nat} {vs : List Value} (h : LaterC w B b o vs) (hB : B ≤ w.heap.size) (x : Obj) : LaterC (w.alloc x) B b o vs := h.trans ((Below.refl _ _).alloc hB _) (Keeps.alloc _ _ _)

/-- a call -/
structure CaX where
  th : Int
  ob : Int
  kd : Int
  a : Nat
  b : Nat
  c : Nat
structure CaX.Ok (x : CaX) : Prop where
  th : I63 x.th
  ob : I63 x.ob
  kd : I63 x.kd
  a : x.a < 18446744073709551616
  b : x.b < 18446744073709551616
  c : x.c < 18446744073709551616
def caLine (x : CaX) : List Nat := numsF digI true [x.th, x.ob, x.kd] ++ 32 :: numsF digs true [x.a, x.b, x.c]
def CaX.vs (x : CaX) : List Value := [.int .i64 x.th, .int .i64 x.ob, .int .i64 x.kd, .int .u64 (x.a : Int), .int .u64 (x.b : Int), .int .u64 (x.c : Int)]
abbrev caV (x : CaX) : Value := .agg #[.int .i64 x.th, .int .i64 x.ob, .int .i64 x.kd, .int .u64 (x.a : Int), .int .u64 (x.b : Int), .int .u64 (x.c : Int)]
theorem caLine_len (x : CaX) : (caLine x).length ≤ 133 := by
  have h1 := numsF_len (p := digI) (k := 21) digI_len true [x.th, x.ob, x.kd]
  have h2 := numsF_len (p := digs) (k := 20) digs_len true [x.a, x.b, x.c]
  simp only [List.length_cons, List.length_nil] at h1 h2
  simp only [caLine, List.length_append, List.length_cons]
  omega

set_option maxHeartbeats 1000000 in
set_option maxRecDepth 100000 in
theorem appCall_any (B : Nat) (v : Value) (out : List Nat) (x : CaX) (w : World) (ho : BOwn w B v out) (hB : B ≤ w.heap.size) (hx : x.Ok) (hn : out.length ≤ 3000000000) :
    Calls Try.prog 31 #[v, caV x] w (ApP B w (out ++ caLine x)) := by
  obtain ⟨iI, ia, ib, ic, id⟩ := info_parts infoB
  obtain ⟨R, hR⟩ : ∃ R, out ++ caLine x = R := ⟨_, rfl⟩
  rw [hR]
  obtain ⟨th, ob, kd, a, b, c⟩ := x
  have HR : Hid (((out ++ numsF digI true [th, ob, kd]) ++ [32]) ++ numsF digs true [a, b, c] = R) := Lib.hid (by rw [← hR]; simp [caLine])
  obtain ⟨h1, h2, h3, h4, h5, h6⟩ := hx
  simp only at h1 h2 h3 h4 h5 h6
  have s1 : (w.alloc (.cells #[.int .i64 th, .int .i64 ob, .int .i64 kd, .int .u64 (a : Int), .int .u64 (b : Int), .int .u64 (c : Int)] 39)).heap.size = w.heap.size + 1 := by simp
  have HS := StB.new w 39 [.int .i64 th, .int .i64 ob, .int .i64 kd, .int .u64 (a : Int), .int .u64 (b : Int), .int .u64 (c : Int)]
  have HA1 := Lib.hid (appNumsI_any B v out (some ⟨w.heap.size + 1, 0, none⟩) (w.heap.size + 1) 0 3 [th, ob, kd] ((w.alloc (.cells #[.int .i64 th, .int .i64 ob, .int .i64 kd, .int .u64 (a : Int), .int .u64 (b : Int), .int .u64 (c : Int)] 39)).alloc (.cells #[.int .i64 th, .int .i64 ob, .int .i64 kd] 3))
    ((World.ownsRow.alloc ho _).alloc _) (by simp; omega) (fun _ => rfl) (Nat.le_refl _) (LaterC.built [.int .i64 th, .int .i64 ob, .int .i64 kd] (by decide) (by simp) s1.symm)
    (fun z hz => by simp at hz; rcases hz with rfl | rfl | rfl <;> assumption) (by simp; omega))
  have HB0 : Hid (Below B w ((w.alloc (.cells #[.int .i64 th, .int .i64 ob, .int .i64 kd, .int .u64 (a : Int), .int .u64 (b : Int), .int .u64 (c : Int)] 39)).alloc (.cells #[.int .i64 th, .int .i64 ob, .int .i64 kd] 3))) := Lib.hid ((((Below.refl _ _).alloc hB _)).alloc (by simp; omega) _)
  have HK0 : Hid (Keeps 5 w ((w.alloc (.cells #[.int .i64 th, .int .i64 ob, .int .i64 kd, .int .u64 (a : Int), .int .u64 (b : Int), .int .u64 (c : Int)] 39)).alloc (.cells #[.int .i64 th, .int .i64 ob, .int .i64 kd] 3))) := Lib.hid ((Keeps.alloc _ _ _).trans (Keeps.alloc _ _ _))
  have HS0 := Lib.hid (HS.alloc (.cells #[.int .i64 th, .int .i64 ob, .int .i64 kd] 3))
  have HU : Hid (∀ y ∈ [a, b, c], y < 18446744073709551616) := Lib.hid (fun z hz => by simp at hz; rcases hz with rfl | rfl | rfl <;> assumption)
  have HL : Hid ((out ++ numsF digI true [th, ob, kd]).length + 1 ≤ 3000000080) := Lib.hid (by
    have := numsF_len (p := digI) (k := 21) digI_len true [th, ob, kd]
    simp only [List.length_append, List.length_cons, List.length_nil] at this ⊢
    omega)
  clear ho hR HS h1 h2 h3 h4 h5 h6 s1
  go_enter Try.func31, Try.ntmps31
  go_wp2_with fail
  refine HA1.out.mono ?_
  rintro e w1 ⟨v1, rfl, ho1, hb1, hk1⟩
  obtain ⟨X, hX⟩ : ∃ X, out ++ numsF digI true [th, ob, kd] = X := ⟨_, rfl⟩
  rw [hX] at ho1 HL HR
  have HO1 : Hid (w1.ownsRow B 5 1 v1 X.length (X.map bV)) := Lib.hid ho1
  have HB1 := Lib.hid (HB0.out.trans hb1)
  have HK1 := Lib.hid (HK0.out.trans hk1)
  have hs1 := HS0.out.keep (by decide) hk1
  have HSZ1 := Lib.hid (Nat.le_trans hB HB1.out.size)
  have HLL : Hid (X.length + 1 ≤ 4294967296) := Lib.hid (by have := HL.out; omega)
  have HS1 := Lib.hid hs1
  clear HA1 HB0 HK0 HS0 ho1 hb1 hk1 hX hs1
  go_wp2_with (at_builtin; refine append_laid rfl _ _ 77 rfl B 5 iI (.int .u8 0) 1 1 Try.underlying77 ia ib ic id rfl (by decide) (by decide) _ X.length (X.map bV) rfl HO1.out 1 (by decide) [.int .u8 32] rfl rfl rfl HLL.out HSZ1.out ?_)
  intro v2 w2 ho2 hb2 hk2
  have HO2 : Hid (BOwn w2 B v2 (X ++ [32])) := Lib.hid (BOwn.app (m := [32]) ho2 rfl)
  have hs2 := HS1.out.keep (by decide) hk2
  have c3 := hs2.cell (i := 3) rfl
  have c4 := hs2.cell (i := 4) rfl
  have c5 := hs2.cell (i := 5) rfl
  have HB2 := Lib.hid (HB1.out.trans hb2)
  have HK2 := Lib.hid (HK1.out.trans hk2)
  have HSZ2 := Lib.hid (Nat.le_trans hB HB2.out.size)
  have HA2 := Lib.hid (appNumsW_any B v2 (X ++ [32]) (some ⟨w2.heap.size, 0, none⟩) w2.heap.size 0 3 [a, b, c] (w2.alloc (.cells #[.int .u64 (a : Int), .int .u64 (b : Int), .int .u64 (c : Int)] 37))
    (World.ownsRow.alloc HO2.out _) (by have := HSZ2.out; simp; omega) (fun _ => rfl) (Nat.le_refl _) (LaterC.built [.int .u64 (a : Int), .int .u64 (b : Int), .int .u64 (c : Int)] (by decide) (by simp) rfl)
    HU.out (by have := HL.out; simp; omega))
  have HB3 : Hid (Below B w (w2.alloc (.cells #[.int .u64 (a : Int), .int .u64 (b : Int), .int .u64 (c : Int)] 37))) := Lib.hid (HB2.out.alloc HSZ2.out _)
  clear ho2 hb2 hk2 hs2
  go_wp2_with fail
  refine HA2.out.mono ?_
  rintro e w3 ⟨v3, rfl, ho3, hb3, hk3⟩
  have HO3 : Hid (BOwn w3 B v3 R) := Lib.hid (by rw [← HR.out]; exact ho3)
  have HB4 := Lib.hid (HB3.out.trans hb3)
  have HK4 := Lib.hid ((HK2.out.trans (Keeps.alloc _ _ _)).trans hk3)
  clear ho3 hb3 hk3
  go_wp2
  go_ret
  exact ⟨_, rfl, HO3.out, HB4.out, HK4.out⟩
end Go.Proofs.Ythacohejdpjjeaa
