/- Walks of what appends a string, and a line of numbers with their names. -/
import Derived.Test.YthacohejdpjjeaaMK
import Derived.Lib.AppendStr
import Derived.Deep.Cut
namespace Go.Proofs.Ythacohejdpjjeaa
open Go.RowKit Go.Lib Go.Sort

theorem strCells_of {M : List Nat} (h : ∀ x ∈ M, x < 256) : Go.Lib.strCells (strB M) = M.map bV := by
  unfold Go.Lib.strCells
  rw [strB_list, List.map_map]
  apply List.map_congr_left
  intro x hx
  have := h x hx
  show Value.int .u8 ((UInt8.ofNat x).toNat : Int) = bV x
  unfold bV
  congr 2
  simp
  omega
theorem append_str {P : Program} {w : World} {ops : Array Oper} {rest : List Oper} {o : Oper} {a : Act} {Q : Exit → Act → World → Prop} (hgd : o.guard = none) (s x : Operand) {ts tt : TypeId}
    (ho : o.op = .call { callee := .builtin .append, args := #[s, x], argTypes := #[ts, tt] })
    (base : Nat) (i : TypeInfo) {e : TypeId} (ht : P.underlying ts = some (.slice e)) (hu : P.underlying tt = some .string) (hi : P.info? e = some i) (hz : i.zero = some (.int .u8 0))
    (hsize : i.size = 1) (hby : i.bytes = 1)
    (v : Value) (l : List Value) (n : Nat) (hs : a.eval s = v) (hown : w.ownsRow base e 1 v n l)
    (m : List Nat) (hm : ∀ x ∈ m, x < 256) (hx : a.eval x = .string (strB m))
    (hn : n + m.length ≤ 4294967296) (hbase : base ≤ w.heap.size)
    (h : ∀ v' w', w'.ownsRow base e 1 v' (n + m.length) (l ++ m.map bV) → Below base w w' → Keeps e w w' → wpList P ops Q rest (a.put o.dst v') w') : wpList P ops Q (o :: rest) a w := by
  refine Go.Lib.wpList_append_own_string w hgd s x ts tt ho base e i ht hu hi hz hsize hby v n l hs hown (strB m) hx (by rw [strB_size]; unfold maxLen; omega) (by rw [strB_size]; omega) hbase ?_
  intro v' w' h2 h3 _
  rw [strB_size, strCells_of hm] at h2
  refine h v' w' h2 ((Below.refl _ _).grown h3 hbase (fun k hk => (hown.lt k hk).1)) ?_
  intro B e2 s2 n2 v2 xs2 he2 ho2
  exact ho2.kept h3 (owns_apart ho2 hown he2)

/-- a number with its name -/
structure NmX where
  nm : List Nat
  z : Int
def NmX.Ok (x : NmX) : Prop := (∀ y ∈ x.nm, y < 256) ∧ x.nm.length ≤ 20 ∧ I63 x.z
def nmL (x : NmX) : List Nat := x.nm ++ 32 :: digI x.z
theorem nmL_len {x : NmX} (h : x.Ok) : (nmL x).length ≤ 42 := by
  have h1 := digI_len x.z
  have h2 := h.2.1
  simp only [nmL, List.length_append, List.length_cons]
  omega
def nmCs (l : List NmX) : List Value := l.flatMap fun x => [Value.string (strB x.nm), .int .i64 x.z]
theorem nmCs_at {l : List NmX} {j : Nat} {x : NmX} (h : l[j]? = some x) : (nmCs l)[j * 2]? = some (.string (strB x.nm)) ∧ (nmCs l)[j * 2 + 1]? = some (.int .i64 x.z) := by
  induction l generalizing j with
  | nil => simp at h
  | cons y l ih =>
    cases j with
    | zero => simp at h; subst h; exact ⟨rfl, rfl⟩
    | succ j =>
      have := ih (j := j) (by simpa using h)
      have e1 : (nmCs (y :: l)) = Value.string (strB y.nm) :: .int .i64 y.z :: nmCs l := rfl
      rw [e1, show (j + 1) * 2 = j * 2 + 1 + 1 by omega]
      simpa using this

set_option maxHeartbeats 2000000 in
set_option maxRecDepth 100000 in
theorem appNamed_any (B : Nat) (v : Value) (out0 : List Nat) (g c : Nat) (l : List NmX) (w : World) (ho : BOwn w B v out0) (hB : B ≤ w.heap.size)
    (hc : LaterC w B g 0 (nmCs l)) (hz : ∀ x ∈ l, x.Ok) (hn : out0.length + l.length * 44 ≤ 3999999900) (hr : l.length ≤ c) :
    Calls Try.prog 33 #[v, .slice (some ⟨g, 0, none⟩) l.length c] w (ApP B w ((out0 ++ numsF nmL true l) ++ [10])) := by
  obtain ⟨iI, ia, ib, ic, id⟩ := info_parts infoB
  have HO := Lib.hid ho
  have HC := Lib.hid hc
  have HZZ := Lib.hid hz
  have HN := Lib.hid hn
  have HR := Lib.hid hr
  obtain ⟨R, hRR⟩ : ∃ R, out0 ++ numsF nmL true l = R := ⟨_, rfl⟩
  rw [hRR]
  have HRR := Lib.hid hRR
  clear ho hc hz hRR hn hr
  go_enter Try.func33, Try.ntmps33
  go_wp2
  go_loopw [0, 9] (fun u k wr => ∃ (j : Nat) (out : List Nat), j ≤ l.length ∧ k = .int .i64 j ∧ Hid (out.length ≤ out0.length + j * 44) ∧ Hid (BOwn wr B u out) ∧ Hid (Below B w wr) ∧ Hid (Keeps 5 w wr) ∧ Hid (out ++ numsF nmL (decide (j = 0)) (l.drop j) = R)) (fun _ k _ => l.length - (RowKit.intOf k).toNat)
  case atStart => exact ⟨0, out0, Nat.zero_le _, rfl, Lib.hid (by omega), HO, Lib.hid (Below.refl _ _), Lib.hid (Keeps.refl _ _), HRR⟩
  case round =>
    obtain ⟨j, out, hj, rfl, hol, hown, hbl, hkp, hp⟩ := hrel
    have HSZ := Lib.hid (Nat.le_trans hB hbl.out.size)
    by_cases hlt : j < l.length
    · obtain ⟨x, hx⟩ : ∃ x, l[j]? = some x := ⟨l[j], List.getElem?_eq_getElem hlt⟩
      have hxo := HZZ.out x (List.mem_of_getElem? hx)
      obtain ⟨q0, q1⟩ := nmCs_at hx
      have hc0 := HC.out wr hbl.out hkp.out (j * 2) _ q0
      have hc1 := HC.out wr hbl.out hkp.out (j * 2 + 1) _ q1
      rw [Nat.zero_add] at hc0 hc1
      have hd := drop_consG hx
      obtain ⟨nm, z⟩ := x
      obtain ⟨o1, o2, o3⟩ := hxo
      dsimp only at hc0 hc1 o1 o2 o3
      have HNM := Lib.hid o1
      have HNL := Lib.hid o2
      have HZ := Lib.hid o3
      have HLE : Hid (out.length + 44 ≤ 3999999900) := Lib.hid (by
        have h1 := HN.out
        have h2 := hol.out
        have h3 : (j + 1) * 44 ≤ l.length * 44 := Nat.mul_le_mul_right _ hlt
        omega)
      have hjb : j < 4000000000 := by have := HN.out; omega
      have hs0 := StB.new wr 82 [.string (strB nm), .int .i64 z]
      clear hx q0 q1 o1 o2 o3
      by_cases h0 : j = 0
      · have d0 : ¬ (0 : Int) < j := by omega
        have HP : Hid ((((out ++ nm) ++ [32]) ++ digI z) ++ numsF nmL (decide (j + 1 = 0)) (l.drop (j + 1)) = R) := Lib.hid (by
          rw [← hp.out, hd]
          rw [show decide (j = 0) = true from decide_eq_true h0, show decide (j + 1 = 0) = false from decide_eq_false (by omega), numsF_true]
          simp [nmL])
        obtain ⟨w1, hw1⟩ : ∃ w1, wr.alloc (.cells #[.string (strB nm), .int .i64 z] 82) = w1 := ⟨_, rfl⟩
        have hs1 : StB w1 wr.heap.size 82 [.string (strB nm), .int .i64 z] := by rw [← hw1]; exact hs0
        have k0 := hs1.cell (i := 0) rfl
        have HX1 := Lib.hid hs1
        have HO1 : Hid (w1.ownsRow B 5 1 u0 out.length (out.map bV)) := Lib.hid (by rw [← hw1]; exact World.ownsRow.alloc hown.out _)
        have HB1 : Hid (Below B w w1) := Lib.hid (by rw [← hw1]; exact hbl.out.alloc HSZ.out _)
        have HK1 : Hid (Keeps 5 w w1) := Lib.hid (by rw [← hw1]; exact hkp.out.trans (Keeps.alloc _ _ _))
        have HSZ1 := Lib.hid (Nat.le_trans hB HB1.out.size)
        have HLL : Hid (out.length + nm.length ≤ 4294967296) := Lib.hid (by have := HLE.out; have := HNL.out; omega)
        clear hp hd h0 hs0 hs1 hown
        go_upto_region 6 with fail
        try rw [hw1]
        clear hw1
        go_wp2_with (at_builtin; refine append_str rfl _ _ rfl B iI Try.underlying77 Try.underlying9 ia ib ic id u0 (out.map bV) out.length rfl HO1.out nm HNM.out rfl HLL.out HSZ1.out ?_)
        intro v2 w2 ho2 hb2 hk2
        have hx2 := HX1.out.keep (by decide) hk2
        have HO2n := Lib.hid ho2
        have HB2 := Lib.hid (HB1.out.trans hb2)
        have HK2 := Lib.hid (HK1.out.trans hk2)
        have HSZ2 := Lib.hid (Nat.le_trans hB HB2.out.size)
        obtain ⟨N2, hN2⟩ : ∃ N, out.length + nm.length = N := ⟨_, rfl⟩
        obtain ⟨M2, hM2⟩ : ∃ M, out.map bV ++ nm.map bV = M := ⟨_, rfl⟩
        rw [hN2, hM2] at HO2n
        have HN2 := Lib.hid hN2
        have HM2 := Lib.hid hM2
        have HL2 : Hid (N2 + 1 ≤ 4294967296) := Lib.hid (by have := HLE.out; have := HNL.out; rw [← hN2]; first | (simp only [List.length_append, List.length_singleton]; omega) | omega)
        have HX2 := Lib.hid hx2
        clear ho2 hb2 hk2 hx2 hN2 hM2
        go_wp2_with (at_builtin; refine append_laid rfl _ _ 77 rfl B 5 iI (.int .u8 0) 1 1 Try.underlying77 ia ib ic id rfl (by decide) (by decide) _ N2 M2 rfl HO2n.out 1 (by decide) [.int .u8 32] rfl rfl rfl HL2.out HSZ2.out ?_)
        intro v3 w3 ho3 hb3 hk3
        have HO3 : Hid (BOwn w3 B v3 ((out ++ nm) ++ [32])) := Lib.hid (by
          rw [← HM2.out, ← List.map_append] at ho3
          exact BOwn.app (m := [32]) ho3 (by rw [← HN2.out, List.length_append]; rfl))
        have hx3 := HX2.out.keep (by decide) hk3
        have c1 := hx3.cell (i := 1) rfl
        have HB3 := Lib.hid (HB2.out.trans hb3)
        have HK3 := Lib.hid (HK2.out.trans hk3)
        have HSZ3 := Lib.hid (Nat.le_trans hB HB3.out.size)
        have HAP := Lib.hid (appInt_any B v3 ((out ++ nm) ++ [32]) z w3 HO3.out HZ.out (by have := HLE.out; have := HNL.out; simp only [List.length_append, List.length_singleton]; omega) HSZ3.out)
        clear ho3 hb3 hk3 hx3
        go_wp2_with fail
        refine HAP.out.mono ?_
        rintro e w4 ⟨v4, rfl, ho4, hb4, hk4⟩
        have HO4 := Lib.hid ho4
        have HB4 := Lib.hid (HB3.out.trans hb4)
        have HK4 := Lib.hid (HK3.out.trans hk4)
        clear ho4 hb4 hk4
        go_wp2
        go_roundw
        case rel => exact ⟨j + 1, ((out ++ nm) ++ [32]) ++ digI z, by omega, by go_num, Lib.hid (by have := hol.out; have := HNL.out; have := digI_len z; simp only [List.length_append, List.length_singleton]; omega), HO4, HB4, HK4, HP⟩
        case measure => simp [RowKit.intOf]; omega
      · have d0 : (0 : Int) < j := by omega
        have HP : Hid (((((out ++ [32]) ++ nm) ++ [32]) ++ digI z) ++ numsF nmL (decide (j + 1 = 0)) (l.drop (j + 1)) = R) := Lib.hid (by
          rw [← hp.out, hd]
          rw [show decide (j = 0) = false from decide_eq_false h0, show decide (j + 1 = 0) = false from decide_eq_false (by omega), numsF_false]
          simp [nmL])
        obtain ⟨w0, hw0⟩ : ∃ w0, wr.alloc (.cells #[.string (strB nm), .int .i64 z] 82) = w0 := ⟨_, rfl⟩
        have hs1 : StB w0 wr.heap.size 82 [.string (strB nm), .int .i64 z] := by rw [← hw0]; exact hs0
        have HX0 := Lib.hid hs1
        have HO0 : Hid (w0.ownsRow B 5 1 u0 out.length (out.map bV)) := Lib.hid (by rw [← hw0]; exact World.ownsRow.alloc hown.out _)
        have HB0 : Hid (Below B w w0) := Lib.hid (by rw [← hw0]; exact hbl.out.alloc HSZ.out _)
        have HK0 : Hid (Keeps 5 w w0) := Lib.hid (by rw [← hw0]; exact hkp.out.trans (Keeps.alloc _ _ _))
        have HSZ0 := Lib.hid (Nat.le_trans hB HB0.out.size)
        have HL0 : Hid (out.length + 1 ≤ 4294967296) := Lib.hid (by have := HLE.out; omega)
        clear hp hd h0 hs0 hs1 hown
        go_upto_region 5 with fail
        try rw [hw0]
        clear hw0
        go_wp2_with (at_builtin; refine append_laid rfl _ _ 77 rfl B 5 iI (.int .u8 0) 1 1 Try.underlying77 ia ib ic id rfl (by decide) (by decide) _ out.length (out.map bV) rfl HO0.out 1 (by decide) [.int .u8 32] rfl rfl rfl HL0.out HSZ0.out ?_)
        intro v1 w1 ho1 hb1 hk1
        have HO1 : Hid (BOwn w1 B v1 (out ++ [32])) := Lib.hid (BOwn.app (m := [32]) ho1 rfl)
        have hs1 := HX0.out.keep (by decide) hk1
        have k0 := hs1.cell (i := 0) rfl
        have HX1 := Lib.hid hs1
        have HB1 := Lib.hid (HB0.out.trans hb1)
        have HK1 := Lib.hid (HK0.out.trans hk1)
        have HSZ1 := Lib.hid (Nat.le_trans hB HB1.out.size)
        have HLL : Hid ((out ++ [32]).length + nm.length ≤ 4294967296) := Lib.hid (by have := HLE.out; have := HNL.out; simp only [List.length_append, List.length_singleton]; omega)
        obtain ⟨Z, hZ⟩ : ∃ Z, out ++ [32] = Z := ⟨_, rfl⟩
        have HZL : Hid (Z.length = out.length + 1) := Lib.hid (by rw [← hZ]; simp)
        rw [hZ] at HO1 HP HLL
        clear ho1 hb1 hk1 hs1 hZ
        go_wp2_with (at_builtin; refine append_str rfl _ _ rfl B iI Try.underlying77 Try.underlying9 ia ib ic id v1 (Z.map bV) Z.length rfl HO1.out nm HNM.out rfl HLL.out HSZ1.out ?_)
        intro v2 w2 ho2 hb2 hk2
        have hx2 := HX1.out.keep (by decide) hk2
        have HO2n := Lib.hid ho2
        have HB2 := Lib.hid (HB1.out.trans hb2)
        have HK2 := Lib.hid (HK1.out.trans hk2)
        have HSZ2 := Lib.hid (Nat.le_trans hB HB2.out.size)
        obtain ⟨N2, hN2⟩ : ∃ N, Z.length + nm.length = N := ⟨_, rfl⟩
        obtain ⟨M2, hM2⟩ : ∃ M, Z.map bV ++ nm.map bV = M := ⟨_, rfl⟩
        rw [hN2, hM2] at HO2n
        have HN2 := Lib.hid hN2
        have HM2 := Lib.hid hM2
        have HL2 : Hid (N2 + 1 ≤ 4294967296) := Lib.hid (by have := HLE.out; have := HNL.out; have := HZL.out; rw [← hN2]; first | (simp only [List.length_append, List.length_singleton]; omega) | omega)
        have HX2 := Lib.hid hx2
        clear ho2 hb2 hk2 hx2 hN2 hM2
        go_wp2_with (at_builtin; refine append_laid rfl _ _ 77 rfl B 5 iI (.int .u8 0) 1 1 Try.underlying77 ia ib ic id rfl (by decide) (by decide) _ N2 M2 rfl HO2n.out 1 (by decide) [.int .u8 32] rfl rfl rfl HL2.out HSZ2.out ?_)
        intro v3 w3 ho3 hb3 hk3
        have HO3 : Hid (BOwn w3 B v3 ((Z ++ nm) ++ [32])) := Lib.hid (by
          rw [← HM2.out, ← List.map_append] at ho3
          exact BOwn.app (m := [32]) ho3 (by rw [← HN2.out, List.length_append]; rfl))
        have hx3 := HX2.out.keep (by decide) hk3
        have c1 := hx3.cell (i := 1) rfl
        have HB3 := Lib.hid (HB2.out.trans hb3)
        have HK3 := Lib.hid (HK2.out.trans hk3)
        have HSZ3 := Lib.hid (Nat.le_trans hB HB3.out.size)
        have HAP := Lib.hid (appInt_any B v3 ((Z ++ nm) ++ [32]) z w3 HO3.out HZ.out (by have := HLE.out; have := HNL.out; have := HZL.out; simp only [List.length_append, List.length_singleton]; omega) HSZ3.out)
        clear ho3 hb3 hk3 hx3
        go_wp2_with fail
        refine HAP.out.mono ?_
        rintro e w4 ⟨v4, rfl, ho4, hb4, hk4⟩
        have HO4 := Lib.hid ho4
        have HB4 := Lib.hid (HB3.out.trans hb4)
        have HK4 := Lib.hid (HK3.out.trans hk4)
        clear ho4 hb4 hk4
        go_wp2
        go_roundw
        case rel => exact ⟨j + 1, ((Z ++ nm) ++ [32]) ++ digI z, by omega, by go_num, Lib.hid (by have := hol.out; have := HNL.out; have := digI_len z; have := HZL.out; simp only [List.length_append, List.length_singleton]; omega), HO4, HB4, HK4, HP⟩
        case measure => simp [RowKit.intOf]; omega
    · have hj2 : j = l.length := by omega
      have HP : Hid (out = R) := Lib.hid (by
        rw [← hp.out, hj2, List.drop_length]
        simp [numsF])
      have HL : Hid (out.length + 1 ≤ 4294967296) := Lib.hid (by have := HN.out; have := hol.out; omega)
      clear hp
      subst hj2
      have HO1 : Hid (wr.ownsRow B 5 1 u0 out.length (out.map bV)) := hown
      go_wp2_with (at_builtin; refine append_laid rfl _ _ 77 rfl B 5 iI (.int .u8 0) 1 1 Try.underlying77 ia ib ic id rfl (by decide) (by decide) _ out.length (out.map bV) rfl HO1.out 1 (by decide) [.int .u8 10] rfl rfl rfl HL.out HSZ.out ?_)
      intro v3 w3 ho3 hb3 hk3
      have HO3 : Hid (BOwn w3 B v3 (R ++ [10])) := Lib.hid (by rw [← HP.out]; exact BOwn.app (m := [10]) ho3 rfl)
      have HB3 := Lib.hid (hbl.out.trans hb3)
      have HK3 := Lib.hid (hkp.out.trans hk3)
      clear ho3 hb3 hk3
      go_wp2
      go_ret
      exact ⟨_, rfl, HO3.out, HB3.out, HK3.out⟩
end Go.Proofs.Ythacohejdpjjeaa
