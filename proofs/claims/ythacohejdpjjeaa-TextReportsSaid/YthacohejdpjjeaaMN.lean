/- Walks of the document's answer: the lines of events and calls. -/
import Derived.Test.YthacohejdpjjeaaMM
import Derived.Test.YthacohejdpjjeaaHQ
namespace Go.Proofs.Ythacohejdpjjeaa
open Go.RowKit Go.Lib Go.Sort

/-- a string of known bytes, so many at most -/
structure StrS (A : ByteArray) (L : List Nat) (n : Nat) : Prop where
  s : A = strB L
  l : L.length ≤ n
theorem add_next {A Bs : ByteArray} {L M : List Nat} {n m : Nat} (h : StrS A L n) (k : StrS Bs M m) (hn : n + m ≤ 9000000000000000000) :
    ∃ C, StrS C (L ++ M) (n + m) ∧ ∀ W, (Op.stringOp .add A Bs).run Try.prog W = .ok (.string C) W := by
  obtain ⟨rfl, h2⟩ := h
  obtain ⟨rfl, k2⟩ := k
  exact ⟨_, ⟨rfl, by rw [List.length_append]; omega⟩, fun W => add_strs L M (by omega) W⟩
theorem sp_str : StrS ⟨#[32]⟩ [32] 1 := ⟨str_space, Nat.le_refl _⟩
theorem rint_str {z : Int} (hz : I63 z) : ∃ P, StrS P (digI z) 21 ∧ ∀ W, Calls Try.prog 36 #[.int .i64 z] W fun e w' => e = .returned (.string P) ∧ Below W.heap.size W w' :=
  ⟨_, ⟨rfl, digI_len z⟩, fun W => rint_any z W hz⟩
theorem rdig_str {x : Nat} (hx : x < 18446744073709551616) : ∃ P, StrS P (digs x) 21 ∧ ∀ W, Calls Try.prog 49 #[.int .u64 (x : Int)] W fun e w' => e = .returned (.string P) ∧ Below W.heap.size W w' :=
  ⟨_, ⟨rfl, Nat.le_trans (digs_len x) (by decide)⟩, fun W => rdigits_any x W hx⟩
/-- where an event's lists lie, for what only reads -/
structure EvR (w : World) (e : EvX) (s : EvS) : Prop where
  la : 0 < e.lw.length → s.la = some ⟨s.lb, s.lo, none⟩
  lb : 0 < e.lw.length → s.lb < w.heap.size
  lr : e.lw.length ≤ s.lc
  lc : ∀ (i : Nat) (x : Nat), e.lw[i]? = some x → w.cell? ⟨s.lb, s.lo + i, none⟩ = some (.int .u64 (x : Int))
  ka : 0 < e.kw.length → s.ka = some ⟨s.kb, s.ko, none⟩
  kb : 0 < e.kw.length → s.kb < w.heap.size
  kr : e.kw.length ≤ s.kc
  kc : ∀ (i : Nat) (x : Int), e.kw[i]? = some x → w.cell? ⟨s.kb, s.ko + i, none⟩ = some (.int .i64 x)
theorem EvR.below {w w' : World} {e : EvX} {s : EvS} (h : EvR w e s) (hb : Below w.heap.size w w') : EvR w' e s := by
  refine ⟨h.la, fun h0 => Nat.lt_of_lt_of_le (h.lb h0) hb.size, h.lr, fun i x hx => ?_, h.ka, fun h0 => Nat.lt_of_lt_of_le (h.kb h0) hb.size, h.kr, fun i x hx => ?_⟩
  · exact (hb.cell (p := ⟨s.lb, _, none⟩) (h.lb (by have := (List.getElem?_eq_some_iff.1 hx).1; omega))).trans (h.lc i x hx)
  · exact (hb.cell (p := ⟨s.kb, _, none⟩) (h.kb (by have := (List.getElem?_eq_some_iff.1 hx).1; omega))).trans (h.kc i x hx)
theorem EvR.at {w : World} {B : Nat} {e : EvX} {s : EvS} (h : EvR w e s) (hB : w.heap.size ≤ B) : EvAt w B e s := by
  refine ⟨h.la, h.lr, LaterC.of (fun i u hu => ?_) (fun h0 => ?_), h.ka, h.kr, LaterC.of (fun i u hu => ?_) (fun h0 => ?_)⟩
  · rw [List.getElem?_map, Option.map_eq_some_iff] at hu
    obtain ⟨x, hx, rfl⟩ := hu
    exact h.lc i x hx
  · have := h.lb (by simpa using h0); omega
  · rw [List.getElem?_map, Option.map_eq_some_iff] at hu
    obtain ⟨x, hx, rfl⟩ := hu
    exact h.kc i x hx
  · have := h.kb (by simpa using h0); omega

set_option maxHeartbeats 4000000 in
set_option maxRecDepth 100000 in
theorem revent_any (x : EvX) (s : EvS) (w : World) (hx : x.Ok) (hs : EvR w x s) (hn : x.lw.length ≤ 100000000 ∧ x.kw.length ≤ 100000000) :
    Calls Try.prog 35 #[evV x s] w (StrP (evLine x) w) := by
  obtain ⟨ca, iv, rs, st, er, vl, lw, kw⟩ := x
  obtain ⟨la, lb, lo, lc, ka, kb, ko, kc⟩ := s
  obtain ⟨h1, h2, h3, h4, h5, h6, h7, h8⟩ := hx
  dsimp only at h1 h2 h3 h4 h5 h6 h7 h8 hn ⊢
  obtain ⟨Pca, qca, Cca⟩ := rint_str h1
  obtain ⟨Piv, qiv, Civ⟩ := rint_str h2
  obtain ⟨Prs, qrs, Crs⟩ := rint_str h3
  obtain ⟨Pst, qst, Cst⟩ := rint_str h4
  obtain ⟨Per, qer, Cer⟩ := rint_str h5
  obtain ⟨Pvl, qvl, Cvl⟩ := rdig_str h6
  have hlen1 : (listL digs lw).length ≤ 2300000000 := by have := listL_len (p := digs) (k := 20) digs_len lw; omega
  have hlen2 : (listL digI kw).length ≤ 2300000000 := by have := listL_len (p := digI) (k := 21) digI_len kw; omega
  obtain ⟨Plw, elw⟩ : ∃ P, P = strB (listL digs lw) := ⟨_, rfl⟩
  obtain ⟨Pkw, ekw⟩ : ∃ P, P = strB (listL digI kw) := ⟨_, rfl⟩
  have qlw : StrS Plw (listL digs lw) 2300000000 := ⟨elw, hlen1⟩
  have qkw : StrS Pkw (listL digI kw) 2300000000 := ⟨ekw, hlen2⟩
  obtain ⟨S1, r1, had1⟩ := add_next qca sp_str (by omega)
  obtain ⟨S2, r2, had2⟩ := add_next r1 qiv (by omega)
  obtain ⟨S3, r3, had3⟩ := add_next r2 sp_str (by omega)
  obtain ⟨S4, r4, had4⟩ := add_next r3 qrs (by omega)
  obtain ⟨S5, r5, had5⟩ := add_next r4 sp_str (by omega)
  obtain ⟨S6, r6, had6⟩ := add_next r5 qst (by omega)
  obtain ⟨S7, r7, had7⟩ := add_next r6 sp_str (by omega)
  obtain ⟨S8, r8, had8⟩ := add_next r7 qer (by omega)
  obtain ⟨S9, r9, had9⟩ := add_next r8 sp_str (by omega)
  obtain ⟨S10, r10, had10⟩ := add_next r9 qvl (by omega)
  obtain ⟨S11, r11, had11⟩ := add_next r10 sp_str (by omega)
  obtain ⟨S12, r12, had12⟩ := add_next r11 qlw (by omega)
  obtain ⟨S13, r13, had13⟩ := add_next r12 sp_str (by omega)
  obtain ⟨S14, r14, had14⟩ := add_next r13 qkw (by omega)
  have hR : StrS S14 (evLine ⟨ca, iv, rs, st, er, vl, lw, kw⟩) 9000000000 := ⟨by rw [r14.s]; congr 1; simp [evLine, numsF], by
    have := evLine_len ⟨ca, iv, rs, st, er, vl, lw, kw⟩
    dsimp only at this
    omega⟩
  have HR := Lib.hid hR.s
  have hw1 : Below w.heap.size w (w.alloc (.cells #[.int .i64 ca, .int .i64 iv, .int .i64 rs, .int .i64 st, .int .i64 er, .int .u64 (vl : Int), .slice la lw.length lc, .slice ka kw.length kc] 44)) := (Below.refl _ _).alloc (Nat.le_refl _) _
  have HB0 := Lib.hid hw1
  have hs1 := hs.below hw1
  have hst := StB.new w 44 (evVs ⟨ca, iv, rs, st, er, vl, lw, kw⟩ ⟨la, lb, lo, lc, ka, kb, ko, kc⟩)
  obtain ⟨w0, hw0⟩ : ∃ w0, w.alloc (.cells #[.int .i64 ca, .int .i64 iv, .int .i64 rs, .int .i64 st, .int .i64 er, .int .u64 (vl : Int), .slice la lw.length lc, .slice ka kw.length kc] 44) = w0 := ⟨_, rfl⟩
  have hsz : w.heap.size < w0.heap.size := by rw [← hw0]; simp
  have hst0 : StB w0 w.heap.size 44 (evVs ⟨ca, iv, rs, st, er, vl, lw, kw⟩ ⟨la, lb, lo, lc, ka, kb, ko, kc⟩) := by rw [← hw0]; exact hst
  rw [hw0] at HB0 hs1
  have Clw : ∀ p : BW w0.heap.size w0, Calls Try.prog 50 #[.slice la lw.length lc] p.v fun e w' => e = .returned (.string Plw) ∧ Below p.v.heap.size p.v w' := fun p => by
    have h := hs1.below p.h
    rw [elw]
    exact rlistW_any la lb lo lc lw p.v h.la h.lb h.lc h7 hn.1
  have Ckw : ∀ p : BW w0.heap.size w0, Calls Try.prog 51 #[.slice ka kw.length kc] p.v fun e w' => e = .returned (.string Pkw) ∧ Below p.v.heap.size p.v w' := fun p => by
    have h := hs1.below p.h
    rw [ekw]
    exact rlistI_any ka kb ko kc kw p.v h.ka h.kb h.kc h8 hn.2
  have l0 : ∀ p : BW w0.heap.size w0, p.v.cell? ⟨w.heap.size, 0, none⟩ = some (.int .i64 ca) := fun p => p.cell hsz (hst0.cell (i := 0) rfl)
  have l1 : ∀ p : BW w0.heap.size w0, p.v.cell? ⟨w.heap.size, 1, none⟩ = some (.int .i64 iv) := fun p => p.cell hsz (hst0.cell (i := 1) rfl)
  have l2 : ∀ p : BW w0.heap.size w0, p.v.cell? ⟨w.heap.size, 2, none⟩ = some (.int .i64 rs) := fun p => p.cell hsz (hst0.cell (i := 2) rfl)
  have l3 : ∀ p : BW w0.heap.size w0, p.v.cell? ⟨w.heap.size, 3, none⟩ = some (.int .i64 st) := fun p => p.cell hsz (hst0.cell (i := 3) rfl)
  have l4 : ∀ p : BW w0.heap.size w0, p.v.cell? ⟨w.heap.size, 4, none⟩ = some (.int .i64 er) := fun p => p.cell hsz (hst0.cell (i := 4) rfl)
  have l5 : ∀ p : BW w0.heap.size w0, p.v.cell? ⟨w.heap.size, 5, none⟩ = some (.int .u64 (vl : Int)) := fun p => p.cell hsz (hst0.cell (i := 5) rfl)
  have l6 : ∀ p : BW w0.heap.size w0, p.v.cell? ⟨w.heap.size, 6, none⟩ = some (.slice la lw.length lc) := fun p => p.cell hsz (hst0.cell (i := 6) rfl)
  have l7 : ∀ p : BW w0.heap.size w0, p.v.cell? ⟨w.heap.size, 7, none⟩ = some (.slice ka kw.length kc) := fun p => p.cell hsz (hst0.cell (i := 7) rfl)
  have Hca := Lib.hid Cca
  have Hiv := Lib.hid Civ
  have Hrs := Lib.hid Crs
  have Hst := Lib.hid Cst
  have Her := Lib.hid Cer
  have Hvl := Lib.hid Cvl
  have Hlw := Lib.hid Clw
  have Hkw := Lib.hid Ckw
  clear qca Cca qiv Civ qrs Crs qst Cst qer Cer qvl Cvl qlw Clw qkw Ckw hlen1 hlen2 elw ekw hR hw1 hs1 hst hsz hst0 hs hn h1 h2 h3 h4 h5 h6 h7 h8 r1 r2 r3 r4 r5 r6 r7 r8 r9 r10 r11 r12 r13 r14
  unfold StrP
  generalize strB (evLine ⟨ca, iv, rs, st, er, vl, lw, kw⟩) = R at HR ⊢
  go_enter Try.func35, Try.ntmps35
  go_wp2
  try rw [hw0]
  clear hw0
  refine wp_region_low (B := w0.heap.size) (w := w0) (by kernel_rfl) (by kernel_rfl) ?_
  repeat (go_big_quiet_step (first
    | (go_at_call 36; with_reducible exact low_call (Hca.out _) (Nat.le_refl _))
    | (go_at_call 36; with_reducible exact low_call (Hiv.out _) (Nat.le_refl _))
    | (go_at_call 36; with_reducible exact low_call (Hrs.out _) (Nat.le_refl _))
    | (go_at_call 36; with_reducible exact low_call (Hst.out _) (Nat.le_refl _))
    | (go_at_call 36; with_reducible exact low_call (Her.out _) (Nat.le_refl _))
    | (go_at_call 49; with_reducible exact low_call (Hvl.out _) (Nat.le_refl _))
    | (go_at_call 50; with_reducible exact low_call (Hlw.out _) (Nat.le_refl _))
    | (go_at_call 51; with_reducible exact low_call (Hkw.out _) (Nat.le_refl _))))
  refine wpQuiet_nil ?_
  intro w2 hw'
  obtain ⟨pq, eq1⟩ := hw'
  have hb2 := pq.h
  rw [← eq1] at hb2
  clear eq1 pq
  have HB2 := Lib.hid (HB0.out.trans (hb2.mono HB0.out.size))
  clear hb2
  go_wp2_with fail
  go_ret
  exact ⟨by rw [← HR.out]; rfl, HB2.out⟩

set_option maxHeartbeats 4000000 in
set_option maxRecDepth 100000 in
theorem rcall_any (x : CaX) (w : World) (hx : x.Ok) :
    Calls Try.prog 34 #[caV x] w (StrP (caLine x) w) := by
  obtain ⟨th, ob, kd, a, b, c⟩ := x
  obtain ⟨h1, h2, h3, h4, h5, h6⟩ := hx
  dsimp only at h1 h2 h3 h4 h5 h6 ⊢
  obtain ⟨Pth, qth, Cth⟩ := rint_str h1
  obtain ⟨Pob, qob, Cob⟩ := rint_str h2
  obtain ⟨Pkd, qkd, Ckd⟩ := rint_str h3
  obtain ⟨Pa, qa, Ca⟩ := rdig_str h4
  obtain ⟨Pb, qb, Cb⟩ := rdig_str h5
  obtain ⟨Pc, qc, Cc⟩ := rdig_str h6
  obtain ⟨S1, r1, had1⟩ := add_next qth sp_str (by omega)
  obtain ⟨S2, r2, had2⟩ := add_next r1 qob (by omega)
  obtain ⟨S3, r3, had3⟩ := add_next r2 sp_str (by omega)
  obtain ⟨S4, r4, had4⟩ := add_next r3 qkd (by omega)
  obtain ⟨S5, r5, had5⟩ := add_next r4 sp_str (by omega)
  obtain ⟨S6, r6, had6⟩ := add_next r5 qa (by omega)
  obtain ⟨S7, r7, had7⟩ := add_next r6 sp_str (by omega)
  obtain ⟨S8, r8, had8⟩ := add_next r7 qb (by omega)
  obtain ⟨S9, r9, had9⟩ := add_next r8 sp_str (by omega)
  obtain ⟨S10, r10, had10⟩ := add_next r9 qc (by omega)
  have HR : Hid (S10 = strB (caLine ⟨th, ob, kd, a, b, c⟩)) := Lib.hid (by rw [r10.s]; congr 1; simp [caLine, numsF])
  have hw1 : Below w.heap.size w (w.alloc (.cells #[.int .i64 th, .int .i64 ob, .int .i64 kd, .int .u64 (a : Int), .int .u64 (b : Int), .int .u64 (c : Int)] 39)) := (Below.refl _ _).alloc (Nat.le_refl _) _
  have HB0 := Lib.hid hw1
  have hst := StB.new w 39 [.int .i64 th, .int .i64 ob, .int .i64 kd, .int .u64 (a : Int), .int .u64 (b : Int), .int .u64 (c : Int)]
  obtain ⟨w0, hw0⟩ : ∃ w0, w.alloc (.cells #[.int .i64 th, .int .i64 ob, .int .i64 kd, .int .u64 (a : Int), .int .u64 (b : Int), .int .u64 (c : Int)] 39) = w0 := ⟨_, rfl⟩
  have hsz : w.heap.size < w0.heap.size := by rw [← hw0]; simp
  have hst0 : StB w0 w.heap.size 39 [.int .i64 th, .int .i64 ob, .int .i64 kd, .int .u64 (a : Int), .int .u64 (b : Int), .int .u64 (c : Int)] := by rw [← hw0]; exact hst
  rw [hw0] at HB0
  have l0 : ∀ p : BW w0.heap.size w0, p.v.cell? ⟨w.heap.size, 0, none⟩ = some (.int .i64 th) := fun p => p.cell hsz (hst0.cell (i := 0) rfl)
  have l1 : ∀ p : BW w0.heap.size w0, p.v.cell? ⟨w.heap.size, 1, none⟩ = some (.int .i64 ob) := fun p => p.cell hsz (hst0.cell (i := 1) rfl)
  have l2 : ∀ p : BW w0.heap.size w0, p.v.cell? ⟨w.heap.size, 2, none⟩ = some (.int .i64 kd) := fun p => p.cell hsz (hst0.cell (i := 2) rfl)
  have l3 : ∀ p : BW w0.heap.size w0, p.v.cell? ⟨w.heap.size, 3, none⟩ = some (.int .u64 (a : Int)) := fun p => p.cell hsz (hst0.cell (i := 3) rfl)
  have l4 : ∀ p : BW w0.heap.size w0, p.v.cell? ⟨w.heap.size, 4, none⟩ = some (.int .u64 (b : Int)) := fun p => p.cell hsz (hst0.cell (i := 4) rfl)
  have l5 : ∀ p : BW w0.heap.size w0, p.v.cell? ⟨w.heap.size, 5, none⟩ = some (.int .u64 (c : Int)) := fun p => p.cell hsz (hst0.cell (i := 5) rfl)
  have Hth := Lib.hid Cth
  have Hob := Lib.hid Cob
  have Hkd := Lib.hid Ckd
  have Ha := Lib.hid Ca
  have Hb := Lib.hid Cb
  have Hc := Lib.hid Cc
  clear qth Cth qob Cob qkd Ckd qa Ca qb Cb qc Cc hw1 hst hsz hst0 h1 h2 h3 h4 h5 h6 r1 r2 r3 r4 r5 r6 r7 r8 r9 r10
  unfold StrP
  generalize strB (caLine ⟨th, ob, kd, a, b, c⟩) = R at HR ⊢
  go_enter Try.func34, Try.ntmps34
  go_wp2
  try rw [hw0]
  clear hw0
  refine wp_region_low (B := w0.heap.size) (w := w0) (by kernel_rfl) (by kernel_rfl) ?_
  repeat (go_big_quiet_step (first
    | (go_at_call 36; with_reducible exact low_call (Hth.out _) (Nat.le_refl _))
    | (go_at_call 36; with_reducible exact low_call (Hob.out _) (Nat.le_refl _))
    | (go_at_call 36; with_reducible exact low_call (Hkd.out _) (Nat.le_refl _))
    | (go_at_call 49; with_reducible exact low_call (Ha.out _) (Nat.le_refl _))
    | (go_at_call 49; with_reducible exact low_call (Hb.out _) (Nat.le_refl _))
    | (go_at_call 49; with_reducible exact low_call (Hc.out _) (Nat.le_refl _))))
  refine wpQuiet_nil ?_
  intro w2 hw'
  obtain ⟨pq, eq1⟩ := hw'
  have hb2 := pq.h
  rw [← eq1] at hb2
  clear eq1 pq
  have HB2 := Lib.hid (HB0.out.trans (hb2.mono HB0.out.size))
  clear hb2
  go_wp2_with fail
  go_ret
  exact ⟨by rw [← HR.out]; rfl, HB2.out⟩
end Go.Proofs.Ythacohejdpjjeaa
