/- cut: the first event of each call; a line of a play's calls. -/
import Derived.Test.YthacohejdpjjeaaCTA
import Derived.Test.YthacohejdpjjeaaCTB
import Derived.Test.YthacohejdpjjeaaU6
import Derived.Test.YthacohejdpjjeaaMN
import Derived.Deep.Cut
namespace Go.Proofs.Ythacohejdpjjeaa
open Go.RowKit Go.Lib Go.Sort
set_option linter.unusedVariables false

/-- events, where they lie -/
structure EvsR (w : World) (va : Option Addr) (vb vo : Nat) (le : List (EvX × EvS)) : Prop where
  ea : 0 < le.length → va = some ⟨vb, vo, none⟩
  eb : 0 < le.length → vb < w.heap.size
  ec : ∀ (i : Nat) (p : EvX × EvS), le[i]? = some p → ∀ (k : Nat) (u : Value), (evVs p.1 p.2)[k]? = some u → w.cell? ⟨vb, vo + i * 8 + k, none⟩ = some u
  ek : ∀ p ∈ le, p.1.Ok ∧ EvR w p.1 p.2
theorem EvsR.below {w w' : World} {ea : Option Addr} {eb eo : Nat} {le : List (EvX × EvS)} (h : EvsR w ea eb eo le) (hb : Below w.heap.size w w') : EvsR w' ea eb eo le := by
  refine ⟨h.ea, fun h0 => Nat.lt_of_lt_of_le (h.eb h0) hb.size, fun i p hp k u hu => ?_, fun p hp => ⟨(h.ek p hp).1, (h.ek p hp).2.below hb⟩⟩
  exact (hb.cell (p := ⟨eb, _, none⟩) (h.eb (by have := (List.getElem?_eq_some_iff.1 hp).1; omega))).trans (h.ec i p hp k u hu)
/-- the cells of one event -/
theorem EvsR.cells {w : World} {ea : Option Addr} {eb eo : Nat} {le : List (EvX × EvS)} (h : EvsR w ea eb eo le) {i : Nat} {x : EvX} {s : EvS} (hp : le[i]? = some (x, s)) :
    w.cell? ⟨eb, eo + i * 8, none⟩ = some (.int .i64 x.ca) ∧ w.cell? ⟨eb, eo + i * 8 + 1, none⟩ = some (.int .i64 x.iv) ∧ w.cell? ⟨eb, eo + i * 8 + 2, none⟩ = some (.int .i64 x.rs) ∧ w.cell? ⟨eb, eo + i * 8 + 3, none⟩ = some (.int .i64 x.st) ∧
    w.cell? ⟨eb, eo + i * 8 + 4, none⟩ = some (.int .i64 x.er) ∧ w.cell? ⟨eb, eo + i * 8 + 5, none⟩ = some (.int .u64 (x.vl : Int)) ∧ w.cell? ⟨eb, eo + i * 8 + 6, none⟩ = some (.slice s.la x.lw.length s.lc) ∧ w.cell? ⟨eb, eo + i * 8 + 7, none⟩ = some (.slice s.ka x.kw.length s.kc) :=
  ⟨h.ec i _ hp 0 _ rfl, h.ec i _ hp 1 _ rfl, h.ec i _ hp 2 _ rfl, h.ec i _ hp 3 _ rfl, h.ec i _ hp 4 _ rfl, h.ec i _ hp 5 _ rfl, h.ec i _ hp 6 _ rfl, h.ec i _ hp 7 _ rfl⟩
def exs (le : List (EvX × EvS)) : List EvX := le.map Prod.fst
theorem exs_get {le : List (EvX × EvS)} {i : Nat} {x : EvX} {s : EvS} (h : le[i]? = some (x, s)) : (exs le)[i]? = some x := by unfold exs; rw [List.getElem?_map, h]; rfl
theorem exs_len (le : List (EvX × EvS)) : (exs le).length = le.length := by unfold exs; simp
/-- what the map of first events has -/
def evG (l : List EvX) (c : Int) : Option Int := (evI l c).map (fun j : Nat => (j : Int))
theorem evG_nil : evG [] = fun _ => none := rfl
theorem evG_hit {l : List EvX} {x : EvX} {j : Nat} (h : (evI l x.ca).isSome = true) : evG (l ++ [x]) = evG l := by
  funext c
  unfold evG
  rw [evI_snoc]
  by_cases hc : x.ca = c
  · subst hc
    obtain ⟨a, ha⟩ := Option.isSome_iff_exists.1 h
    rw [ha]; rfl
  · rw [if_neg hc, Option.or_none]
theorem evG_new {l : List EvX} {x : EvX} (h : evI l x.ca = none) : evG (l ++ [x]) = updF (evG l) x.ca (some (l.length : Int)) := by
  funext c
  by_cases hc : c = x.ca
  · subst hc
    rw [updF_same]
    unfold evG
    rw [evI_snoc, h, if_pos rfl]
    rfl
  · rw [updF_other _ _ hc]
    unfold evG
    rw [evI_snoc, if_neg (fun e => hc e.symm), Option.or_none]
theorem zeroIn (w : World) : (zeroValue 3).run Try.prog w = .ok (.int .i64 0) w := by kernel_rfl
theorem MapN.mono {P : Program} {k : TypeId} {w : World} {b n n' : Nat} {g : Int → Option Int} (h : MapN P k w b n g) (hn : n ≤ n') : MapN P k w b n' g := by obtain ⟨D, h, h2⟩ := h; exact ⟨D, h.mono hn, h2⟩

set_option maxHeartbeats 2000000 in
set_option maxRecDepth 100000 in
theorem byCall_any (ea : Option Addr) (eb eo ec : Nat) (le : List (EvX × EvS)) (w : World) (h : EvsR w ea eb eo le) (hl : le.length ≤ 4000000) :
    Calls Try.prog 20 #[.slice ea le.length ec] w fun e w' => ∃ b, e = .returned (.map (some b)) ∧ w.heap.size ≤ b ∧ MapN Try.prog 3 w' b le.length (evG (exs le)) ∧ Below w.heap.size w w' := by
  have HE := Lib.hid h
  clear h
  have hmm := @run_makeMap Try.prog
  go_enter Try.func20, Try.ntmps20
  go_wp2
  go_loopw [11] (fun k wr => ∃ (j : Nat), j ≤ le.length ∧ k = .int .i64 j ∧ Hid (MapN Try.prog 3 wr w.heap.size j (evG ((exs le).take j))) ∧ Hid (Below w.heap.size w wr)) (fun k _ => le.length - (RowKit.intOf k).toNat)
  case atStart => exact ⟨0, Nat.zero_le _, rfl, Lib.hid (MapN.made _ _ _), Lib.hid ((Below.refl _ _).alloc (Nat.le_refl _) _)⟩
  case round =>
    obtain ⟨j, hj, rfl, hM, hB⟩ := hrel
    by_cases hlt : j < le.length
    · obtain rfl := HE.out.ea (by omega)
      obtain ⟨⟨x, s⟩, hp⟩ : ∃ p, le[j]? = some p := ⟨le[j], List.getElem?_eq_getElem hlt⟩
      have hx := exs_get hp
      have hok := (HE.out.ek _ (List.mem_of_getElem? hp)).1
      obtain ⟨e0, e1, e2, e3, e4, e5, e6, e7⟩ := (HE.out.below hB.out).cells hp
      have hsn : (exs le).take (j + 1) = (exs le).take j ++ [x] := take_snoc hx
      have hsl : ((exs le).take j).length = j := by rw [List.length_take, exs_len]; omega
      have HSN := Lib.hid hsn
      have HSL := Lib.hid hsl
      have HOK := Lib.hid hok
      have HSZ : Hid (w.heap.size ≤ wr.heap.size) := Lib.hid hB.out.size
      obtain ⟨w2, hw2⟩ : ∃ w2, wr.alloc (evO x s) = w2 := ⟨_, rfl⟩
      have hs0 := StB.new wr 44 (evVs x s)
      rw [show wr.alloc (.cells (evVs x s).toArray 44) = w2 from hw2] at hs0
      have HM2 : Hid (MapN Try.prog 3 w2 w.heap.size j (evG ((exs le).take j))) := Lib.hid (by rw [← hw2]; exact hM.out.alloc _)
      have HB2 : Hid (Below w.heap.size w w2) := Lib.hid (by rw [← hw2]; exact hB.out.alloc HSZ.out _)
      have k0 := hs0.cell (i := 0) rfl
      clear hp hx hok hs0 hM hB hsn hsl
      have hlen : j < 4000000 := by omega
      obtain ⟨ca, iv, rs, st, er, vl, lw, kw⟩ := x
      obtain ⟨la, lb, lo, lc, ka, kb, ko, kc⟩ := s
      dsimp only [evVs] at *
      go_upto_region 5 with fail
      try rw [hw2]
      clear hw2 e0 e1 e2 e3 e4 e5 e6 e7
      have hwf : (Lit.int .i64 ca).wf = true := WalkArith.wf_i64 HOK.out.ca
      have hlk := HM2.out.lookOk (t := 62) Try.underlying3 Try.underlying62 (zeroIn _) hwf
      by_cases hc : (evG ((exs le).take j) ca).isSome = true
      · rw [hc] at hlk
        generalize (evG ((exs le).take j) ca).getD 0 = q at hlk
        have HM3 : Hid (MapN Try.prog 3 w2 w.heap.size (j + 1) (evG ((exs le).take (j + 1)))) := Lib.hid (by
          rw [HSN.out, evG_hit (j := j) (by unfold evG at hc; rw [Option.isSome_map] at hc; exact hc)]
          exact HM2.out.mono (by omega))
        clear hc
        go_wp2_with fail
        go_roundw
        case rel => exact ⟨j + 1, by omega, by go_num, HM3, HB2⟩
        case measure => simp [RowKit.intOf]; omega
      · have hc2 : evG ((exs le).take j) ca = none := by
          cases hq : evG ((exs le).take j) ca with
          | none => rfl
          | some q => rw [hq] at hc; exact absurd rfl hc
        rw [hc2] at hlk
        obtain ⟨w3, hst, hM3, hT3⟩ := HM2.out.store (t := 62) (e := 3) Try.underlying3 Try.underlying62 (by unfold maxLen; omega) hwf (j : Int)
        have HM3 : Hid (MapN Try.prog 3 w3 w.heap.size (j + 1) (evG ((exs le).take (j + 1)))) := Lib.hid (by
          rw [HSN.out, evG_new (by unfold evG at hc2; exact Option.map_eq_none_iff.1 hc2), HSL.out]
          exact hM3)
        have HB3 : Hid (Below w.heap.size w w3) := Lib.hid (HB2.out.grown hT3.grown HB2.out.size (fun k hk => by cases hk; omega))
        clear hc hc2 hM3 hT3
        go_wp2_with fail
        go_roundw
        case rel => exact ⟨j + 1, by omega, by go_num, HM3, HB3⟩
        case measure => simp [RowKit.intOf]; omega
    · have hj2 : j = le.length := by omega
      have HM3 : Hid (MapN Try.prog 3 wr w.heap.size le.length (evG (exs le))) := Lib.hid (by
        have := hM.out
        rw [hj2, ← exs_len le, List.take_length, exs_len] at this
        exact this)
      clear hM
      subst hj2
      go_wp2
      go_ret
      exact ⟨_, rfl, Nat.le_refl _, HM3.out, hB.out⟩
/-- what begin gives -/
def BeginP (n : Int) (cs : List CallV) (np : Nat) (w : World) (e : Ending) (w' : World) : Prop :=
  (wrongC n (thr cs) np ≠ 0 → e = .returned (.tuple #[.pointer none, .int .i64 (wrongC n (thr cs) np : Nat)])) ∧
  (wrongC n (thr cs) np = 0 → ∃ lb mb f, e = .returned (.tuple #[.pointer (some ⟨lb, 0, none⟩), .int .i64 0]) ∧ w.heap.size ≤ lb ∧ w.heap.size ≤ mb ∧ LineIs w' w'.heap.size lb mb cs.length f (ownL (thr cs) (List.replicate cs.length false))) ∧ Below w.heap.size w w'
theorem begin_wrong {n : Int} {cs : List CallV} {np : Nat} {w w' : World} {k : Nat} (h : wrongC n (thr cs) np = k) (hk : k ≠ 0) (hb : Below w.heap.size w w') : BeginP n cs np w (.returned (.tuple #[.pointer none, .int .i64 (k : Nat)])) w' :=
  ⟨fun _ => by rw [h], fun h0 => absurd (h.symm.trans h0) hk, hb⟩

set_option maxRecDepth 20000 in
set_option maxHeartbeats 2000000 in
theorem begin_any (n : Int) (ao : Option Addr) (b o cap : Nat) (cs : List CallV) (pa : Option Addr) (np pc : Nat) (w : World) (hc : CallsAt w b o cs) (ha : 0 < cs.length → ao = some ⟨b, o, none⟩) (hb : 0 < cs.length → b < w.heap.size) :
    Calls Try.prog 19 #[.int .i64 n, .slice ao cs.length cap, .slice pa np pc] w (BeginP n cs np w) := by
  have HN0 : Hid (Calls Try.prog 38 #[.int .i64 n, .slice none 0 0] w (LinePost n [] w)) := Lib.hid (new_any n none 0 0 0 [] w (fun h => absurd h (by simp)) (fun h => absurd h (by simp)) (fun i x h => by simp at h))
  have HN1 : Hid (∀ W, Below w.heap.size w W → Calls Try.prog 38 #[.int .i64 n, .slice ao cs.length cap] W (LinePost n cs W)) := Lib.hid (fun W hW => new_any n ao b o cap cs W ha (fun h => Nat.lt_of_lt_of_le (hb h) hW.size) (hc.stays hW hb))
  clear hc ha hb
  by_cases hn : n < 1 ∨ 16 < n
  · have hr : wrongC n (thr cs) np = 1 := by unfold wrongC; rw [if_pos hn]
    have hr0 : wrongL n (thr []) = 1 := wrongL_n hn
    have HE := Lib.hid (fun w' hb => begin_wrong (w := w) (w' := w') hr (by omega) hb)
    have HR0 := Lib.hid hr0
    clear hr hr0 hn
    go_enter Try.func19, Try.ntmps19
    go_wp2_with fail
    refine HN0.out.mono ?_
    rintro e w1 ⟨h1, _, hb1⟩
    have h2 := h1 (by rw [HR0.out]; decide)
    rw [HR0.out] at h2
    subst h2
    have HB1 := Lib.hid hb1
    clear h1 hb1
    go_wp2_with fail
    go_ret2
    exact HE.out _ HB1.out
  · have hr0 : wrongL n (thr []) = 0 := wrongL_ok hn (by simp [thr]) (by simp [thr])
    have HR0 := Lib.hid hr0
    have HN := Lib.hid hn
    clear hr0 hn
    by_cases hp : 65536 < np
    · have hr : wrongC n (thr cs) np = 3 := by unfold wrongC; rw [if_neg HN.out, if_pos hp]
      have HE := Lib.hid (fun w' hb => begin_wrong (w := w) (w' := w') hr (by omega) hb)
      clear hr
      have hp2 : (65536 : Int) < (np : Int) := by omega
      go_enter Try.func19, Try.ntmps19
      go_wp2_with fail
      refine HN0.out.mono ?_
      rintro e w1 ⟨_, h1, hb1⟩
      obtain ⟨lb, mb, f, rfl, _⟩ := h1 HR0.out
      have HB1 := Lib.hid hb1
      clear hb1
      go_wp2_with fail
      go_ret2
      exact HE.out _ HB1.out
    · have hr : wrongC n (thr cs) np = wrongL n (thr cs) := by unfold wrongC; rw [if_neg HN.out, if_neg hp]
      have HR := Lib.hid hr
      clear hr
      have hp2 : ¬ (65536 : Int) < (np : Int) := by omega
      go_enter Try.func19, Try.ntmps19
      go_wp2_with fail
      refine HN0.out.mono ?_
      rintro e w1 ⟨_, h1, hb1⟩
      obtain ⟨lb, mb, f, rfl, _⟩ := h1 HR0.out
      have HB1 := Lib.hid hb1
      clear hb1 h1
      go_wp2_with fail
      refine (HN1.out _ HB1.out).mono ?_
      rintro e w2 ⟨h2, h3, hb2⟩
      have HB2 := Lib.hid (HB1.out.trans (hb2.mono HB1.out.size))
      have hs1 := HB1.out.size
      clear hb2
      by_cases h0 : wrongL n (thr cs) = 0
      · obtain ⟨lb, mb, f, rfl, hl, hm, hL⟩ := h3 h0
        have HL := Lib.hid hL
        have HZ := Lib.hid h0
        clear h2 h3 hL h0
        go_wp2_with fail
        go_ret2
        exact ⟨fun h => absurd (HR.out.trans HZ.out) h, fun _ => ⟨lb, mb, f, rfl, by omega, by omega, HL.out⟩, HB2.out⟩
      · have h4 := h2 h0
        subst h4
        have HZ := Lib.hid h0
        clear h2 h3 h0
        go_wp2_with fail
        go_ret2
        exact begin_wrong HR.out HZ.out HB2.out
end Go.Proofs.Ythacohejdpjjeaa
