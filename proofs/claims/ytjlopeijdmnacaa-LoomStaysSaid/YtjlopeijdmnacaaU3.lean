/- Walks of pick: Now, steps; the reference's Wrong and Now. -/
import Derived.Test.YtjlopeijdmnacaaProg
import Derived.Test.YtjlopeijdmnacaaU2
import Derived.Test.YtjlopeijdmnacaaN1
import Derived.Test.YtjlopeijdmnacaaR
import Derived.WalkLawsBesides
namespace Go.Proofs.Ytjlopeijdmnacaa
open Go.RowKit

/-- numbers of calls lie in a row, below 'top' -/
def NumsAt (w : World) (top : Nat) (v : Value) (l : List Nat) : Prop :=
  ∃ (ao : Option Addr) (b o cap : Nat), v = .slice ao l.length cap ∧ (0 < l.length → ao = some ⟨b, o, none⟩ ∧ b < top) ∧ l.length ≤ cap ∧ cap ≤ 9223372036854775807 ∧ ∀ (i x : Nat), l[i]? = some x → w.cell? ⟨b, o + i, none⟩ = some (.int .i64 (x : Int))
theorem NumsAt.nil (w : World) (top : Nat) : NumsAt w top (.slice none 0 0) [] := ⟨none, 0, 0, 0, rfl, fun h => absurd h (by simp), by simp, by omega, fun i x h => by simp at h⟩
theorem NumsAt.stays {w w' : World} {top : Nat} {v : Value} {l : List Nat} (h : NumsAt w top v l) (hb : ∀ k, k < top → w'.heap[k]? = w.heap[k]?) : NumsAt w' top v l := by
  obtain ⟨ao, b, o, cap, rfl, ha, hc, hm, hx⟩ := h
  refine ⟨ao, b, o, cap, rfl, ha, hc, hm, fun i x h => ?_⟩
  have hl : 0 < l.length := by have := (List.getElem?_eq_some_iff.1 h).1; omega
  rw [← hx i x h]
  unfold World.cell?
  rw [hb b (ha hl).2]

/-- a line: its struct's block, its map's; what each thread has left -/
structure LineIs (w : World) (top lb mb n : Nat) (f : Int → Value) (own : Int → List Nat) : Prop where
  cell : w.cell? ⟨lb, 0, none⟩ = some (.map (some mb))
  map : MapIs Try.prog 3 w mb n (.slice none 0 0) f
  rows : ∀ p, NumsAt w top (f p) (own p)
  dom : ∀ p, own p ≠ [] → 0 ≤ p ∧ p < 16
  lt1 : lb < top
  lt2 : mb < top

theorem LineIs.ne {w : World} {top lb mb n : Nat} {f : Int → Value} {own : Int → List Nat} (h : LineIs w top lb mb n f own) : lb ≠ mb := by
  intro e
  have h1 := h.map.no_cell ⟨lb, 0, none⟩ e
  rw [h.cell] at h1; cases h1
theorem LineIs.stays {w w' : World} {top lb mb n : Nat} {f : Int → Value} {own : Int → List Nat} (h : LineIs w top lb mb n f own) {B : Nat} (hb : Below B w w') (hB : top ≤ B) : LineIs w' top lb mb n f own :=
  ⟨(hb.cell (p := ⟨lb, 0, none⟩) (Nat.lt_of_lt_of_le h.lt1 hB)).trans h.cell, h.map.below hb (Nat.lt_of_lt_of_le h.lt2 hB), fun p => (h.rows p).stays (fun k hk => hb.block k (Nat.lt_of_lt_of_le hk hB)), h.dom, h.lt1, h.lt2⟩
theorem LineIs.drewN {w : World} {top lb mb n : Nat} {f : Int → Value} {own : Int → List Nat} (h : LineIs w top lb mb n f own) (k : Nat) : LineIs (w.drewN k) top lb mb n f own := ⟨h.cell, h.map.drewN k, h.rows, h.dom, h.lt1, h.lt2⟩
theorem LineIs.drew {w : World} {top lb mb n : Nat} {f : Int → Value} {own : Int → List Nat} (h : LineIs w top lb mb n f own) : LineIs w.drew top lb mb n f own := ⟨h.cell, h.map.drew, h.rows, h.dom, h.lt1, h.lt2⟩

theorem zeroSl (w : World) : (zeroValue 23).run Try.prog w = .ok (.slice none 0 0) w := by kernel_rfl
theorem LineIs.look {w : World} {top lb mb n : Nat} {f : Int → Value} {own : Int → List Nat} (h : LineIs w top lb mb n f own) {p : Int} (hp : -9223372036854775808 ≤ p ∧ p ≤ 9223372036854775807) :
    (Instr.lookup 83 (.map (some mb)) (.int .i64 p) false).run Try.prog w = .ok (f p) w :=
  h.map.look Try.underlying3 Try.underlying83 (zeroSl w) (WalkArith.wf_i64 hp)

theorem now_nilptr (p : Int) (w : World) : Calls Try.prog 13 #[.pointer none, .int .i64 p] w fun e w' => e = .returned (.tuple #[.int .i64 0, .bool false]) ∧ w = w' := by
  go_enter Try.func13, Try.ntmps13
  go_wp2
  go_ret2
  exact ⟨rfl, rfl⟩

theorem now_done {top lb mb n : Nat} {f : Int → Value} {own : Int → List Nat} (p : Int) (w : World) (h : LineIs w top lb mb n f own) (hp : -9223372036854775808 ≤ p ∧ p ≤ 9223372036854775807) (ho : own p = []) :
    Calls Try.prog 13 #[.pointer (some ⟨lb, 0, none⟩), .int .i64 p] w fun e w' => e = .returned (.tuple #[.int .i64 0, .bool false]) ∧ w = w' := by
  have c0 := h.cell
  have hlk := h.look hp
  obtain ⟨ao, b, o, cap, hv, _, _, _, _⟩ := h.rows p
  rw [ho] at hv
  rw [hv] at hlk
  clear hv h
  go_enter Try.func13, Try.ntmps13
  go_wp2
  go_ret2
  exact ⟨rfl, rfl⟩

set_option maxRecDepth 20000 in
theorem now_at {top lb mb n : Nat} {f : Int → Value} {own : Int → List Nat} (p : Int) (w : World) (h : LineIs w top lb mb n f own) (hp : -9223372036854775808 ≤ p ∧ p ≤ 9223372036854775807) {i : Nat} {r : List Nat} (ho : own p = i :: r) :
    Calls Try.prog 13 #[.pointer (some ⟨lb, 0, none⟩), .int .i64 p] w fun e w' => e = .returned (.tuple #[.int .i64 (i : Int), .bool true]) ∧ w = w' := by
  have c0 := h.cell
  have hlk := h.look hp
  obtain ⟨ao, b, o, cap, hv, ha, hc, hm, hx⟩ := h.rows p
  rw [ho] at hv ha hx hc
  rw [hv] at hlk
  obtain ⟨rfl, _⟩ := ha (by simp)
  have c1 := hx 0 i rfl
  rw [Nat.add_zero] at c1
  obtain ⟨m, hml, hm0⟩ : ∃ m, (i :: r).length = m ∧ 0 < m := ⟨_, rfl, by simp⟩
  rw [hml] at hc hlk
  have hr : m ≤ 9223372036854775807 := by omega
  clear hv h ha hx hml ho hc hm
  go_enter Try.func13, Try.ntmps13
  have i1 : (0 : Int) < (m : Int) := by omega
  go_wp2
  go_ret2
  exact ⟨rfl, rfl⟩

/-- calls lie in a row -/
structure CallV where
  t : Int
  o : Int
  k : Int
  a : Nat
  b : Nat
  c : Nat
def CallsAt (w : World) (b o : Nat) (l : List CallV) : Prop :=
  ∀ (i : Nat) (x : CallV), l[i]? = some x → w.cell? ⟨b, o + i * 6, none⟩ = some (.int .i64 x.t) ∧ w.cell? ⟨b, o + i * 6 + 1, none⟩ = some (.int .i64 x.o) ∧ w.cell? ⟨b, o + i * 6 + 2, none⟩ = some (.int .i64 x.k) ∧
    w.cell? ⟨b, o + i * 6 + 3, none⟩ = some (.int .u64 (x.a : Int)) ∧ w.cell? ⟨b, o + i * 6 + 4, none⟩ = some (.int .u64 (x.b : Int)) ∧ w.cell? ⟨b, o + i * 6 + 5, none⟩ = some (.int .u64 (x.c : Int)) ∧
    (-9223372036854775808 ≤ x.t ∧ x.t ≤ 9223372036854775807) ∧ (-9223372036854775808 ≤ x.o ∧ x.o ≤ 9223372036854775807) ∧ (-9223372036854775808 ≤ x.k ∧ x.k ≤ 9223372036854775807) ∧ x.a < 18446744073709551616 ∧ x.b < 18446744073709551616 ∧ x.c < 18446744073709551616
theorem CallsAt.stays {w wr : World} {b o B : Nat} {l : List CallV} (h : CallsAt w b o l) (hb : Below B w wr) (hB : 0 < l.length → b < B) : CallsAt wr b o l := by
  intro i x hx
  have hl : 0 < l.length := by have := (List.getElem?_eq_some_iff.1 hx).1; omega
  obtain ⟨h1, h2, h3, h4, h5, h6, h7⟩ := h i x hx
  have e := fun o => hb.cell (p := ⟨b, o, none⟩) (hB hl)
  exact ⟨(e _).trans h1, (e _).trans h2, (e _).trans h3, (e _).trans h4, (e _).trans h5, (e _).trans h6, h7⟩
def thr (l : List CallV) : List Int := l.map CallV.t
theorem thr_get {l : List CallV} {i : Nat} {x : CallV} (h : l[i]? = some x) : (thr l)[i]? = some x.t := by unfold thr; rw [List.getElem?_map, h]; rfl
theorem thr_len (l : List CallV) : (thr l).length = l.length := by unfold thr; simp

set_option maxHeartbeats 400000 in
theorem refWrong_any (n : Int) (ao : Option Addr) (b o cap : Nat) (cs : List CallV) (w : World) (hl : cs.length ≤ 9223372036854775807) (ha : 0 < cs.length → ao = some ⟨b, o, none⟩) (hc : CallsAt w b o cs) :
    Calls Try.prog 11 #[.int .i64 n, .slice ao cs.length cap] w fun e w' => e = .returned (.int .i64 (wrongL n (thr cs) : Nat)) ∧ w = w' := by
  have HC := Lib.hid hc
  have HA := Lib.hid ha
  clear hc ha
  by_cases hn : n < 1 ∨ 16 < n
  · have HR := Lib.hid (wrongL_n (ts := thr cs) hn)
    go_enter Try.func11, Try.ntmps11
    by_cases h1 : n < 1
    · go_wp2
      go_ret
      rw [HR.out]; exact ⟨rfl, rfl⟩
    · have h2 : 16 < n := by omega
      go_wp2
      go_ret
      rw [HR.out]; exact ⟨rfl, rfl⟩
  · have h1 : ¬ n < 1 := by omega
    have h2 : ¬ 16 < n := by omega
    have HN := Lib.hid hn
    clear hn
    by_cases h3 : 1000 < cs.length
    · have HR := Lib.hid (wrongL_long HN.out (ts := thr cs) (by rw [thr_len]; exact h3))
      go_enter Try.func11, Try.ntmps11
      go_wp2
      go_ret
      rw [HR.out]; exact ⟨rfl, rfl⟩
    · go_enter Try.func11, Try.ntmps11
      go_wp2
      go_loop [17] (fun k => ∃ j : Nat, j ≤ cs.length ∧ k = .int .i64 j ∧ Hid (∀ (i : Nat) (x : CallV), i < j → cs[i]? = some x → 0 ≤ x.t ∧ x.t < n)) (fun k => cs.length - (intOf k).toNat)
      case atStart => exact ⟨0, Nat.zero_le _, rfl, Lib.hid (fun i x h => absurd h (by omega))⟩
      case round =>
        obtain ⟨j, hj, rfl, hp⟩ := hrel
        by_cases hlt : j < cs.length
        · obtain rfl := HA.out (by omega)
          obtain ⟨x, hx⟩ : ∃ x, cs[j]? = some x := ⟨cs[j], List.getElem?_eq_getElem (by omega)⟩
          obtain ⟨c0, _⟩ := HC.out j _ hx
          have HX := Lib.hid hx
          clear hx
          by_cases h4 : x.t < 0
          · have HR := Lib.hid (wrongL_bad HN.out (ts := thr cs) (by rw [thr_len]; exact h3) (thr_get HX.out) (.inl h4))
            go_wp2
            go_ret
            rw [HR.out]; exact ⟨rfl, rfl⟩
          · by_cases h5 : n ≤ x.t
            · have HR := Lib.hid (wrongL_bad HN.out (ts := thr cs) (by rw [thr_len]; exact h3) (thr_get HX.out) (.inr h5))
              go_wp2
              go_ret
              rw [HR.out]; exact ⟨rfl, rfl⟩
            · have HP : Hid (∀ (i : Nat) (x : CallV), i < j + 1 → cs[i]? = some x → 0 ≤ x.t ∧ x.t < n) := Lib.hid (fun i y hi hy => by
                by_cases he : i = j
                · subst he
                  rw [HX.out] at hy
                  cases hy
                  omega
                · exact hp.out i y (by omega) hy)
              go_wp2
              go_round
              case rel => exact ⟨j + 1, by omega, by go_num, HP⟩
              case measure => simp [intOf]; omega
        · have : j = cs.length := by omega
          subst this
          have HR := Lib.hid (wrongL_ok HN.out (ts := thr cs) (by rw [thr_len]; exact h3) (fun t ht => by
            unfold thr at ht
            obtain ⟨x, hx, rfl⟩ := List.mem_map.1 ht
            obtain ⟨i, hi⟩ := List.mem_iff_getElem?.1 hx
            exact hp.out i x (List.getElem?_eq_some_iff.1 hi).1 hi))
          go_wp2
          go_ret
          rw [HR.out]; exact ⟨rfl, rfl⟩

/-- bools lie in a row -/
def BoolsAt (w : World) (b o : Nat) (l : List Bool) : Prop := ∀ (i : Nat) (x : Bool), l[i]? = some x → w.cell? ⟨b, o + i, none⟩ = some (.bool x)

theorem nowI_some {ts : List Int} {fin : List Bool} {p : Int} {i : Nat} (h : nowOf ts fin p = some i) : nowI ts fin p = i := by unfold nowI; rw [h]
theorem nowI_none {ts : List Int} {fin : List Bool} {p : Int} (h : nowOf ts fin p = none) : nowI ts fin p = -1 := by unfold nowI; rw [h]

set_option maxHeartbeats 400000 in
theorem refNow_any (p : Int) (ao : Option Addr) (b o cap : Nat) (cs : List CallV) (ao2 : Option Addr) (b2 o2 cap2 : Nat) (fin : List Bool) (w : World) (hl : cs.length ≤ 9223372036854775807) (hfl : fin.length = cs.length) (ha : 0 < cs.length → ao = some ⟨b, o, none⟩) (hc : CallsAt w b o cs)
    (ha2 : 0 < fin.length → ao2 = some ⟨b2, o2, none⟩) (hc2 : BoolsAt w b2 o2 fin) :
    Calls Try.prog 12 #[.slice ao cs.length cap, .slice ao2 fin.length cap2, .int .i64 p] w fun e w' => e = .returned (.int .i64 (nowI (thr cs) fin p)) ∧ w = w' := by
  have HC := Lib.hid hc
  have HA := Lib.hid ha
  have HC2 := Lib.hid hc2
  have HA2 := Lib.hid ha2
  clear hc ha hc2 ha2
  go_enter Try.func12, Try.ntmps12
  go_wp2
  go_loop [10] (fun k => ∃ j : Nat, j ≤ cs.length ∧ k = .int .i64 j ∧ Hid (∀ i, i < j → openB (thr cs) fin p i = false)) (fun k => cs.length - (intOf k).toNat)
  case atStart => exact ⟨0, Nat.zero_le _, rfl, Lib.hid (fun i h => absurd h (by omega))⟩
  case round =>
    obtain ⟨j, hj, rfl, hp⟩ := hrel
    by_cases hlt : j < cs.length
    · obtain rfl := HA.out (by omega)
      obtain rfl := HA2.out (by omega)
      obtain ⟨x, hx⟩ : ∃ x, cs[j]? = some x := ⟨cs[j], List.getElem?_eq_getElem (by omega)⟩
      obtain ⟨y, hy⟩ : ∃ y, fin[j]? = some y := ⟨fin[j], List.getElem?_eq_getElem (by omega)⟩
      obtain ⟨c0, _⟩ := HC.out j _ hx
      have c1 := HC2.out j _ hy
      have HX := Lib.hid hx
      have HY := Lib.hid hy
      clear hx hy
      by_cases h4 : x.t = p
      · cases y with
        | false =>
          have HO : Hid (nowI (thr cs) fin p = j) := Lib.hid (nowI_some (now_first (by rw [thr_len]; exact hlt) hp.out (openB_iff.2 ⟨by rw [thr_get HX.out, h4], HY.out⟩)))
          go_wp2
          go_ret
          rw [HO.out]; exact ⟨rfl, rfl⟩
        | true =>
          have HP : Hid (∀ i, i < j + 1 → openB (thr cs) fin p i = false) := Lib.hid (fun i hi => by
            by_cases he : i = j
            · subst he; unfold openB; rw [HY.out]; simp
            · exact hp.out i (by omega))
          go_wp2
          go_round
          case rel => exact ⟨j + 1, by omega, by go_num, HP⟩
          case measure => simp [intOf]; omega
      · have HP : Hid (∀ i, i < j + 1 → openB (thr cs) fin p i = false) := Lib.hid (fun i hi => by
          by_cases he : i = j
          · subst he; unfold openB; rw [thr_get HX.out]
            have : (some x.t == some p) = false := by simpa using h4
            rw [this]; rfl
          · exact hp.out i (by omega))
        go_wp2
        go_round
        case rel => exact ⟨_, _, .int .i64 ((j : Int) + 1), ⟨j + 1, by omega, by go_num, HP⟩, rfl, rfl, rfl⟩
        case measure => simp [intOf]; omega
    · have : j = cs.length := by omega
      subst this
      have HR : Hid (nowI (thr cs) fin p = -1) := Lib.hid (nowI_none (now_none (fun i hi => hp.out i (by rw [thr_len] at hi; exact hi))))
      go_wp2
      go_ret
      rw [HR.out]; exact ⟨rfl, rfl⟩

theorem steps_any (ao : Option Addr) (b o cap : Nat) (need : List Int) (i : Nat) (w : World) (hl : need.length ≤ 9223372036854775807) (hi : i ≤ 9223372036854775807) (ha : 0 < need.length → ao = some ⟨b, o, none⟩) (hc : ICells w b o need) :
    Calls Try.prog 29 #[.slice ao need.length cap, .int .i64 (i : Int)] w fun e w' => e = .returned (.int .i64 (mostOf need i)) ∧ w = w' := by
  by_cases h : i < need.length
  · obtain rfl := ha (by omega)
    obtain ⟨x, hx⟩ : ∃ x, need[i]? = some x := ⟨need[i], List.getElem?_eq_getElem h⟩
    obtain ⟨c0, _⟩ := hc i x hx
    have HM : Hid (mostOf need i = max x 1) := Lib.hid (by unfold mostOf; rw [hx])
    clear hc hx ha
    have h1 : ¬ (need.length ≤ i) := by omega
    by_cases h2 : x < 1
    · have HM2 : Hid (mostOf need i = 1) := Lib.hid (by rw [HM.out]; omega)
      go_enter Try.func29, Try.ntmps29
      go_wp2
      go_ret
      rw [HM2.out]
      exact ⟨rfl, rfl⟩
    · have HM2 : Hid (mostOf need i = x) := Lib.hid (by rw [HM.out]; omega)
      go_enter Try.func29, Try.ntmps29
      go_wp2
      go_ret
      rw [HM2.out]
      exact ⟨rfl, rfl⟩
  · have HM : Hid (mostOf need i = 1) := Lib.hid (by unfold mostOf; rw [List.getElem?_eq_none (by omega)])
    have h1 : need.length ≤ i := by omega
    clear hc ha
    go_enter Try.func29, Try.ntmps29
    go_wp2
    go_ret
    rw [HM.out]
    exact ⟨rfl, rfl⟩
end Go.Proofs.Ytjlopeijdmnacaa
