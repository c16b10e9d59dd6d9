/- Walk of the reference's Same, of a script and itself, elsewhere. -/
import Derived.Test.YticaheiomidanaaIR
import Derived.Laws.StructEq
import Derived.Deep.Cut
namespace Go.Proofs.Yticaheiomidanaa
open Go.RowKit
set_option maxRecDepth 100000

theorem sp_self (k p q : Int) (w : World) : (binOp .neq 62 (.agg #[.int .i64 k, .int .i64 p, .int .i64 q]) (.agg #[.int .i64 k, .int .i64 p, .int .i64 q])).run Try.prog w = .ok (.bool false) w := by
  have u3 := Try.underlying54
  have u4 := Try.underlying3
  have hS : Try.prog.underlying 62 = some (.struct (Try.prog.fieldsOf 62)) := by kernel_rfl
  have hp : Try.prog.stoodInHeld 62 = false := by kernel_rfl
  rw [run_neq_struct, show (10000 : Nat) = 9999 + 1 from rfl, run_equalIn_agg w 9999 62 _ _ hS hp]
  simp only [Program.fieldsOf, Try.underlying62]
  go_simp
theorem ca_self (t o k a b c : Int) (w : World) : (binOp .neq 66 (.agg #[.int .i64 t, .int .i64 o, .int .i64 k, .int .u64 a, .int .u64 b, .int .u64 c]) (.agg #[.int .i64 t, .int .i64 o, .int .i64 k, .int .u64 a, .int .u64 b, .int .u64 c])).run Try.prog w = .ok (.bool false) w := by
  have u3 := Try.underlying54
  have u4 := Try.underlying3
  have hS : Try.prog.underlying 66 = some (.struct (Try.prog.fieldsOf 66)) := by kernel_rfl
  have hp : Try.prog.stoodInHeld 66 = false := by kernel_rfl
  rw [run_neq_struct, show (10000 : Nat) = 9999 + 1 from rfl, run_equalIn_agg w 9999 66 _ _ hS hp]
  simp only [Program.fieldsOf, Try.underlying66]
  go_simp

set_option maxHeartbeats 2000000 in
theorem same_any (x : ScI) (s s2 : Spots) (w : World) (h : ScAt w x s) (h2 : ScAt w x s2) :
    Calls Try.prog 15 #[scV x s, scV x s2] w fun e w' => e = .returned (.bool true) ∧ Below w.heap.size w w' := by
  have z1 : (w.alloc (.cells #[.int .i64 x.n, .slice s.sa x.specs.length s.sc, .slice s.ca x.calls.length s.cc, .slice s.pa x.picks.length s.pc] 33)).heap.size = w.heap.size + 1 := by simp
  have k1 := heap_new w (.cells #[.int .i64 x.n, .slice s.sa x.specs.length s.sc, .slice s.ca x.calls.length s.cc, .slice s.pa x.picks.length s.pc] 33)
  have k2 := heap_new (w.alloc (.cells #[.int .i64 x.n, .slice s.sa x.specs.length s.sc, .slice s.ca x.calls.length s.cc, .slice s.pa x.picks.length s.pc] 33)) (.cells #[.int .i64 x.n, .slice s2.sa x.specs.length s2.sc, .slice s2.ca x.calls.length s2.cc, .slice s2.pa x.picks.length s2.pc] 33)
  rw [z1] at k2
  have k1' := (Below.heap_alloc (w.alloc (.cells #[.int .i64 x.n, .slice s.sa x.specs.length s.sc, .slice s.ca x.calls.length s.cc, .slice s.pa x.picks.length s.pc] 33)) (.cells #[.int .i64 x.n, .slice s2.sa x.specs.length s2.sc, .slice s2.ca x.calls.length s2.cc, .slice s2.pa x.picks.length s2.pc] 33) w.heap.size (by omega)).trans k1
  have hb : Below w.heap.size w ((w.alloc (.cells #[.int .i64 x.n, .slice s.sa x.specs.length s.sc, .slice s.ca x.calls.length s.cc, .slice s.pa x.picks.length s.pc] 33)).alloc (.cells #[.int .i64 x.n, .slice s2.sa x.specs.length s2.sc, .slice s2.ca x.calls.length s2.cc, .slice s2.pa x.picks.length s2.pc] 33)) := ((Below.refl _ _).alloc (Nat.le_refl _) _).alloc (by omega) _
  have H1 := Lib.hid (h.stays hb)
  have H2 := Lib.hid (h2.stays hb)
  have HB := Lib.hid hb
  have K1 := Lib.hid k1'
  have K2 := Lib.hid k2
  have hls := h.ls
  have hlc := h.lc
  have hlp := h.lp
  clear z1 k1 k2 k1' h h2 hb
  obtain ⟨n, specs, calls, picks⟩ := x
  obtain ⟨sa, sb, so, sc, ca, cb, co, cc, pa, pb, po, pc⟩ := s
  obtain ⟨ta, tb, to', tc, da, db, do', dc, qa, qb, qo, qc⟩ := s2
  dsimp only at *
  go_enter Try.func15, Try.ntmps15
  generalize hW0 : (w.alloc (.cells #[.int .i64 n, .slice sa specs.length sc, .slice ca calls.length cc, .slice pa picks.length pc] 33)).alloc (.cells #[.int .i64 n, .slice ta specs.length tc, .slice da calls.length dc, .slice qa picks.length qc] 33) = W0 at H1 H2 HB K1 K2
  have q0 := cell_of_heap K1.out (k := 0) (v := .int .i64 n) rfl
  have q1 := cell_of_heap K1.out (k := 1) (v := .slice sa specs.length sc) rfl
  have q2 := cell_of_heap K1.out (k := 2) (v := .slice ca calls.length cc) rfl
  have q3 := cell_of_heap K1.out (k := 3) (v := .slice pa picks.length pc) rfl
  have r0 := cell_of_heap K2.out (k := 0) (v := .int .i64 n) rfl
  have r1 := cell_of_heap K2.out (k := 1) (v := .slice ta specs.length tc) rfl
  have r2 := cell_of_heap K2.out (k := 2) (v := .slice da calls.length dc) rfl
  have r3 := cell_of_heap K2.out (k := 3) (v := .slice qa picks.length qc) rfl
  have HA1 : Hid (0 < specs.length → sa = some ⟨sb, so, none⟩) := Lib.hid H1.out.a1
  have HA2 : Hid (0 < calls.length → ca = some ⟨cb, co, none⟩) := Lib.hid H1.out.a2
  have HA3 : Hid (0 < picks.length → pa = some ⟨pb, po, none⟩) := Lib.hid H1.out.a3
  have HD1 : Hid (0 < specs.length → ta = some ⟨tb, to', none⟩) := Lib.hid H2.out.a1
  have HD2 : Hid (0 < calls.length → da = some ⟨db, do', none⟩) := Lib.hid H2.out.a2
  have HD3 : Hid (0 < picks.length → qa = some ⟨qb, qo, none⟩) := Lib.hid H2.out.a3
  have HC1 : Hid (SpAt W0 sb so specs) := Lib.hid H1.out.c1
  have HC2 : Hid (CaAt W0 cb co calls) := Lib.hid H1.out.c2
  have HC3 : Hid (ICells W0 pb po picks) := Lib.hid H1.out.c3
  have HE1 : Hid (SpAt W0 tb to' specs) := Lib.hid H2.out.c1
  have HE2 : Hid (CaAt W0 db do' calls) := Lib.hid H2.out.c2
  have HE3 : Hid (ICells W0 qb qo picks) := Lib.hid H2.out.c3
  clear H1 H2
  go_upto_region 3 with fail
  clear hW0
  go_wp2
  go_loopw [43] (fun k wr => ∃ (j m : Nat), j ≤ specs.length ∧ k = .int .i64 j ∧ wr = W0.drewN m) (fun k _ => specs.length - (intOf k).toNat)
  case atStart => exact ⟨0, 0, Nat.zero_le _, rfl, rfl⟩
  case round =>
    obtain ⟨j, m, hj, rfl, rfl⟩ := hrel
    by_cases hlt : j < specs.length
    · obtain rfl := HA1.out (by omega)
      obtain rfl := HD1.out (by omega)
      obtain ⟨y, hy⟩ : ∃ y, specs[j]? = some y := ⟨specs[j], List.getElem?_eq_getElem (by omega)⟩
      obtain ⟨c0, c1, c2, -⟩ := HC1.out j y hy
      obtain ⟨e0, e1, e2, -⟩ := HE1.out j y hy
      clear hy
      obtain ⟨yk, yp, yq⟩ := y
      dsimp only at *
      have hne := sp_self yk yp yq
      go_wp2_with fail
      go_quiet (fail)
      go_wp2
      go_roundw
      case rel => exact ⟨j + 1, _, by omega, by go_num, rfl⟩
      case measure => simp [intOf]; omega
    · go_wp2
      go_loopw [61] (fun k wr => ∃ (j m : Nat), j ≤ calls.length ∧ k = .int .i64 j ∧ wr = W0.drewN m) (fun k _ => calls.length - (intOf k).toNat)
      case atStart => exact ⟨0, m, Nat.zero_le _, rfl, rfl⟩
      case round =>
        obtain ⟨j, m, hj, rfl, rfl⟩ := hrel
        by_cases hlt : j < calls.length
        · obtain rfl := HA2.out (by omega)
          obtain rfl := HD2.out (by omega)
          obtain ⟨y, hy⟩ : ∃ y, calls[j]? = some y := ⟨calls[j], List.getElem?_eq_getElem (by omega)⟩
          obtain ⟨c0, c1, c2, c3, c4, c5, -⟩ := HC2.out j y hy
          obtain ⟨e0, e1, e2, e3, e4, e5, -⟩ := HE2.out j y hy
          clear hy
          obtain ⟨yt, yo, yk, ya, yb, yc⟩ := y
          dsimp only at *
          have hne := ca_self yt yo yk (ya : Int) (yb : Int) (yc : Int)
          go_wp2_with fail
          go_quiet (fail)
          go_wp2
          go_roundw
          case rel => exact ⟨j + 1, _, by omega, by go_num, rfl⟩
          case measure => simp [intOf]; omega
        · go_wp2
          go_loopw [79] (fun k wr => ∃ (j m : Nat), j ≤ picks.length ∧ k = .int .i64 j ∧ wr = W0.drewN m) (fun k _ => picks.length - (intOf k).toNat)
          case atStart => exact ⟨0, m, Nat.zero_le _, rfl, rfl⟩
          case round =>
            obtain ⟨j, m, hj, rfl, rfl⟩ := hrel
            by_cases hlt : j < picks.length
            · obtain rfl := HA3.out (by omega)
              obtain rfl := HD3.out (by omega)
              obtain ⟨y, hy⟩ : ∃ y, picks[j]? = some y := ⟨picks[j], List.getElem?_eq_getElem (by omega)⟩
              obtain ⟨c0, _⟩ := HC3.out j y hy
              obtain ⟨e0, _⟩ := HE3.out j y hy
              clear hy
              go_wp2_with fail
              go_quiet (fail)
              go_wp2
              go_roundw
              case rel => exact ⟨j + 1, _, by omega, by go_num, rfl⟩
              case measure => simp [intOf]; omega
            · go_wp2
              go_ret
              exact ⟨rfl, below_drewN HB.out _⟩
end Go.Proofs.Yticaheiomidanaa
