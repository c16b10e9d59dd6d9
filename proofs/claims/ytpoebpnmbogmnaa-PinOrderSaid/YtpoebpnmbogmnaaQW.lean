/- Walk of Wrong: a play's events, one by one in the order of their keys, by a model; all that stand in order have responded. -/
import Derived.Test.YtpoebpnmbogmnaaGM
import Derived.Test.YtpoebpnmbogmnaaGQ1
namespace Go.Proofs.Ytpoebpnmbogmnaa
open Go.ChangeShapes Go.WideShapes Go.ChangeAt Go.RowKit
set_option linter.unusedVariables false
set_option linter.unusedSimpArgs false
theorem grown_alloc {w w' : World} {o : Obj} {row : Option Nat} (h : (w.alloc o).grownBy w' row) : w.grownBy w' row :=
  ⟨h.os, h.tape, h.output, Nat.le_trans (by simp) h.size, fun k hk hn => (h.block k (by simp; omega) hn).trans (Below.heap_alloc w o k hk)⟩
theorem append_g {P : Program} {w : World} {ops : Array Oper} {rest : List Oper} {o : Oper} {a : Act} {Q : Exit → Act → World → Prop} (hgd : o.guard = none) (s x : Operand) (t : TypeId)
    (ho : o.op = .call { callee := .builtin .append, args := #[s, x], argTypes := #[t, t] })
    (base : Nat) (e : TypeId) (i : TypeInfo) (z : Value) (size bytes : Nat) (ht : P.underlying t = some (.slice e)) (hi : P.info? e = some i) (hz : i.zero = some z)
    (hsize : i.size = size) (hby : i.bytes = bytes) (hzs : z.cells.size = size) (hsz : 0 < size) (hbs : bytes ≤ 4096)
    (v : Value) (n : Nat) (xs : List Value) (hs : a.eval s = v) (hown : w.ownsRow base e size v n xs)
    (us : List Value) (hx : a.eval x = .slice (some ⟨w.heap.size, 0, none⟩) 1 1) (hl : us.length = size) (h1 : us.all (fun u => u.oneCell') = true)
    (hn : n ≤ 4294967296) (hbase : base ≤ w.heap.size)
    (h : ∀ v' w', w'.ownsRow base e size v' (n + 1) (xs ++ us) → w.grownBy w' v.ownBlock → (v' = .slice none 0 0 → False) → wpList P ops Q rest (a.put o.dst v') w') : wpList P ops Q (o :: rest) a (w.alloc (.cells us.toArray e)) := by
  refine wpList_append_own _ hgd s x t ho base e i z size bytes ht hi hz hsize hby hzs hsz v n xs hs (hown.alloc _) ⟨w.heap.size, 0, none⟩ 1 1 us hx (by rw [hl, Nat.one_mul]) ?_ (by simpa using h1) (by unfold maxLen; omega) ?_ (by simp; omega) ?_
  · intro j u hj
    rw [addr_add _ j w.heap.size 0 rfl, World.cell?_alloc_at _ _ _ _ rfl]
    simpa using hj
  · have : (n + 1) * bytes ≤ 4294967297 * 4096 := Nat.mul_le_mul (by omega) hbs
    omega
  · intro v' w' h2 h3 h4
    refine h v' w' h2 (grown_alloc h3) ?_
    · intro hv
      have := (h4.1 hv).2
      omega


set_option maxRecDepth 20000 in
theorem answer12 (la : Option Addr) (lc : Nat) (W : World) : Calls Try.prog 44 #[.agg #[.int .i64 12, .int .u64 0, .slice la 0 lc], .agg #[.int .i64 12, .int .u64 0, .slice none 0 0]] W fun e w' => e = .returned (.bool true) ∧ Below W.heap.size W w' := by
  go_enter Try.func44, Try.ntmps44
  go_wp2_with fail
  refine (same_yes la none 0 0 lc 0 0 0 [] _ (by simp) (fun h => absurd h (by simp)) (fun h => absurd h (by simp)) (fun i x h => by simp at h) (fun i x h => by simp at h)).mono ?_
  rintro e w1 ⟨rfl, m, rfl⟩
  go_wp2_with fail
  go_ret
  exact ⟨rfl, below_drewN (((Below.refl _ _).alloc (Nat.le_refl _) _).alloc (by simp) _) m⟩
theorem infoSl : (Try.prog.info? 28).map (fun i => (i.zero, i.size, i.bytes)) = some (some (.slice none 0 0), 1, 24) := by kernel_rfl
theorem stAt_inv {D : Mod} {Inv : List Nat → Prop} {n k p q : Int} (hM : ModelC D Inv n k p q) {cs : List CallV} (ha : ∀ x ∈ cs, x.a < 18446744073709551616) (evs : List EvR) (kk : Nat) : Inv (stAt D cs evs kk) := by
  unfold stAt mFold
  have key : ∀ (is : List Nat) (st : List Nat), Inv st → Inv (is.foldl (mStep D cs) st) := by
    intro is
    induction is with
    | nil => intro st h; exact h
    | cons i r ih =>
      intro st h
      rw [List.foldl_cons]
      refine ih _ ?_
      unfold mStep
      split
      · exact h
      · next x hx =>
        split
        · exact h
        · exact hM.invS st x h (ha x (List.mem_of_getElem? hx))
  exact key _ _ hM.inv0
theorem calls_a {w : World} {b o : Nat} {cs : List CallV} (h : CallsAt w b o cs) : ∀ x ∈ cs, x.a < 18446744073709551616 := fun x hx => by
  obtain ⟨i, hi⟩ := List.mem_iff_getElem?.1 hx
  exact (h i x hi).2.2.2.2.2.2.2.2.2.1
/-- a value put into a row of the call's own -/
theorem owns_storeV {w : World} {B g n cap : Nat} {e : TypeId} {xs : List Value} (h : w.ownsRow B e 1 (.slice (some ⟨g, 0, none⟩) n cap) n xs) (i : Nat) (u : Value) :
    (w.setCell ⟨g, i, none⟩ u).ownsRow B e 1 (.slice (some ⟨g, 0, none⟩) n cap) n (xs.set i u) := by
  obtain ⟨h1, ⟨h2, _⟩ | ⟨g', cap', cur, hv, hg, hb, h3, h4, h5, h6⟩⟩ := h
  · cases h2
  · cases hv
    refine ⟨by rw [← h1, List.length_set], .inr ⟨g, cap, cur.setIfInBounds i u, rfl, hg, ?_, h3, h4, by simp [h5], ?_⟩⟩
    · simp [World.setCell, Array.getElem?_modify, hb]
    · rw [Array.toList_setIfInBounds, List.take_set, h6]
theorem owns_color {w : World} {B g n cap sz : Nat} {e : TypeId} {xs : List Value} (h : w.ownsRow B e sz (.slice (some ⟨g, 0, none⟩) n cap) n xs) : BlkT w g e := by
  obtain ⟨_, ⟨h2, _⟩ | ⟨g', cap', cur, hv, hg, hb, _⟩⟩ := h
  · cases h2
  · cases hv; exact ⟨cur, hb⟩
/-- the states, and a model's state -/
def States (B gS cS : Nat) (st : List Nat) (w : World) : Prop := ∃ sv, w.ownsRow B 28 1 (.slice (some ⟨gS, 0, none⟩) 1 cS) 1 [sv] ∧ ListAt w 37 mkU (fun b => B ≤ b) sv st
theorem States.below {B gS cS : Nat} {st : List Nat} {w w' : World} (h : States B gS cS st w) (hb : Below w.heap.size w w') : States B gS cS st w' := by
  obtain ⟨sv, h1, h2⟩ := h
  exact ⟨sv, owns_below h1 hb, h2.keep (fun b ht hB => ⟨hb.block b ht.lt, hB⟩)⟩
theorem States.put {B gS cS : Nat} {st st' : List Nat} {w : World} (h : States B gS cS st w) {v : Value} (hv : ListAt w 37 mkU (fun b => B ≤ b) v st') : States B gS cS st' (w.setCell ⟨gS, 0, none⟩ v) := by
  obtain ⟨sv, h1, h2⟩ := h
  refine ⟨v, owns_storeV h1 0 v, hv.keep (fun b ht hB => ⟨Below.heap_setCell _ _ _ _ ?_, hB⟩)⟩
  exact ht.ne (owns_color h1) (by decide)

set_option maxRecDepth 100000 in
set_option maxHeartbeats 4000000 in
theorem wrong_yes {D : Mod} {Inv : List Nat → Prop} {n : Nat} {k p q : Int} (hM : ModelC D Inv (n : Int) k p q) (hn : 1 ≤ n ∧ n ≤ 16) (gs cS0 : Nat) (ao : Option Addr) (b o cap : Nat) (cs : List CallV) (aoE : Option Addr) (gE capE : Nat) (evs : List EvR) (B : Nat) (w : World)
    (hs0 : w.cell? ⟨gs, 0, none⟩ = some (.int .i64 k)) (hs1 : w.cell? ⟨gs, 1, none⟩ = some (.int .i64 p)) (hs2 : w.cell? ⟨gs, 2, none⟩ = some (.int .i64 q))
    (hao : 0 < evs.length → aoE = some ⟨gE, 0, none⟩) (hev : EvAllG B w gE evs) (hel : evs.length ≤ 70000) (hc : CallsAt w b o cs) (ha : 0 < cs.length → ao = some ⟨b, o, none⟩) (hcl : cs.length ≤ 9223372036854775807)
    (hcall : ∀ (j : Nat) (x : EvR), evs[j]? = some x → ∃ y, cs[x.i]? = some y ∧ 0 ≤ y.t ∧ y.t < n) (hkey : ∀ (j : Nat) (x : EvR), evs[j]? = some x → ¬ x.resp = 0 → ¬ x.key.length = 0) (hall : ∀ (kk j : Nat) (x : EvR), (ordP evs evs.length)[kk]? = some j → evs[j]? = some x → ¬ x.resp = 0) (hW : WrongOk D cs evs) :
    Calls Try.prog 30 #[.int .i64 (n : Int), .slice (some ⟨gs, 0, none⟩) 1 cS0, .slice ao cs.length cap, .slice aoE evs.length capE] w fun e w' => e = .returned (.int .i64 (-1)) ∧ Below w.heap.size w w' := by
  obtain ⟨iS, ja, jb, jc, jd⟩ := info_parts infoSl
  have hgl := World.block_lt_of_cell? w ⟨gs, 0, none⟩ hs0
  have HSP : Hid (∀ W, Below w.heap.size w W → W.cell? ⟨gs, 0, none⟩ = some (.int .i64 k) ∧ W.cell? ⟨gs, 1, none⟩ = some (.int .i64 p) ∧ W.cell? ⟨gs, 2, none⟩ = some (.int .i64 q)) := Lib.hid (fun W hW => ⟨(hW.cell (p := ⟨gs, 0, none⟩) hgl).trans hs0, (hW.cell (p := ⟨gs, 1, none⟩) hgl).trans hs1, (hW.cell (p := ⟨gs, 2, none⟩) hgl).trans hs2⟩)
  have HSZ : Hid (∀ W, Calls Try.prog 41 #[.int .i64 (n : Int), .agg #[.int .i64 k, .int .i64 p, .int .i64 q]] W fun e w' => ∃ s : Int, e = .returned (.int .i64 s) ∧ 0 ≤ s ∧ Below W.heap.size W w') := Lib.hid hM.size
  have HNEW : Hid (∀ W, Calls Try.prog 42 #[.int .i64 (n : Int), .agg #[.int .i64 k, .int .i64 p, .int .i64 q]] W fun e w' => ∃ v, e = .returned v ∧ ListAt w' 37 mkU (fun b => W.heap.size ≤ b) v D.st0 ∧ Below W.heap.size W w') := Lib.hid hM.new
  have HLEG : Hid (∀ (W : World) (v lv : Value) (st : List Nat) (x : CallV) (pr qr : Nat → Prop), Inv st → x.a < 18446744073709551616 → ListAt W 37 mkU pr v st → ListAt W 37 mkU qr lv (D.ap st x).2.list →
    Calls Try.prog 46 #[.int .i64 (n : Int), .agg #[.int .i64 k, .int .i64 p, .int .i64 q], v, .agg #[.int .i64 x.t, .int .i64 x.o, .int .i64 x.k, .int .u64 x.a, .int .u64 x.b, .int .u64 x.c], .agg #[.int .i64 ((D.ap st x).2.err : Int), .int .u64 ((D.ap st x).2.val : Int), lv]] W fun e w' =>
      ∃ v', e = .returned (.tuple #[v', .bool true]) ∧ ListAt w' 37 mkU (fun b => W.heap.size ≤ b) v' (D.ap st x).1 ∧ Below W.heap.size W w') := Lib.hid hM.legal
  have HINV : Hid (∀ kk, Inv (stAt D cs evs kk)) := Lib.hid (stAt_inv hM (calls_a hc) evs)
  have HCA := Lib.hid (calls_a hc)
  have HAO := Lib.hid hao
  have HEV : Hid (∀ W, Below w.heap.size w W → EvAllG B W gE evs) := Lib.hid (fun W hW => hev.below hW (Nat.le_refl _))
  have HV := Lib.hid hev
  have HC := Lib.hid hc
  have HA := Lib.hid ha
  have HCALL := Lib.hid hcall
  have HKEY := Lib.hid hkey
  have HALL := Lib.hid hall
  have HW := Lib.hid hW
  have n1 : ¬ (n : Int) < 1 := by omega
  have n2 : ¬ (16 : Int) < (n : Int) := by omega
  have n1d : decide ((n : Int) < 1) = false := decide_eq_false n1
  have n2d : decide ((n : Int) > 16) = false := decide_eq_false (by omega)
  clear hM hs0 hs1 hs2 hao hev hc ha hcall hkey hall hW
  go_enter Try.func30, Try.ntmps30
  go_wp2_with fail
  go_loopw [23] (fun kv wr => ∃ (j : Nat), j ≤ 1 ∧ kv = .int .i64 j ∧ Hid (Below w.heap.size w wr)) (fun kv _ => 1 - (intOf kv).toNat)
  case atStart => exact ⟨0, by omega, rfl, Lib.hid (Below.refl _ _)⟩
  case round =>
    obtain ⟨j, hj, rfl, hB⟩ := hrel
    rcases Nat.eq_zero_or_pos j with hz | hz
    · subst hz
      obtain ⟨p0, p1, p2⟩ := HSP.out wr hB.out
      go_wp2_with fail
      refine (HSZ.out _).mono ?_
      rintro e w1 ⟨s, rfl, hs, hb⟩
      have HB1 : Hid (Below w.heap.size w w1) := Lib.hid (hB.out.trans (hb.mono hB.out.size))
      have m1 : ¬ s < 0 := by omega
      have m2 : decide (s < 0) = false := decide_eq_false m1
      clear hb hs
      go_wp2_with fail
      go_roundw
      case rel => exact ⟨0 + 1, by omega, by go_num, HB1⟩
      case measure => simp [intOf]
    · obtain rfl : j = 1 := by omega
      go_wp2_with fail
      go_loopw [44] (fun kv wr => ∃ (j : Nat), j ≤ evs.length ∧ kv = .int .i64 j ∧ Hid (Below w.heap.size w wr)) (fun kv _ => evs.length - (intOf kv).toNat)
      case atStart => exact ⟨0, Nat.zero_le _, rfl, hB⟩
      case round =>
        obtain ⟨j, hj, rfl, hB⟩ := hrel
        by_cases hjl : j < evs.length
        · obtain rfl := HAO.out (by omega)
          obtain ⟨x, hx⟩ : ∃ x, evs[j]? = some x := ⟨evs[j], List.getElem?_eq_getElem hjl⟩
          obtain ⟨_, la, ka, lc, kc, hxv⟩ := HEV.out wr hB.out j x hx
          obtain ⟨y, hy, hy0, hy1⟩ := HCALL.out j x hx
          have hkx := HKEY.out j x hx
          have hil := (List.getElem?_eq_some_iff.1 hy).1
          obtain rfl := HA.out (by omega)
          obtain ⟨c0, _⟩ := (HC.out.stays hB.out (fun _ => World.block_lt_of_cell? w ⟨b, _, none⟩ (HC.out x.i y hy).1)) x.i y hy
          have v0 := hxv.c0
          have v2 := hxv.c2
          have v7 := hxv.c7
          have i0 : (0 : Int) ≤ (j : Int) := Int.natCast_nonneg _
          have i1 : (j : Int) < (evs.length : Int) := by omega
          have k0 : (0 : Int) ≤ (x.i : Int) := Int.natCast_nonneg _
          have k1 : (x.i : Int) < (cs.length : Int) := by omega
          have g1 : ¬ (x.i : Int) < 0 := by omega
          have g1d : decide ((x.i : Int) < 0) = false := decide_eq_false g1
          have g2 : ¬ (cs.length : Int) ≤ (x.i : Int) := by omega
          have g2d : decide ((x.i : Int) ≥ (cs.length : Int)) = false := decide_eq_false (by omega)
          have g3 : ¬ y.t < 0 := by omega
          have g3d : decide (y.t < 0) = false := decide_eq_false g3
          have g4 : ¬ (n : Int) ≤ y.t := by omega
          have g4d : decide (y.t ≥ (n : Int)) = false := decide_eq_false (by omega)
          clear hxv hx hy hil
          by_cases hr : x.resp = 0
          · have r0 : (x.resp : Int) = 0 := by omega
            have r1 : (x.resp != 0) = false := by rw [hr]; rfl
            have r2 : ((x.resp : Int) != 0) = false := by rw [r0]; rfl
            clear hkx hr
            go_wp2_with fail
            go_roundw
            case rel => exact ⟨j + 1, by omega, by go_num, hB⟩
            case measure => simp [intOf]; omega
          · have r0 : ¬ (x.resp : Int) = 0 := by omega
            have r2 : ((x.resp : Int) != 0) = true := by rw [bne_iff_ne]; exact r0
            have q0 : ¬ (x.key.length : Int) = 0 := by have := hkx hr; omega
            have q1 : ((x.key.length : Int) == 0) = false := by rw [beq_eq_false_iff_ne]; exact q0
            clear hkx hr
            go_wp2_with fail
            go_roundw
            case rel => exact ⟨j + 1, by omega, by go_num, hB⟩
            case measure => simp [intOf]; omega
        · have i1 : ¬ (j : Int) < (evs.length : Int) := by omega
          have i2 : decide ((j : Int) < (evs.length : Int)) = false := decide_eq_false i1
          go_wp2_with fail
          go_loopw [11, 106] (fun v kv wr => (kv = .int .i64 0 ∧ v = .slice none 0 0 ∧ Hid (Below w.heap.size w wr)) ∨ (kv = .int .i64 1 ∧ ∃ gS cS, v = .slice (some ⟨gS, 0, none⟩) 1 cS ∧ Hid (States w.heap.size gS cS D.st0 wr) ∧ Hid (Below w.heap.size w wr))) (fun _ kv _ => 1 - (intOf kv).toNat)
          case atStart => exact .inl ⟨rfl, rfl, hB⟩
          case round =>
            rcases hrel with ⟨rfl, rfl, hB⟩ | ⟨rfl, gS, cS, rfl, hS, hB⟩
            · obtain ⟨p0, p1, p2⟩ := HSP.out wr hB.out
              go_wp2_with fail
              refine (HNEW.out _).mono ?_
              rintro e w1 ⟨sv, rfl, hl, hb⟩
              have HB1 : Hid (Below w.heap.size w w1) := Lib.hid (hB.out.trans (hb.mono hB.out.size))
              have z1 := HB1.out.size
              obtain ⟨sao, scap, rfl⟩ := hl.isSlice
              have HL : Hid (ListAt w1 37 mkU (fun b => w.heap.size ≤ b) (.slice sao D.st0.length scap) D.st0) := Lib.hid (hl.keep (fun b _ hB' => ⟨rfl, Nat.le_trans hB.out.size hB'⟩))
              clear hl hb
              go_wp2_with (at_builtin; refine append_g rfl _ _ 78 rfl w.heap.size 28 iS (.slice none 0 0) 1 24 Try.underlying78 ja jb jc jd rfl (by decide) (by decide) _ 0 [] rfl (World.ownsRow_nil _ _ _ _) [.slice sao D.st0.length scap] rfl rfl rfl (by decide) z1 ?_)
              intro v1 w2 ho1 hg1 hnn
              obtain ⟨gS, cS, rfl, hgB, hgl1⟩ := owns_slice ho1 hnn
              have HB2 : Hid (Below w.heap.size w w2) := Lib.hid (HB1.out.grown hg1 z1 (fun k hk => by simp [Value.ownBlock] at hk))
              have HS : Hid (States w.heap.size gS cS D.st0 w2) := Lib.hid ⟨_, ho1, HL.out.keep (fun b ht hB' => ⟨hg1.block b ht.lt (by simp [Value.ownBlock]), hB'⟩)⟩
              clear ho1 hg1 hnn
              go_wp2_with fail
              go_roundw
              case rel => exact .inr ⟨by go_num, gS, cS, rfl, HS, HB2⟩
              case measure => simp [intOf]
            · go_wp2_with fail
              refine (order_any aoE gE capE evs B wr HAO.out (HEV.out wr hB.out) hel).mono ?_
              rintro e w3 ⟨vO, rfl, hO, hb⟩
              have HS3 := Lib.hid (hS.out.below hb)
              have HB3 : Hid (Below w.heap.size w w3) := Lib.hid (hB.out.trans (hb.mono hB.out.size))
              obtain ⟨L, hL⟩ : ∃ L, (ordP evs evs.length).length = L := ⟨_, rfl⟩
              rw [hL] at hO
              have hO' : w3.ownsRow w.heap.size 3 1 vO L (nums (ordP evs evs.length)) := by
                obtain ⟨o1, ⟨o2, o3⟩ | ⟨g', cap', cur, o2, o3, o4⟩⟩ := hO
                · exact ⟨o1, .inl ⟨o2, o3⟩⟩
                · exact ⟨o1, .inr ⟨g', cap', cur, o2, Nat.le_trans hB.out.size o3, o4⟩⟩
              obtain ⟨aoO, gO, cO, hvO, hoa, hob, hoc, _⟩ := owns_open hO'
              subst hvO
              have HO3 := Lib.hid hO'
              have HOA := Lib.hid hoa
              have HLL := Lib.hid hL
              clear hb hO hO' hL hoa hob hoc hS hB
              go_wp2_with fail
              go_loopw [123] (fun kv wr => ∃ (kk : Nat), kk ≤ L ∧ kv = .int .i64 kk ∧ Hid (States w.heap.size gS cS (stAt D cs evs kk) wr) ∧ Hid (wr.ownsRow w.heap.size 3 1 (.slice aoO L cO) L (nums (ordP evs evs.length))) ∧ Hid (Below w.heap.size w wr)) (fun kv _ => L - (intOf kv).toNat)
              case atStart => exact ⟨0, Nat.zero_le _, rfl, Lib.hid (by
                have e : stAt D cs evs 0 = D.st0 := by unfold stAt mFold; simp
                rw [e]; exact HS3.out), HO3, HB3⟩
              case round =>
                obtain ⟨kk, hkk, rfl, hS, hO, hB⟩ := hrel
                have hLb : L ≤ 70000 := by have := ordP_len evs evs.length; rw [HLL.out] at this; omega
                have hsz := hB.out.size
                by_cases hkl : kk < L
                · obtain rfl := HOA.out (by omega)
                  obtain ⟨j, hj⟩ : ∃ j, (ordP evs evs.length)[kk]? = some j := ⟨_, List.getElem?_eq_getElem (by rw [HLL.out]; exact hkl)⟩
                  have hjl : j < evs.length := ordP_lt evs _ j (List.mem_of_getElem? hj)
                  obtain ⟨x, hx⟩ : ∃ x, evs[j]? = some x := ⟨evs[j], List.getElem?_eq_getElem hjl⟩
                  have hr := HALL.out kk j x hj hx
                  have hans := HW.out kk j x hj hx hr
                  have hst := stAt_succ (D := D) (cs := cs) hj hx
                  obtain ⟨y, hy, hy0, hy1⟩ := HCALL.out j x hx
                  have hil := (List.getElem?_eq_some_iff.1 hy).1
                  obtain rfl := HAO.out (by omega)
                  obtain rfl := HA.out (by omega)
                  have o1 : wr.cell? ⟨gO, kk, none⟩ = some (.int .i64 (j : Int)) := owns_at hO.out (nums_get1 hj)
                  obtain ⟨_, la, ka, lc, kc, hxv⟩ := HEV.out wr hB.out j x hx
                  obtain ⟨c0, c1, c2, c3, c4, c5, _⟩ := (HC.out.stays hB.out (fun _ => World.block_lt_of_cell? w ⟨b, _, none⟩ (HC.out x.i y hy).1)) x.i y hy
                  have i0 : (0 : Int) ≤ (kk : Int) := Int.natCast_nonneg _
                  have i1 : (kk : Int) < (L : Int) := by omega
                  have i2 : decide ((kk : Int) < (L : Int)) = true := decide_eq_true i1
                  have j0 : (0 : Int) ≤ (j : Int) := Int.natCast_nonneg _
                  have j1 : (j : Int) < (evs.length : Int) := by omega
                  have k0 : (0 : Int) ≤ (x.i : Int) := Int.natCast_nonneg _
                  have k1 : (x.i : Int) < (cs.length : Int) := by omega
                  have r0 : ¬ (x.resp : Int) = 0 := by omega
                  have r2 : ((x.resp : Int) != 0) = true := by rw [bne_iff_ne]; exact r0
                  have r3 : ((x.resp : Int) == 0) = false := by rw [beq_eq_false_iff_ne]; exact r0
                  have v0 := hxv.c0
                  have v1 := hxv.c1
                  have v2 := hxv.c2
                  have v3 := hxv.c3
                  have v7 := hxv.c7
                  have hlE := World.block_lt_of_cell? wr ⟨gE, _, none⟩ v0
                  have hlB := World.block_lt_of_cell? wr ⟨b, _, none⟩ c0
                  by_cases ho : y.o < 0 ∨ 1 ≤ y.o
                  · rw [mAns_off hy ho] at hans
                    rw [mStep_off hy ho] at hst
                    have v4 : wr.cell? ⟨gE, j * 8 + 4, none⟩ = some (.int .i64 12) := by have := hxv.c4; rw [hans] at this; exact this
                    have v5 : wr.cell? ⟨gE, j * 8 + 5, none⟩ = some (.int .u64 0) := by have := hxv.c5; rw [hans] at this; exact this
                    have v6 : wr.cell? ⟨gE, j * 8 + 6, none⟩ = some (.slice la 0 lc) := by have := hxv.c6; rw [hans] at this; exact this
                    have HST := Lib.hid hst
                    clear hans hst hxv hx hy hj hr hil
                    rcases ho with ho | ho
                    · have q1 : decide (y.o < 0) = true := decide_eq_true ho
                      go_wp2_with fail
                      refine (answer12 la lc _).mono ?_
                      rintro e w5 ⟨rfl, hb5⟩
                      have hb6 : Below wr.heap.size wr w5 := (((Below.refl wr.heap.size wr).alloc (Nat.le_refl _) _).alloc (by simp) _).trans (hb5.mono (by simp; omega))
                      have HB5 : Hid (Below w.heap.size w w5) := Lib.hid (hB.out.trans (hb6.mono hsz))
                      have HS5 := Lib.hid (hS.out.below hb6)
                      have HO5 := Lib.hid (owns_below hO.out hb6)
                      clear hb5 hb6
                      go_wp2_with fail
                      go_roundw
                      case rel => exact ⟨kk + 1, by omega, by go_num, by rw [HST.out]; exact HS5, HO5, HB5⟩
                      case measure => simp [intOf]; omega
                    · have q1 : ¬ y.o < 0 := by omega
                      have q2 : decide (y.o < 0) = false := decide_eq_false q1
                      have q3 : decide (y.o ≥ 1) = true := decide_eq_true ho
                      go_wp2_with fail
                      refine (answer12 la lc _).mono ?_
                      rintro e w5 ⟨rfl, hb5⟩
                      have hb6 : Below wr.heap.size wr w5 := (((Below.refl wr.heap.size wr).alloc (Nat.le_refl _) _).alloc (by simp) _).trans (hb5.mono (by simp; omega))
                      have HB5 : Hid (Below w.heap.size w w5) := Lib.hid (hB.out.trans (hb6.mono hsz))
                      have HS5 := Lib.hid (hS.out.below hb6)
                      have HO5 := Lib.hid (owns_below hO.out hb6)
                      clear hb5 hb6
                      go_wp2_with fail
                      go_roundw
                      case rel => exact ⟨kk + 1, by omega, by go_num, by rw [HST.out]; exact HS5, HO5, HB5⟩
                      case measure => simp [intOf]; omega
                  · have hy00 : y.o = 0 := by omega
                    rw [mAns_on hy ho] at hans
                    rw [mStep_on hy ho] at hst
                    obtain ⟨sv, hsv1, hsv2⟩ := hS.out
                    have hInv := HINV.out kk
                    generalize stAt D cs evs kk = st at hS hans hst hsv2 hInv
                    obtain ⟨sao, scap, rfl⟩ := hsv2.isSlice
                    have hya := HCA.out y (List.mem_of_getElem? hy)
                    have HLG : Hid (∀ W, Below wr.heap.size wr W → Calls Try.prog 46 #[.int .i64 (n : Int), .agg #[.int .i64 k, .int .i64 p, .int .i64 q], .slice sao st.length scap, .agg #[.int .i64 y.t, .int .i64 0, .int .i64 y.k, .int .u64 y.a, .int .u64 y.b, .int .u64 y.c], .agg #[.int .i64 (x.ans.err : Int), .int .u64 (x.ans.val : Int), .slice la x.ans.list.length lc]] W fun e w' =>
                        ∃ v', e = .returned (.tuple #[v', .bool true]) ∧ ListAt w' 37 mkU (fun b => W.heap.size ≤ b) v' (D.ap st y).1 ∧ Below W.heap.size W w') := Lib.hid (fun W hW => by
                      have h1 : ListAt W 37 mkU (fun _ => True) (.slice la x.ans.list.length lc) x.ans.list := (hxv.lst).keep (fun b hb _ => ⟨hW.block b hb.lt, trivial⟩)
                      have h2 : ListAt W 37 mkU (fun _ => True) (.slice sao st.length scap) st := hsv2.keep (fun b hb _ => ⟨hW.block b hb.lt, trivial⟩)
                      have h3 := HLEG.out W (.slice sao st.length scap) (.slice la x.ans.list.length lc) st y _ _ hInv hya h2 (by rw [← hans]; exact h1)
                      rw [← hans, hy00] at h3
                      exact h3)
                    obtain ⟨st2, hs2⟩ : ∃ st2, (D.ap st y).1 = st2 := ⟨_, rfl⟩
                    rw [hs2] at HLG hst
                    clear hs2
                    rw [hy00] at c1
                    have v4 := hxv.c4
                    have v5 := hxv.c5
                    have v6 := hxv.c6
                    have HST := Lib.hid hst
                    clear hans hst hxv hx hy hj hr hil hya hInv ho
                    go_wp2_with fail
                    generalize hW2 : (wr.alloc (.cells #[.int .i64 (x.i : Int), .int .i64 (x.inv : Int), .int .i64 (x.resp : Int), .int .i64 (x.steps : Int), .int .i64 (x.ans.err : Int), .int .u64 (x.ans.val : Int), .slice la x.ans.list.length lc, .slice ka x.key.length kc] 41)).alloc (.cells #[.int .i64 y.t, .int .i64 0, .int .i64 y.k, .int .u64 (y.a : Int), .int .u64 (y.b : Int), .int .u64 (y.c : Int)] 43) = W2
                    have hb2 : Below wr.heap.size wr W2 := by rw [← hW2]; exact ((Below.refl wr.heap.size wr).alloc (Nat.le_refl _) _).alloc (by simp) _
                    have HEV2 : Hid (RowBlk 41 W2 wr.heap.size [.int .i64 (x.i : Int), .int .i64 (x.inv : Int), .int .i64 (x.resp : Int), .int .i64 (x.steps : Int), .int .i64 (x.ans.err : Int), .int .u64 (x.ans.val : Int), .slice la x.ans.list.length lc, .slice ka x.key.length kc]) := Lib.hid (by rw [← hW2]; exact (RowBlk.new _ _ _).alloc _)
                    have HCA2 : Hid (RowBlk 43 W2 (wr.heap.size + 1) [.int .i64 y.t, .int .i64 0, .int .i64 y.k, .int .u64 (y.a : Int), .int .u64 (y.b : Int), .int .u64 (y.c : Int)]) := Lib.hid (by
                      rw [← hW2]
                      have h1 := RowBlk.new (wr.alloc (.cells #[.int .i64 (x.i : Int), .int .i64 (x.inv : Int), .int .i64 (x.resp : Int), .int .i64 (x.steps : Int), .int .i64 (x.ans.err : Int), .int .u64 (x.ans.val : Int), .slice la x.ans.list.length lc, .slice ka x.key.length kc] 41)) [.int .i64 y.t, .int .i64 0, .int .i64 y.k, .int .u64 (y.a : Int), .int .u64 (y.b : Int), .int .u64 (y.c : Int)] 43
                      have e : (wr.alloc (.cells #[.int .i64 (x.i : Int), .int .i64 (x.inv : Int), .int .i64 (x.resp : Int), .int .i64 (x.steps : Int), .int .i64 (x.ans.err : Int), .int .u64 (x.ans.val : Int), .slice la x.ans.list.length lc, .slice ka x.key.length kc] 41)).heap.size = wr.heap.size + 1 := by simp
                      rw [e] at h1; exact h1)
                    have HR2 := Lib.hid hb2
                    have HBW2 : Hid (Below w.heap.size w W2) := Lib.hid (hB.out.trans (hb2.mono hsz))
                    have HOW := Lib.hid hsv1
                    have HLV := Lib.hid hsv2
                    clear hW2 v0 v1 v2 v3 v4 v5 v6 v7 c0 c1 c2 c3 c4 c5 o1 hsv1 hsv2
                    obtain ⟨p0, p1, p2⟩ := HSP.out W2 HBW2.out
                    have t0 : W2.cell? ⟨gS, 0, none⟩ = some (.slice sao st.length scap) := owns_at (owns_below HOW.out hb2) rfl
                    have d0 : W2.cell? ⟨wr.heap.size + 1, 0, none⟩ = some (.int .i64 y.t) := HCA2.out.cell rfl
                    have d1 : W2.cell? ⟨wr.heap.size + 1, 1, none⟩ = some (.int .i64 0) := HCA2.out.cell rfl
                    have d2 : W2.cell? ⟨wr.heap.size + 1, 2, none⟩ = some (.int .i64 y.k) := HCA2.out.cell rfl
                    have d3 : W2.cell? ⟨wr.heap.size + 1, 3, none⟩ = some (.int .u64 (y.a : Int)) := HCA2.out.cell rfl
                    have d4 : W2.cell? ⟨wr.heap.size + 1, 4, none⟩ = some (.int .u64 (y.b : Int)) := HCA2.out.cell rfl
                    have d5 : W2.cell? ⟨wr.heap.size + 1, 5, none⟩ = some (.int .u64 (y.c : Int)) := HCA2.out.cell rfl
                    have e4 : W2.cell? ⟨wr.heap.size, 4, none⟩ = some (.int .i64 (x.ans.err : Int)) := HEV2.out.cell rfl
                    have e5 : W2.cell? ⟨wr.heap.size, 5, none⟩ = some (.int .u64 (x.ans.val : Int)) := HEV2.out.cell rfl
                    have e6 : W2.cell? ⟨wr.heap.size, 6, none⟩ = some (.slice la x.ans.list.length lc) := HEV2.out.cell rfl
                    clear hb2
                    go_region_held3 (fun w' => w'.cell? ⟨gs, 0, none⟩ = some (.int .i64 k) ∧ w'.cell? ⟨gs, 1, none⟩ = some (.int .i64 p) ∧ w'.cell? ⟨gs, 2, none⟩ = some (.int .i64 q) ∧ w'.cell? ⟨gS, 0, none⟩ = some (.slice sao st.length scap) ∧ w'.cell? ⟨wr.heap.size + 1, 0, none⟩ = some (.int .i64 y.t) ∧ w'.cell? ⟨wr.heap.size + 1, 1, none⟩ = some (.int .i64 0) ∧ w'.cell? ⟨wr.heap.size + 1, 2, none⟩ = some (.int .i64 y.k) ∧ w'.cell? ⟨wr.heap.size + 1, 3, none⟩ = some (.int .u64 (y.a : Int)) ∧ w'.cell? ⟨wr.heap.size + 1, 4, none⟩ = some (.int .u64 (y.b : Int)) ∧ w'.cell? ⟨wr.heap.size + 1, 5, none⟩ = some (.int .u64 (y.c : Int)) ∧ w'.cell? ⟨wr.heap.size, 4, none⟩ = some (.int .i64 (x.ans.err : Int)) ∧ w'.cell? ⟨wr.heap.size, 5, none⟩ = some (.int .u64 (x.ans.val : Int)) ∧ w'.cell? ⟨wr.heap.size, 6, none⟩ = some (.slice la x.ans.list.length lc)) (first | with_reducible exact ⟨p0, p1, p2, t0, d0, d1, d2, d3, d4, d5, e4, e5, e6⟩ | go_keep)
                      (first
                        | (go_at_call 46
                           refine (HLG.out _ (below_drew HR2.out)).mono ?_
                           rintro e w5 ⟨v', rfl, hl5, hb5⟩
                           obtain ⟨ao5, cap5, rfl⟩ := hl5.isSlice
                           have HV5 := Lib.hid hl5
                           have HR5 : Hid (Below wr.heap.size wr w5) := Lib.hid ((below_drew HR2.out).trans (hb5.mono (by show wr.heap.size ≤ W2.heap.size; exact HR2.out.size)))
                           have HB5 : Hid (Below w.heap.size w w5) := Lib.hid (hB.out.trans (HR5.out.mono hsz))
                           have HE5 := Lib.hid (RowBlk.same (RowBlk.drew HEV2.out) (hb5.block _ HEV2.out.lt))
                           have HC5 := Lib.hid (RowBlk.same (RowBlk.drew HCA2.out) (hb5.block _ HCA2.out.lt))
                           have HZ5 : Hid (wr.heap.size ≤ W2.heap.size) := Lib.hid HR2.out.size
                           clear hl5 hb5
                           obtain ⟨p0, p1, p2⟩ := HSP.out w5 HB5.out
                           have t0 : w5.cell? ⟨gS, 0, none⟩ = some (.slice sao st.length scap) := owns_at (owns_below HOW.out HR5.out) rfl
                           have d0 : w5.cell? ⟨wr.heap.size + 1, 0, none⟩ = some (.int .i64 y.t) := HC5.out.cell rfl
                           have d1 : w5.cell? ⟨wr.heap.size + 1, 1, none⟩ = some (.int .i64 0) := HC5.out.cell rfl
                           have d2 : w5.cell? ⟨wr.heap.size + 1, 2, none⟩ = some (.int .i64 y.k) := HC5.out.cell rfl
                           have d3 : w5.cell? ⟨wr.heap.size + 1, 3, none⟩ = some (.int .u64 (y.a : Int)) := HC5.out.cell rfl
                           have d4 : w5.cell? ⟨wr.heap.size + 1, 4, none⟩ = some (.int .u64 (y.b : Int)) := HC5.out.cell rfl
                           have d5 : w5.cell? ⟨wr.heap.size + 1, 5, none⟩ = some (.int .u64 (y.c : Int)) := HC5.out.cell rfl
                           have e4 : w5.cell? ⟨wr.heap.size, 4, none⟩ = some (.int .i64 (x.ans.err : Int)) := HE5.out.cell rfl
                           have e5 : w5.cell? ⟨wr.heap.size, 5, none⟩ = some (.int .u64 (x.ans.val : Int)) := HE5.out.cell rfl
                           have e6 : w5.cell? ⟨wr.heap.size, 6, none⟩ = some (.slice la x.ans.list.length lc) := HE5.out.cell rfl))
                    have hOS := owns_below HOW.out HR5.out
                    have fS : w5.frozen? ⟨gS, 0, none⟩ = false := owns_free hOS 0
                    have HS6 : Hid (∀ v, v = .slice ao5 st2.length cap5 → States w.heap.size gS cS st2 (w5.setCell ⟨gS, 0, none⟩ v)) := Lib.hid (fun v e => by
                      subst e
                      exact States.put (st := st) ⟨_, hOS, HLV.out.keep (fun b ht hB' => ⟨HR5.out.block b ht.lt, hB'⟩)⟩ (HV5.out.keep (fun b ht hB' => ⟨rfl, by have := HZ5.out; have h2 : W2.drew.heap.size ≤ b := hB'; have h3 : W2.drew.heap.size = W2.heap.size := rfl; omega⟩)))
                    have HO6 : Hid (∀ v, (w5.setCell ⟨gS, 0, none⟩ v).ownsRow w.heap.size 3 1 (.slice (some ⟨gO, 0, none⟩) L cO) L (nums (ordP evs evs.length))) := Lib.hid (fun v => by
                      refine owns_sameB (owns_below hO.out HR5.out) (fun b hb => Below.heap_setCell _ _ _ _ (fun e => ?_))
                      cases hb
                      exact (owns_color (owns_below hO.out HR5.out)).ne (owns_color hOS) (by decide) e)
                    have hgS := (hOS.lt gS rfl).1
                    have HB6 : Hid (∀ v, Below w.heap.size w (w5.setCell ⟨gS, 0, none⟩ v)) := Lib.hid (fun v => HB5.out.setCell hgS _)
                    clear hOS
                    go_wp2_with fail
                    go_roundw
                    case rel => exact ⟨kk + 1, by omega, by go_num, by rw [HST.out]; exact Lib.hid (HS6.out _ rfl), Lib.hid (HO6.out _), Lib.hid (HB6.out _)⟩
                    case measure => simp [intOf]; omega
                · have i1 : ¬ (kk : Int) < (L : Int) := by omega
                  have i2 : decide ((kk : Int) < (L : Int)) = false := decide_eq_false i1
                  go_wp2_with fail
                  go_ret
                  exact ⟨rfl, hB.out⟩
end Go.Proofs.Ytpoebpnmbogmnaa
