/- The reference's row. | The reference's row, whole; its Apply. | The reference's Apply. | The reference's Apply, whole. -/
import Derived.Test.YtjjleghalajidaaGreatGS2
import Derived.RegionTactic
namespace Go.Proofs.YtjjleghalajidaaGreat
section
set_option maxRecDepth 100000
open Go.ChangeShapes Go.WideShapes Go.ChangeAt Go.RowKit
set_option linter.unusedVariables false
set_option linter.unusedSimpArgs false

/-- in a region that draws its order: append of a slice onto an empty one that was just made -/
theorem step_fresh_own {P : Program} {w : World} {ops : Array Oper} {o : Oper} {a : Act} {K : Act → World → Prop} {Q : Exit → Act → World → Prop} {E : Prop} (hgd : o.guard = none) (s x : Operand) (t : TypeId)
    (ho : o.op = .call { callee := .builtin .append, args := #[s, x], argTypes := #[t, t] })
    (e : TypeId) (i : TypeInfo) (z : Value) (bytes : Nat) (ht : P.underlying t = some (.slice e)) (hi : P.info? e = some i) (hz : i.zero = some z)
    (hsize : i.size = 1) (hby : i.bytes = bytes) (hzs : z.cells.size = 1) (hbs : bytes ≤ 4096)
    (g0 : Nat) (hg0 : g0 = w.heap.size) (hs : a.eval s = .slice (some ⟨g0, 0, none⟩) 0 0) (b off cap n : Nat) (us : List Value) (hx : a.eval x = .slice (some ⟨b, off, none⟩) n cap) (hn : us.length = n)
    (hc : ∀ (j : Nat) (u : Value), us[j]? = some u → w.cell? ⟨b, off + j, none⟩ = some u) (h1 : us.all (fun u => u.oneCell') = true) (hle : n ≤ 4294967296)
    (h : ∀ v' w', w'.ownsRow w.heap.size e 1 v' n us → Below w.heap.size w w' → K (a.put o.dst v') w') :
    if Region.wanted o (yielded ops a.tmps) = true then Oper.wp P o a (w.alloc (.cells #[] e)) K Q else E := by
  have hw : Region.wanted o (yielded ops a.tmps) = true := by simp [Region.wanted, hgd]
  rw [if_pos hw]
  subst hg0
  have hmade : (w.alloc (.cells #[] e)).ownsRow w.heap.size e 1 (.slice (some ⟨w.heap.size, 0, none⟩) 0 0) 0 [] :=
    World.ownsRow_made (base := w.heap.size) (e := e) (size := 1) w #[] 0 (Nat.le_refl _) (by unfold maxLen; omega) rfl
  refine wp_append_own _ s x t ho w.heap.size e i z 1 bytes ht hi hz hsize hby hzs (by decide) _ 0 [] hs hmade ⟨b, off, none⟩ n cap us hx (by rw [hn, Nat.mul_one]) ?_ (by simpa using h1) (by unfold maxLen; omega) ?_ (by simp) ?_
  · intro j u hj
    have hcj := hc j u hj
    have hlt := World.block_lt_of_cell? w ⟨b, off + j, none⟩ hcj
    rw [addr_add _ j b off rfl, World.cell?_alloc_past _ _ _ hlt]
    exact hcj
  · have : (0 + n) * bytes ≤ 4294967296 * 4096 := Nat.mul_le_mul (by omega) hbs
    omega
  · intro v' w' hown hg hnn
    exact h v' w' (by simpa using hown) (((Below.refl _ _).alloc (Nat.le_refl _) _).grown hg (by simp) (fun k hk => by simp [Value.ownBlock] at hk; omega))

/-- the same of a slice onto a row of the call's own -/
theorem step_onto_own {P : Program} {w : World} {ops : Array Oper} {o : Oper} {a : Act} {K : Act → World → Prop} {Q : Exit → Act → World → Prop} {E : Prop} (hgd : o.guard = none) (s x : Operand) (t : TypeId)
    (ho : o.op = .call { callee := .builtin .append, args := #[s, x], argTypes := #[t, t] })
    (base : Nat) (e : TypeId) (i : TypeInfo) (z : Value) (bytes : Nat) (ht : P.underlying t = some (.slice e)) (hi : P.info? e = some i) (hz : i.zero = some z)
    (hsize : i.size = 1) (hby : i.bytes = bytes) (hzs : z.cells.size = 1) (hbs : bytes ≤ 4096)
    (v : Value) (n : Nat) (xs : List Value) (hs : a.eval s = v) (hown : w.ownsRow base e 1 v n xs) (ad : Addr) (cap m : Nat) (us : List Value) (hx : a.eval x = .slice (some ad) m cap) (hn : us.length = m)
    (hc : ∀ (j : Nat) (u : Value), us[j]? = some u → w.cell? (ad.add j) = some u) (h1 : us.all (fun u => u.oneCell') = true) (hle : n + m ≤ 4294967296) (hbase : base ≤ w.heap.size)
    (h : ∀ v' w', w'.ownsRow base e 1 v' (n + m) (xs ++ us) → Below base w w' → K (a.put o.dst v') w') :
    if Region.wanted o (yielded ops a.tmps) = true then Oper.wp P o a w K Q else E := by
  have hw : Region.wanted o (yielded ops a.tmps) = true := by simp [Region.wanted, hgd]
  rw [if_pos hw]
  refine wp_append_own _ s x t ho base e i z 1 bytes ht hi hz hsize hby hzs (by decide) v n xs hs hown ad m cap us hx (by rw [hn, Nat.mul_one]) hc (by simpa using h1) (by unfold maxLen; omega) ?_ hbase ?_
  · have : (n + m) * bytes ≤ 4294967296 * 4096 := Nat.mul_le_mul (by omega) hbs
    omega
  · intro v' w' ho2 hg hnn
    exact h v' w' ho2 ((Below.refl _ _).grown hg hbase (fun k hk => (hown.lt k hk).1))

theorem ownArg {w : World} {B : Nat} {v : Value} {l : List Nat} (h : OwnW w (B + 1) v l) : ArgB w B v l := h.argB.mono (by omega)
theorem ho2slice {w : World} {B : Nat} {v : Value} {l : List Nat} (h : OwnW w B v l) : ∃ ao cap, v = .slice ao l.length cap := h.arg.isSlice
def doneO : Obj := .cells #[.slice none 0 0, .int .i64 0, .int .u64 0] 145
set_option maxHeartbeats 2000000 in
theorem row_cut (t at1 g cap B : Nat) (l : List Nat) (w : World) (h : OwnW w B (.slice (some ⟨g, 0, none⟩) l.length cap) l) (hl : l.length ≤ 8) (hat : at1 < l.length) (ht : t = 2 ∧ at1 + 1 = l.length ∨ t = 3 ∧ at1 = 0) (x a : Nat) (hx : l[at1]? = some x) :
    Calls Tryz.prog 124 #[.int .i64 (t : Int), .slice (some ⟨g, 0, none⟩) l.length cap, .int .i64 1, .int .u64 (a : Int)] w (DnP w.heap.size w (l.take at1 ++ l.drop (at1 + 1), x, 0)) := by
  obtain ⟨iI, ia, ib, ic, id⟩ := info_parts info22
  have HO := Lib.hid h
  obtain ⟨g', cap', e0, hg, hlt, hc, hf⟩ := h.opened (by omega)
  cases e0
  have d0 := hc at1 x hx
  have hcap : l.length ≤ cap := by
    obtain ⟨_, ⟨e0, _⟩ | ⟨g', cap', cur, e0, _, _, h5, _⟩⟩ := h
    · cases e0
    · cases e0; exact h5
  have HC := Lib.hid hc
  clear h hc hf hx
  rcases ht with ⟨rfl, ht⟩ | ⟨rfl, rfl⟩
  · have hlen : l.length = at1 + 1 := ht.symm
    rw [hlen] at hcap hl ⊢
    have HLN := Lib.hid hlen
    have HF : Hid (∀ (v : Value) {w' : World}, ArgB w' w.heap.size v (l.take at1) → ArgB w' w.heap.size v (l.take at1 ++ l.drop (at1 + 1))) := Lib.hid (fun v w' h => by
      rw [List.drop_eq_nil_of_le (by omega), List.append_nil]; exact h)
    clear ht hat hlen
    by_cases hcc : cap = at1 + 1
    · subst hcc
      have HL1 : Hid (((l.take at1).map wU).length = at1) := Lib.hid (by have := HLN.out; simp; omega)
      have HL2 : Hid (([] : List Value).length = 0) := Lib.hid rfl
      have H1A := Lib.hid (wU_one (l.take at1))
      have H1B : Hid (([] : List Value).all (fun u => u.oneCell') = true) := Lib.hid rfl
      have HA0 : Hid (∀ (j : Nat) (u : Value), ((l.take at1).map wU)[j]? = some u → ((w.alloc (Obj.cells #[.slice none 0 0, .int .i64 0, .int .u64 0] 145)).drew).cell? ⟨g, 0 + j, none⟩ = some u) := Lib.hid (fun j u hu => by
        rw [List.getElem?_map] at hu
        obtain ⟨y, hy, rfl⟩ := Option.map_eq_some_iff.1 hu
        rw [List.getElem?_take] at hy
        split at hy
        · rw [Nat.zero_add]
          show (w.alloc _).cell? _ = _
          rw [World.cell?_alloc_past _ _ _ hlt]
          exact HC.out j y hy
        · cases hy)
      have HA2 : Hid (∀ w1 : World, Below ((w.alloc (Obj.cells #[.slice none 0 0, .int .i64 0, .int .u64 0] 145)).drew).heap.size ((w.alloc (Obj.cells #[.slice none 0 0, .int .i64 0, .int .u64 0] 145)).drew) w1 → ∀ (j : Nat) (u : Value), ([] : List Value)[j]? = some u → w1.cell? ((⟨g, 0, none⟩ : Addr).add j) = some u) := Lib.hid (fun w1 _ j u hu => by simp at hu)
      have q1 : (at1 : Int) ≤ (at1 : Int) + 1 := by omega
      have q2 : IntKind.i64.wrap ((at1 : Int) + 1) = (at1 : Int) + 1 := IntWalk.i64_in _ (by omega)
      have q3 : 0 ≤ (at1 : Int) + 1 := by omega
      have HM : Hid (∀ (v2 : Value) (w2 : World), w2.ownsRow ((w.alloc (Obj.cells #[.slice none 0 0, .int .i64 0, .int .u64 0] 145)).drew).heap.size 55 1 v2 (at1 + 0) (((l.take at1).map wU) ++ ([] : List Value)) → OwnW w2 (w.heap.size + 1) v2 (l.take at1)) := Lib.hid (fun v2 w2 ho0 => by
        have ho : w2.ownsRow (w.heap.size + 1) 55 1 v2 (at1 + 0) (((l.take at1).map wU) ++ ([] : List Value)) := by
          have e : ((w.alloc (Obj.cells #[.slice none 0 0, .int .i64 0, .int .u64 0] 145)).drew).heap.size = w.heap.size + 1 := by simp
          rw [e] at ho0; exact ho0
        unfold OwnW
        have e : (l.take at1).length = at1 := by have := HLN.out; simp; omega
        rw [e]
        simpa using ho)
      go_enter Tryz.func124, Tryz.ntmps124
      go_wp2_with fail
      go_region_law (first
        | (refine step_fresh_own (w := (w.alloc (Obj.cells #[.slice none 0 0, .int .i64 0, .int .u64 0] 145)).drew) rfl _ _ 37 rfl 55 iI (.int .u64 0) 8 Tryz.underlying37 ia ib ic id rfl (by decide) (w.heap.size + 1) (by simp) rfl g 0 _ at1 ((l.take at1).map wU) rfl HL1.out HA0.out H1A.out (by omega) ?_; intro v1 w1 ho1 hb1; (have hz1 := hb1.size); (have HA1 := Lib.hid (HA2.out w1 hb1)))
        | (refine step_onto_own rfl _ _ 37 rfl _ 55 iI (.int .u64 0) 8 Tryz.underlying37 ia ib ic id rfl (by decide) _ at1 _ rfl ho1 ⟨g, 0, none⟩ _ 0 ([] : List Value) rfl HL2.out HA1.out H1B.out (by omega) hz1 ?_; intro v2 w2 ho2 hb2; (have HO2 : Hid (OwnW w2 (w.heap.size + 1) v2 (l.take at1)) := Lib.hid (HM.out v2 w2 ho2)); (have hbk : w2.heap[w.heap.size]? = some doneO := (hb2.block _ (by simp)).trans ((hb1.block _ (by simp)).trans (heap_alloc_new _ _))); (have k0 := cell_of_blk (k := 0) hbk rfl); (have k1 := cell_of_blk (k := 1) hbk rfl); (have k2 := cell_of_blk (k := 2) hbk rfl); (have z0 := free_of_blk (k := 0) hbk); (have z1 := free_of_blk (k := 1) hbk); (have z2 := free_of_blk (k := 2) hbk); (have HB2 : Hid (Below w.heap.size w w2) := Lib.hid ((((Below.refl _ _).alloc (Nat.le_refl _) _).drew.trans (hb1.mono (by simp))).trans (hb2.mono (by simp)))); (obtain ⟨ao2, cap2, rfl⟩ := ho2slice HO2.out); clear hb1 hb2 ho1 ho2 hbk))
      go_wp2_with fail
      refine bodyPost_ret (v := .agg #[.slice ao2 (l.take at1).length cap2, .int .i64 0, .int .u64 (x : Int)]) (by simp [results, Tryz.results124, go_sem, k0, k1, k2]) rfl ⟨_, rfl, HF.out _ (ownArg (((HO2.out.other _ (HO2.out.lt (a := ⟨w.heap.size, 0, none⟩) (by simp))).other _ (HO2.out.lt (a := ⟨w.heap.size, 1, none⟩) (by simp))).other _ (HO2.out.lt (a := ⟨w.heap.size, 2, none⟩) (by simp)))), ((HB2.out.setCell (p := ⟨w.heap.size, 0, none⟩) (Nat.le_refl _) _).setCell (p := ⟨w.heap.size, 1, none⟩) (Nat.le_refl _) _).setCell (p := ⟨w.heap.size, 2, none⟩) (Nat.le_refl _) _⟩
    · have q5 : at1 ≤ cap := by omega
      have HL1 : Hid (((l.take at1).map wU).length = at1) := Lib.hid (by have := HLN.out; simp; omega)
      have HL2 : Hid (([] : List Value).length = 0) := Lib.hid rfl
      have H1A := Lib.hid (wU_one (l.take at1))
      have H1B : Hid (([] : List Value).all (fun u => u.oneCell') = true) := Lib.hid rfl
      have HA0 : Hid (∀ (j : Nat) (u : Value), ((l.take at1).map wU)[j]? = some u → ((w.alloc (Obj.cells #[.slice none 0 0, .int .i64 0, .int .u64 0] 145)).drew).cell? ⟨g, 0 + j, none⟩ = some u) := Lib.hid (fun j u hu => by
        rw [List.getElem?_map] at hu
        obtain ⟨y, hy, rfl⟩ := Option.map_eq_some_iff.1 hu
        rw [List.getElem?_take] at hy
        split at hy
        · rw [Nat.zero_add]
          show (w.alloc _).cell? _ = _
          rw [World.cell?_alloc_past _ _ _ hlt]
          exact HC.out j y hy
        · cases hy)
      have HA2 : Hid (∀ w1 : World, Below ((w.alloc (Obj.cells #[.slice none 0 0, .int .i64 0, .int .u64 0] 145)).drew).heap.size ((w.alloc (Obj.cells #[.slice none 0 0, .int .i64 0, .int .u64 0] 145)).drew) w1 → ∀ (j : Nat) (u : Value), ([] : List Value)[j]? = some u → w1.cell? ((⟨g, at1 + 1, none⟩ : Addr).add j) = some u) := Lib.hid (fun w1 _ j u hu => by simp at hu)
      have q1 : (at1 : Int) ≤ (at1 : Int) + 1 := by omega
      have q2 : IntKind.i64.wrap ((at1 : Int) + 1) = (at1 : Int) + 1 := IntWalk.i64_in _ (by omega)
      have q3 : 0 ≤ (at1 : Int) + 1 := by omega
      have HM : Hid (∀ (v2 : Value) (w2 : World), w2.ownsRow ((w.alloc (Obj.cells #[.slice none 0 0, .int .i64 0, .int .u64 0] 145)).drew).heap.size 55 1 v2 (at1 + 0) (((l.take at1).map wU) ++ ([] : List Value)) → OwnW w2 (w.heap.size + 1) v2 (l.take at1)) := Lib.hid (fun v2 w2 ho0 => by
        have ho : w2.ownsRow (w.heap.size + 1) 55 1 v2 (at1 + 0) (((l.take at1).map wU) ++ ([] : List Value)) := by
          have e : ((w.alloc (Obj.cells #[.slice none 0 0, .int .i64 0, .int .u64 0] 145)).drew).heap.size = w.heap.size + 1 := by simp
          rw [e] at ho0; exact ho0
        unfold OwnW
        have e : (l.take at1).length = at1 := by have := HLN.out; simp; omega
        rw [e]
        simpa using ho)
      go_enter Tryz.func124, Tryz.ntmps124
      go_wp2_with fail
      go_region_law (first
        | (refine step_fresh_own (w := (w.alloc (Obj.cells #[.slice none 0 0, .int .i64 0, .int .u64 0] 145)).drew) rfl _ _ 37 rfl 55 iI (.int .u64 0) 8 Tryz.underlying37 ia ib ic id rfl (by decide) (w.heap.size + 1) (by simp) rfl g 0 _ at1 ((l.take at1).map wU) rfl HL1.out HA0.out H1A.out (by omega) ?_; intro v1 w1 ho1 hb1; (have hz1 := hb1.size); (have HA1 := Lib.hid (HA2.out w1 hb1)))
        | (refine step_onto_own rfl _ _ 37 rfl _ 55 iI (.int .u64 0) 8 Tryz.underlying37 ia ib ic id rfl (by decide) _ at1 _ rfl ho1 ⟨g, at1 + 1, none⟩ _ 0 ([] : List Value) rfl HL2.out HA1.out H1B.out (by omega) hz1 ?_; intro v2 w2 ho2 hb2; (have HO2 : Hid (OwnW w2 (w.heap.size + 1) v2 (l.take at1)) := Lib.hid (HM.out v2 w2 ho2)); (have hbk : w2.heap[w.heap.size]? = some doneO := (hb2.block _ (by simp)).trans ((hb1.block _ (by simp)).trans (heap_alloc_new _ _))); (have k0 := cell_of_blk (k := 0) hbk rfl); (have k1 := cell_of_blk (k := 1) hbk rfl); (have k2 := cell_of_blk (k := 2) hbk rfl); (have z0 := free_of_blk (k := 0) hbk); (have z1 := free_of_blk (k := 1) hbk); (have z2 := free_of_blk (k := 2) hbk); (have HB2 : Hid (Below w.heap.size w w2) := Lib.hid ((((Below.refl _ _).alloc (Nat.le_refl _) _).drew.trans (hb1.mono (by simp))).trans (hb2.mono (by simp)))); (obtain ⟨ao2, cap2, rfl⟩ := ho2slice HO2.out); clear hb1 hb2 ho1 ho2 hbk))
      go_wp2_with fail
      refine bodyPost_ret (v := .agg #[.slice ao2 (l.take at1).length cap2, .int .i64 0, .int .u64 (x : Int)]) (by simp [results, Tryz.results124, go_sem, k0, k1, k2]) rfl ⟨_, rfl, HF.out _ (ownArg (((HO2.out.other _ (HO2.out.lt (a := ⟨w.heap.size, 0, none⟩) (by simp))).other _ (HO2.out.lt (a := ⟨w.heap.size, 1, none⟩) (by simp))).other _ (HO2.out.lt (a := ⟨w.heap.size, 2, none⟩) (by simp)))), ((HB2.out.setCell (p := ⟨w.heap.size, 0, none⟩) (Nat.le_refl _) _).setCell (p := ⟨w.heap.size, 1, none⟩) (Nat.le_refl _) _).setCell (p := ⟨w.heap.size, 2, none⟩) (Nat.le_refl _) _⟩
  · rcases l with _ | ⟨x0, l⟩
    · simp at hat
    obtain ⟨n, hn⟩ : ∃ n, l.length = n := ⟨_, rfl⟩
    have hlen : (x0 :: l).length = n + 1 := by simp [hn]
    rw [hlen] at hcap hl ⊢
    have HLN := Lib.hid hn
    have HF : Hid (∀ (v : Value) {w' : World}, ArgB w' w.heap.size v l → ArgB w' w.heap.size v ((x0 :: l).take 0 ++ (x0 :: l).drop (0 + 1))) := Lib.hid (fun v w' h => h)
    clear hat hlen hn
    by_cases hcc : cap = 1
    · subst hcc
      obtain rfl : n = 0 := by omega
      obtain rfl : l = [] := List.length_eq_zero_iff.1 HLN.out
      have HL1 : Hid (([] : List Value).length = 0) := Lib.hid rfl
      have HL2 : Hid (([] : List Value).length = 0) := Lib.hid rfl
      have H1A : Hid (([] : List Value).all (fun u => u.oneCell') = true) := Lib.hid rfl
      have H1B : Hid (([] : List Value).all (fun u => u.oneCell') = true) := Lib.hid rfl
      have HA0 : Hid (∀ (j : Nat) (u : Value), ([] : List Value)[j]? = some u → ((w.alloc (Obj.cells #[.slice none 0 0, .int .i64 0, .int .u64 0] 145)).drew).cell? ⟨g, 0 + j, none⟩ = some u) := Lib.hid (fun j u hu => by simp at hu)
      have HA2 : Hid (∀ w1 : World, Below ((w.alloc (Obj.cells #[.slice none 0 0, .int .i64 0, .int .u64 0] 145)).drew).heap.size ((w.alloc (Obj.cells #[.slice none 0 0, .int .i64 0, .int .u64 0] 145)).drew) w1 → ∀ (j : Nat) (u : Value), ([] : List Value)[j]? = some u → w1.cell? ((⟨g, 0, none⟩ : Addr).add j) = some u) := Lib.hid (fun w1 hb j u hu => by simp at hu)
      have q2 : IntKind.i64.wrap 1 = 1 := IntWalk.i64_in _ (by omega)
      have q3 : 0 ≤ ((0 : Nat) : Int) + 1 := by omega
      have q4 : (1 : Int) ≤ ((0 : Nat) : Int) + 1 := by omega
      have HM : Hid (∀ (v2 : Value) (w2 : World), w2.ownsRow ((w.alloc (Obj.cells #[.slice none 0 0, .int .i64 0, .int .u64 0] 145)).drew).heap.size 55 1 v2 (0 + 0) (([] : List Value) ++ ([] : List Value)) → OwnW w2 (w.heap.size + 1) v2 ([])) := Lib.hid (fun v2 w2 ho0 => by
        have ho : w2.ownsRow (w.heap.size + 1) 55 1 v2 (0 + 0) (([] : List Value) ++ ([] : List Value)) := by
          have e : ((w.alloc (Obj.cells #[.slice none 0 0, .int .i64 0, .int .u64 0] 145)).drew).heap.size = w.heap.size + 1 := by simp
          rw [e] at ho0; exact ho0
        unfold OwnW
        simpa using ho)
      go_enter Tryz.func124, Tryz.ntmps124
      go_wp2_with fail
      go_region_law (first
        | (refine step_fresh_own (w := (w.alloc (Obj.cells #[.slice none 0 0, .int .i64 0, .int .u64 0] 145)).drew) rfl _ _ 37 rfl 55 iI (.int .u64 0) 8 Tryz.underlying37 ia ib ic id rfl (by decide) (w.heap.size + 1) (by simp) rfl g 0 _ 0 ([] : List Value) rfl HL1.out HA0.out H1A.out (by omega) ?_; intro v1 w1 ho1 hb1; (have hz1 := hb1.size); (have HA1 := Lib.hid (HA2.out w1 hb1)))
        | (refine step_onto_own rfl _ _ 37 rfl _ 55 iI (.int .u64 0) 8 Tryz.underlying37 ia ib ic id rfl (by decide) _ 0 _ rfl ho1 ⟨g, 0, none⟩ _ 0 [] rfl HL2.out HA1.out H1B.out (by omega) hz1 ?_; intro v2 w2 ho2 hb2; (have HO2 : Hid (OwnW w2 (w.heap.size + 1) v2 ([])) := Lib.hid (HM.out v2 w2 ho2)); (have hbk : w2.heap[w.heap.size]? = some doneO := (hb2.block _ (by simp)).trans ((hb1.block _ (by simp)).trans (heap_alloc_new _ _))); (have k0 := cell_of_blk (k := 0) hbk rfl); (have k1 := cell_of_blk (k := 1) hbk rfl); (have k2 := cell_of_blk (k := 2) hbk rfl); (have z0 := free_of_blk (k := 0) hbk); (have z1 := free_of_blk (k := 1) hbk); (have z2 := free_of_blk (k := 2) hbk); (have HB2 : Hid (Below w.heap.size w w2) := Lib.hid ((((Below.refl _ _).alloc (Nat.le_refl _) _).drew.trans (hb1.mono (by simp))).trans (hb2.mono (by simp)))); (obtain ⟨ao2, cap2, rfl⟩ := ho2slice HO2.out); clear hb1 hb2 ho1 ho2 hbk))
      go_wp2_with fail
      refine bodyPost_ret (v := .agg #[.slice ao2 0 cap2, .int .i64 0, .int .u64 (x : Int)]) (by simp [results, Tryz.results124, go_sem, k0, k1, k2]) rfl ⟨_, rfl, HF.out _ (ownArg (((HO2.out.other _ (HO2.out.lt (a := ⟨w.heap.size, 0, none⟩) (by simp))).other _ (HO2.out.lt (a := ⟨w.heap.size, 1, none⟩) (by simp))).other _ (HO2.out.lt (a := ⟨w.heap.size, 2, none⟩) (by simp)))), ((HB2.out.setCell (p := ⟨w.heap.size, 0, none⟩) (Nat.le_refl _) _).setCell (p := ⟨w.heap.size, 1, none⟩) (Nat.le_refl _) _).setCell (p := ⟨w.heap.size, 2, none⟩) (Nat.le_refl _) _⟩
    · skip
      have HL1 : Hid (([] : List Value).length = 0) := Lib.hid rfl
      have HL2 : Hid ((l.map wU).length = n) := Lib.hid (by simpa using HLN.out)
      have H1A : Hid (([] : List Value).all (fun u => u.oneCell') = true) := Lib.hid rfl
      have H1B := Lib.hid (wU_one l)
      have HA0 : Hid (∀ (j : Nat) (u : Value), ([] : List Value)[j]? = some u → ((w.alloc (Obj.cells #[.slice none 0 0, .int .i64 0, .int .u64 0] 145)).drew).cell? ⟨g, 0 + j, none⟩ = some u) := Lib.hid (fun j u hu => by simp at hu)
      have HA2 : Hid (∀ w1 : World, Below ((w.alloc (Obj.cells #[.slice none 0 0, .int .i64 0, .int .u64 0] 145)).drew).heap.size ((w.alloc (Obj.cells #[.slice none 0 0, .int .i64 0, .int .u64 0] 145)).drew) w1 → ∀ (j : Nat) (u : Value), (l.map wU)[j]? = some u → w1.cell? ((⟨g, 1, none⟩ : Addr).add j) = some u) := Lib.hid (fun w1 hb j u hu => by
        rw [List.getElem?_map] at hu
        obtain ⟨y, hy, rfl⟩ := Option.map_eq_some_iff.1 hu
        rw [addr_add _ j g 1 rfl, hb.cell (by simp; omega)]
        show (w.alloc _).cell? _ = _
        rw [World.cell?_alloc_past _ _ _ hlt]
        exact HC.out (1 + j) y (by rw [Nat.add_comm, List.getElem?_cons_succ]; exact hy))
      have q2 : IntKind.i64.wrap 1 = 1 := IntWalk.i64_in _ (by omega)
      have q3 : 0 ≤ (n : Int) + 1 := by omega
      have q4 : (1 : Int) ≤ (n : Int) + 1 := by omega
      have HM : Hid (∀ (v2 : Value) (w2 : World), w2.ownsRow ((w.alloc (Obj.cells #[.slice none 0 0, .int .i64 0, .int .u64 0] 145)).drew).heap.size 55 1 v2 (0 + n) (([] : List Value) ++ (l.map wU)) → OwnW w2 (w.heap.size + 1) v2 (l)) := Lib.hid (fun v2 w2 ho0 => by
        have ho : w2.ownsRow (w.heap.size + 1) 55 1 v2 (0 + n) (([] : List Value) ++ (l.map wU)) := by
          have e : ((w.alloc (Obj.cells #[.slice none 0 0, .int .i64 0, .int .u64 0] 145)).drew).heap.size = w.heap.size + 1 := by simp
          rw [e] at ho0; exact ho0
        unfold OwnW
        rw [HLN.out]
        simpa using ho)
      go_enter Tryz.func124, Tryz.ntmps124
      go_wp2_with fail
      go_region_law (first
        | (refine step_fresh_own (w := (w.alloc (Obj.cells #[.slice none 0 0, .int .i64 0, .int .u64 0] 145)).drew) rfl _ _ 37 rfl 55 iI (.int .u64 0) 8 Tryz.underlying37 ia ib ic id rfl (by decide) (w.heap.size + 1) (by simp) rfl g 0 _ 0 ([] : List Value) rfl HL1.out HA0.out H1A.out (by omega) ?_; intro v1 w1 ho1 hb1; (have hz1 := hb1.size); (have HA1 := Lib.hid (HA2.out w1 hb1)))
        | (refine step_onto_own rfl _ _ 37 rfl _ 55 iI (.int .u64 0) 8 Tryz.underlying37 ia ib ic id rfl (by decide) _ 0 _ rfl ho1 ⟨g, 1, none⟩ _ n (l.map wU) rfl HL2.out HA1.out H1B.out (by omega) hz1 ?_; intro v2 w2 ho2 hb2; (have HO2 : Hid (OwnW w2 (w.heap.size + 1) v2 (l)) := Lib.hid (HM.out v2 w2 ho2)); (have hbk : w2.heap[w.heap.size]? = some doneO := (hb2.block _ (by simp)).trans ((hb1.block _ (by simp)).trans (heap_alloc_new _ _))); (have k0 := cell_of_blk (k := 0) hbk rfl); (have k1 := cell_of_blk (k := 1) hbk rfl); (have k2 := cell_of_blk (k := 2) hbk rfl); (have z0 := free_of_blk (k := 0) hbk); (have z1 := free_of_blk (k := 1) hbk); (have z2 := free_of_blk (k := 2) hbk); (have HB2 : Hid (Below w.heap.size w w2) := Lib.hid ((((Below.refl _ _).alloc (Nat.le_refl _) _).drew.trans (hb1.mono (by simp))).trans (hb2.mono (by simp)))); (obtain ⟨ao2, cap2, rfl⟩ := ho2slice HO2.out); clear hb1 hb2 ho1 ho2 hbk))
      go_wp2_with fail
      refine bodyPost_ret (v := .agg #[.slice ao2 (l).length cap2, .int .i64 0, .int .u64 (x : Int)]) (by simp [results, Tryz.results124, go_sem, k0, k1, k2]) rfl ⟨_, rfl, HF.out _ (ownArg (((HO2.out.other _ (HO2.out.lt (a := ⟨w.heap.size, 0, none⟩) (by simp))).other _ (HO2.out.lt (a := ⟨w.heap.size, 1, none⟩) (by simp))).other _ (HO2.out.lt (a := ⟨w.heap.size, 2, none⟩) (by simp)))), ((HB2.out.setCell (p := ⟨w.heap.size, 0, none⟩) (Nat.le_refl _) _).setCell (p := ⟨w.heap.size, 1, none⟩) (Nat.le_refl _) _).setCell (p := ⟨w.heap.size, 2, none⟩) (Nat.le_refl _) _⟩
end
section
set_option maxRecDepth 100000
open Go.ChangeShapes Go.WideShapes Go.ChangeAt Go.RowKit
set_option linter.unusedVariables false
set_option linter.unusedSimpArgs false

theorem own_put3 {w : World} {B b : Nat} {v : Value} {l : List Nat} (ho : OwnW w B v l) (hB : b < B) (x y z : Value) : OwnW (((w.setCell ⟨b, 0, none⟩ x).setCell ⟨b, 1, none⟩ y).setCell ⟨b, 2, none⟩ z) B v l :=
  ((ho.other _ (ho.lt (a := ⟨b, 0, none⟩) hB)).other _ (ho.lt (a := ⟨b, 1, none⟩) hB)).other _ (ho.lt (a := ⟨b, 2, none⟩) hB)
theorem below_put3 {w w1 : World} {b : Nat} (h : Below b w w1) (x y z : Value) : Below b w (((w1.setCell ⟨b, 0, none⟩ x).setCell ⟨b, 1, none⟩ y).setCell ⟨b, 2, none⟩ z) :=
  ((h.setCell (p := ⟨b, 0, none⟩) (Nat.le_refl _) _).setCell (p := ⟨b, 1, none⟩) (Nat.le_refl _) _).setCell (p := ⟨b, 2, none⟩) (Nat.le_refl _) _
theorem arg_put3 {w : World} {b : Nat} {v : Value} {l : List Nat} (h : ∃ w0 : World, ArgW w0 v l ∧ w0.heap.size ≤ b ∧ Below w0.heap.size w0 w) (x y z : Value) : ArgW (((w.setCell ⟨b, 0, none⟩ x).setCell ⟨b, 1, none⟩ y).setCell ⟨b, 2, none⟩ z) v l := by
  obtain ⟨w0, ha, hs, hb⟩ := h
  exact ha.below (((hb.setCell (p := ⟨b, 0, none⟩) hs _).setCell (p := ⟨b, 1, none⟩) hs _).setCell (p := ⟨b, 2, none⟩) hs _)

/-- append_new, where the element's block is spelled otherwise -/
theorem append_newb {P : Program} {w : World} {ops : Array Oper} {rest : List Oper} {o : Oper} {a : Act} {Q : Exit → Act → World → Prop} (hgd : o.guard = none) (s x : Operand) (t : TypeId)
    (ho : o.op = .call { callee := .builtin .append, args := #[s, x], argTypes := #[t, t] })
    (base : Nat) (e : TypeId) (i : TypeInfo) (z : Value) (size bytes : Nat) (ht : P.underlying t = some (.slice e)) (hi : P.info? e = some i) (hz : i.zero = some z)
    (hsize : i.size = size) (hby : i.bytes = bytes) (hzs : z.cells.size = size) (hsz : 0 < size) (hbs : bytes ≤ 4096)
    (v : Value) (n : Nat) (xs : List Value) (hs : a.eval s = v) (hown : w.ownsRow base e size v n xs)
    (us : List Value) (g0 : Nat) (hg0 : g0 = w.heap.size) (hx : a.eval x = .slice (some ⟨g0, 0, none⟩) 1 1) (hl : us.length = size) (h1 : us.all (fun u => u.oneCell') = true)
    (hn : n ≤ 4294967296) (hbase : base ≤ w.heap.size)
    (h : ∀ v' w', w'.ownsRow base e size v' (n + 1) (xs ++ us) → Below base w w' → Keeps e w w' → wpList P ops Q rest (a.put o.dst v') w') : wpList P ops Q (o :: rest) a (w.alloc (.cells us.toArray e)) := by
  subst hg0
  exact append_new hgd s x t ho base e i z size bytes ht hi hz hsize hby hzs hsz hbs v n xs hs hown us hx hl h1 hn hbase (fun v' w' a b c d => h v' w' a b c)

set_option maxHeartbeats 1000000 in
theorem row_add (t a B : Nat) (v : Value) (l : List Nat) (w : World) (h : OwnW w B v l) (hB : B ≤ w.heap.size) (hl : l.length ≤ 8) (ht : t = 2 ∨ t = 3) :
    Calls Tryz.prog 124 #[.int .i64 (t : Int), v, .int .i64 0, .int .u64 (a : Int)] w (DnP B w (sqDo t 0 l a)) := by
  obtain ⟨iI, ia, ib, ic, id⟩ := info_parts info22
  have HV : Hid (sqDo t 0 l a = if 8 ≤ l.length then (l, 0, 6) else (l ++ [a], 0, 0)) := Lib.hid (by rcases ht with rfl | rfl <;> rfl)
  rw [HV.out]
  obtain ⟨ao, cap, rfl⟩ := h.arg.isSlice
  have HA := Lib.hid h.argB
  have HO : Hid ((w.alloc doneO).ownsRow B 55 1 (.slice ao l.length cap) l.length (l.map wU)) := Lib.hid (h.alloc _)
  have hBw := hB
  clear h HV ht
  by_cases h8 : 8 ≤ l.length
  · rw [if_pos h8]
    go_enter Tryz.func124, Tryz.ntmps124
    go_wp2_with fail
    refine bodyPost_ret (v := .agg #[.slice ao l.length cap, .int .i64 6, .int .u64 0]) (by simp [results, Tryz.results124, go_sem]) rfl ⟨_, rfl, HA.out.below ?_, ?_⟩
    · (repeat (first | with_reducible exact Below.refl _ _ | with_reducible refine Below.setCell ?_ (by first | (simp; done) | (simp; omega)) _ | with_reducible refine Below.alloc ?_ (by first | omega | (simp; done) | (simp; omega)) _ | with_reducible refine below_drewN ?_ _))
    · exact (Below.refl _ _).alloc hB _
  · rw [if_neg h8]
    have h9 : l.length < 8 := by omega
    have HM : Hid (List.map wU l ++ [Value.int .u64 (a : Int)] = (l ++ [a]).map wU) := Lib.hid (by rw [wU_snoc]; rfl)
    have hBw2 : B ≤ (w.alloc doneO).heap.size := by simp; omega
    clear h8
    go_enter Tryz.func124, Tryz.ntmps124
    go_wp2_with (at_builtin; refine append_newb (w := w.alloc doneO) rfl _ _ 37 rfl B 55 iI (.int .u64 0) 1 8 Tryz.underlying37 ia ib ic id rfl (by decide) (by decide) (.slice ao l.length cap) l.length (l.map wU) rfl HO.out [.int .u64 (a : Int)] (w.heap.size + 1) (by simp) rfl rfl rfl (by omega) hBw2 ?_)
    intro v1 w1 how hbl hkeep
    rw [HM.out] at how
    have HO1 : Hid (OwnW w1 B v1 (l ++ [a])) := Lib.hid (by unfold OwnW; rw [List.length_append]; exact how)
    have HB := Lib.hid hbl
    obtain ⟨ao1, cap1, rfl⟩ := HO1.out.arg.isSlice
    have hr0 : (w.alloc doneO).ownsRow B 145 3 (.slice (some ⟨w.heap.size, 0, none⟩) 1 1) 1 [.slice none 0 0, .int .i64 0, .int .u64 0] := World.ownsRow_lit w #[.slice none 0 0, .int .i64 0, .int .u64 0] 1 hB (by decide) rfl
    have hr := hkeep.row hr0 (by decide)
    have k0 : w1.cell? ⟨w.heap.size, 0, none⟩ = some (.slice none 0 0) := hr.cellAt 0 (by decide)
    have k1 : w1.cell? ⟨w.heap.size, 1, none⟩ = some (.int .i64 0) := hr.cellAt 1 (by decide)
    have k2 : w1.cell? ⟨w.heap.size, 2, none⟩ = some (.int .u64 0) := hr.cellAt 2 (by decide)
    have z0 := hr.frozenAt 0
    have z1 := hr.frozenAt 1
    have z2 := hr.frozenAt 2
    have hne : ∀ k, (Value.slice ao1 (l ++ [a]).length cap1).ownBlock ≠ some (⟨w.heap.size, k, none⟩ : Addr).block := fun k => by
      rcases owns_apart HO1.out hr (by decide) with h | h
      · rw [h]; intro e; cases e
      · exact h
    have HE := Lib.hid hne
    clear hr hr0 how hbl hkeep hne
    go_wp2_with fail
    refine bodyPost_ret (v := .agg #[.slice ao1 (l ++ [a]).length cap1, .int .i64 0, .int .u64 0]) (by simp [results, Tryz.results124, go_sem, k0, k1, k2]) rfl ⟨_, rfl, (((HO1.out.other _ (HE.out 0)).other _ (HE.out 1)).other _ (HE.out 2)).argB, ?_⟩
    have hb1 : Below B w w1 := ((Below.refl _ _).alloc hB _).trans HB.out
    exact ((hb1.setCell (p := ⟨w.heap.size, 0, none⟩) hB _).setCell (p := ⟨w.heap.size, 1, none⟩) hB _).setCell (p := ⟨w.heap.size, 2, none⟩) hB _

set_option maxHeartbeats 1000000 in
theorem row_rest (t k a B : Nat) (v : Value) (l : List Nat) (w : World) (h : OwnW w B v l) (hB : B ≤ w.heap.size) (hl : l.length ≤ 8) (ht : t = 2 ∨ t = 3) (hk : k = 1 ∨ k = 2) :
    Calls Tryz.prog 124 #[.int .i64 (t : Int), v, .int .i64 (k : Int), .int .u64 (a : Int)] w (DnP B w (sqDo t k l a)) := by
  have HA := Lib.hid h.argB
  by_cases h0 : l.length = 0
  · have HV : Hid (sqDo t k l a = (l, 0, 7)) := Lib.hid (by rcases ht with rfl | rfl <;> rcases hk with rfl | rfl <;> exact if_pos h0)
    rw [HV.out]
    obtain ⟨ao, cap, rfl⟩ := h.arg.isSlice
    obtain rfl := List.length_eq_zero_iff.1 h0
    have hk0 : ¬ k = 0 := by omega
    clear h HV ht h0 hl hk
    go_enter Tryz.func124, Tryz.ntmps124
    go_wp2_with fail
    refine bodyPost_ret (v := .agg #[.slice ao 0 cap, .int .i64 7, .int .u64 0]) (by simp [results, Tryz.results124, go_sem]) rfl ⟨_, rfl, HA.out.below ?_, ?_⟩
    · (repeat (first | with_reducible exact Below.refl _ _ | with_reducible refine Below.setCell ?_ (by first | (simp; done) | (simp; omega)) _ | with_reducible refine Below.alloc ?_ (by first | omega | (simp; done) | (simp; omega)) _ | with_reducible refine below_drewN ?_ _))
    · exact (Below.refl _ _).alloc hB _
  · obtain ⟨g, cap, rfl, hg, hlt, hc, hf⟩ := h.opened (by omega)
    rcases hk with rfl | rfl
    · rcases ht with rfl | rfl
      · obtain ⟨z, hz⟩ : ∃ z, l[l.length - 1]? = some z := ⟨_, List.getElem?_eq_getElem (by omega)⟩
        have e : sqDo 2 1 l a = (l.take (l.length - 1) ++ l.drop (l.length - 1 + 1), z, 0) := by
          have e1 : sqDo 2 1 l a = (l.dropLast, l.getLastD 0, 0) := if_neg h0
          rw [e1, show l.length - 1 + 1 = l.length by omega, List.drop_length, List.append_nil, List.dropLast_eq_take, List.getLastD_eq_getLast?, List.getLast?_eq_getElem?, hz]; rfl
        rw [e]
        refine (row_cut 2 (l.length - 1) g cap B l w h hl (by omega) (.inl ⟨rfl, by omega⟩) z a hz).mono ?_
        rintro e w' ⟨v', he, ha, hb⟩
        exact ⟨v', he, ha.mono hB, hb.mono hB⟩
      · obtain ⟨z, hz⟩ : ∃ z, l[0]? = some z := ⟨_, List.getElem?_eq_getElem (by omega)⟩
        have e : sqDo 3 1 l a = (l.take 0 ++ l.drop (0 + 1), z, 0) := by
          have e1 : sqDo 3 1 l a = (l.tail, l.headD 0, 0) := if_neg h0
          rw [e1]
          rcases l with _ | ⟨x, l⟩
          · simp at h0
          · simp at hz; subst hz; rfl
        rw [e]
        refine (row_cut 3 0 g cap B l w h hl (by omega) (.inr ⟨rfl, rfl⟩) z a hz).mono ?_
        rintro e w' ⟨v', he, ha, hb⟩
        exact ⟨v', he, ha.mono hB, hb.mono hB⟩
    · rcases ht with rfl | rfl
      · obtain ⟨n, hn⟩ : ∃ n, l.length = n + 1 := ⟨l.length - 1, by omega⟩
        obtain ⟨z, hz⟩ : ∃ z, l[n]? = some z := ⟨_, List.getElem?_eq_getElem (by omega)⟩
        have HV : Hid (sqDo 2 2 l a = (l, z, 0)) := Lib.hid (by
          have e1 : sqDo 2 2 l a = (l, l.getLastD 0, 0) := if_neg h0
          rw [e1, List.getLastD_eq_getLast?, List.getLast?_eq_getElem?, hn, Nat.add_sub_cancel, hz]; rfl)
        rw [HV.out]
        have d0 := hc n z hz
        rw [hn] at HA hl ⊢
        clear h HV hc hf h0 hz hn
        go_enter Tryz.func124, Tryz.ntmps124
        go_wp2_with fail
        refine bodyPost_ret (v := .agg #[.slice (some ⟨g, 0, none⟩) (n + 1) cap, .int .i64 0, .int .u64 (z : Int)]) (by simp [results, Tryz.results124, go_sem]) rfl ⟨_, rfl, HA.out.below ?_, ?_⟩
        · (repeat (first | with_reducible exact Below.refl _ _ | with_reducible refine Below.setCell ?_ (by first | (simp; done) | (simp; omega)) _ | with_reducible refine Below.alloc ?_ (by first | omega | (simp; done) | (simp; omega)) _ | with_reducible refine below_drewN ?_ _))
        · exact (Below.refl _ _).alloc hB _
      · obtain ⟨n, hn⟩ : ∃ n, l.length = n + 1 := ⟨l.length - 1, by omega⟩
        obtain ⟨z, hz⟩ : ∃ z, l[0]? = some z := ⟨_, List.getElem?_eq_getElem (by omega)⟩
        have HV : Hid (sqDo 3 2 l a = (l, z, 0)) := Lib.hid (by
          have e1 : sqDo 3 2 l a = (l, l.headD 0, 0) := if_neg h0
          rw [e1]
          rcases l with _ | ⟨x, l⟩
          · simp at h0
          · simp at hz; subst hz; rfl)
        rw [HV.out]
        have d0 := hc 0 z hz
        rw [hn] at HA hl ⊢
        clear h HV hc hf h0 hz hn
        go_enter Tryz.func124, Tryz.ntmps124
        go_wp2_with fail
        refine bodyPost_ret (v := .agg #[.slice (some ⟨g, 0, none⟩) (n + 1) cap, .int .i64 0, .int .u64 (z : Int)]) (by simp [results, Tryz.results124, go_sem]) rfl ⟨_, rfl, HA.out.below ?_, ?_⟩
        · (repeat (first | with_reducible exact Below.refl _ _ | with_reducible refine Below.setCell ?_ (by first | (simp; done) | (simp; omega)) _ | with_reducible refine Below.alloc ?_ (by first | omega | (simp; done) | (simp; omega)) _ | with_reducible refine below_drewN ?_ _))
        · exact (Below.refl _ _).alloc hB _

theorem row_any (t k a B : Nat) (v : Value) (l : List Nat) (w : World) (h : OwnW w B v l) (hB : B ≤ w.heap.size) (hl : l.length ≤ 8) (ht : t = 2 ∨ t = 3) (hk : k ≤ 2) :
    Calls Tryz.prog 124 #[.int .i64 (t : Int), v, .int .i64 (k : Int), .int .u64 (a : Int)] w (DnP B w (sqDo t k l a)) := by
  by_cases h0 : k = 0
  · subst h0; exact row_add t a B v l w h hB hl ht
  · exact row_rest t k a B v l w h hB hl ht (by omega)
end
section
set_option maxRecDepth 100000
open Go.ChangeShapes Go.WideShapes Go.ChangeAt Go.RowKit
set_option linter.unusedVariables false
set_option linter.unusedSimpArgs false

theorem put3_alloc {w : World} {b : Nat} {t : TypeId} {u0 u1 u2 : Value} (h : w.heap[b]? = some (.cells #[u0, u1, u2] t (0, 0))) (x y z s : Value) (e : TypeId) :
    let W := (((w.setCell ⟨b, 0, none⟩ x).setCell ⟨b, 1, none⟩ y).setCell ⟨b, 2, none⟩ z).alloc (.cells #[s] e)
    W.cell? ⟨b, 0, none⟩ = some x ∧ W.cell? ⟨b, 1, none⟩ = some y ∧ W.cell? ⟨b, 2, none⟩ = some z ∧ W.cell? ⟨w.heap.size, 0, none⟩ = some s := by
  have hlt := blk_lt h
  have e3 : (((w.setCell ⟨b, 0, none⟩ x).setCell ⟨b, 1, none⟩ y).setCell ⟨b, 2, none⟩ z).heap[b]? = some (.cells #[x, y, z] t (0, 0)) :=
    heap_setCell_same _ _ _ #[x, y, u2] _ _ (heap_setCell_same _ _ _ #[x, u1, u2] _ _ (heap_setCell_same _ _ _ #[u0, u1, u2] _ _ h))
  have hs : (((w.setCell ⟨b, 0, none⟩ x).setCell ⟨b, 1, none⟩ y).setCell ⟨b, 2, none⟩ z).heap.size = w.heap.size := by simp [World.setCell]
  have e4 := (Below.heap_alloc (((w.setCell ⟨b, 0, none⟩ x).setCell ⟨b, 1, none⟩ y).setCell ⟨b, 2, none⟩ z) (.cells #[s] e) b (by rw [hs]; exact hlt)).trans e3
  exact ⟨cell_of_blk e4 rfl, cell_of_blk e4 rfl, cell_of_blk e4 rfl, World.cell?_alloc_at _ _ _ _ hs.symm⟩

set_option maxRecDepth 100000 in
set_option maxHeartbeats 1000000 in
theorem ref_0_0 (x : Nat) (v : Value) (a : Nat) (w : World) (ha : a < 18446744073709551616) (h : ArgW w v [x]) (hx : x < 18446744073709551616) :
    Calls Tryz.prog 100 #[.int .i64 0, v, .int .i64 0, .int .u64 (a : Int)] w (DnP w.heap.size w ([x], x, 0)) := by
  obtain ⟨l, hL⟩ : ∃ l, l = [x] := ⟨_, rfl⟩
  rw [← hL] at h
  have hl : l.length ≤ 4294967296 := by rw [hL]; simp
  obtain ⟨iI, ia, ib, ic, id⟩ := info_parts info22
  obtain ⟨ao, b, o, cap0, rfl, ha0, hn0, hc0⟩ := h
  have HA := Lib.hid ha0
  have HS : Hid (∀ (j : Nat) (u : Value), (l.map wU)[j]? = some u → (w.alloc doneO).cell? ⟨b, o + j, none⟩ = some u) := Lib.hid (fun j u hu => by
    rw [List.getElem?_map] at hu
    obtain ⟨x, hx, rfl⟩ := Option.map_eq_some_iff.1 hu
    have h1 := hc0 j x hx
    rw [World.cell?_alloc_past _ _ _ (World.block_lt_of_cell? w _ h1)]
    exact h1)
  have HN := Lib.hid hn0
  have HONE := Lib.hid (wU_one l)
  have HLEN : Hid ((l.map wU).length = l.length) := Lib.hid (by simp)
  clear ha0 hc0 hn0
  go_enter Tryz.func100, Tryz.ntmps100
  go_wp2_with (at_builtin; refine append_fresh_own (w := w.alloc doneO) rfl _ _ 37 rfl 55 iI (.int .u64 0) 8 Tryz.underlying37 ia ib ic id rfl (by decide) (w.heap.size + 1) (by simp) rfl ao b o cap0 l.length (l.map wU) rfl HLEN.out HA.out HS.out HN.out HONE.out hl ?_)
  intro v1 w1 how hnn hbl
  have HO : Hid (OwnW w1 (w.heap.size + 1) v1 l) := Lib.hid (by unfold OwnW; first | (simpa using how) | (rw [hL]; simpa using how) | (rw [hL, he]; simpa using how))
  have hbk : w1.heap[w.heap.size]? = some doneO := (hbl.block _ (by simp)).trans (heap_alloc_new _ _)
  have HB1 : Hid (Below w.heap.size w w1) := Lib.hid (((Below.refl _ _).alloc (Nat.le_refl _) _).trans (hbl.mono (by simp)))
  have k0 : w1.cell? ⟨w.heap.size, 0, none⟩ = some (.slice none 0 0) := cell_of_blk (k := 0) hbk rfl
  have k1 : w1.cell? ⟨w.heap.size, 1, none⟩ = some (.int .i64 0) := cell_of_blk (k := 1) hbk rfl
  have k2 : w1.cell? ⟨w.heap.size, 2, none⟩ = some (.int .u64 0) := cell_of_blk (k := 2) hbk rfl
  have z0 := free_of_blk (k := 0) hbk
  have z1 := free_of_blk (k := 1) hbk
  have z2 := free_of_blk (k := 2) hbk
  have hwl := blk_lt hbk
  have HBK : Hid (w1.heap[w.heap.size]? = some doneO) := Lib.hid hbk
  clear how hnn hbl hbk HA HS HN HONE HLEN
  subst hL
  obtain ⟨g, cap, rfl, hg, hlt, hc, hf⟩ := HO.out.opened (by simp)
  have d0 := hc 0 x rfl
  simp only [List.length_singleton] at *
  clear hc hf
  go_wp2_with fail
  refine bodyPost_ret (v := .agg #[.slice (some ⟨g, 0, none⟩) 1 cap, .int .i64 0, .int .u64 (x : Int)]) (by simp [results, Tryz.results100, go_sem, k0, k1, k2]) rfl ⟨_, rfl, (own_put3 HO.out (by omega) _ _ _).argB.mono (by omega), below_put3 HB1.out _ _ _⟩

set_option maxRecDepth 100000 in
set_option maxHeartbeats 1000000 in
theorem ref_1_0 (x : Nat) (v : Value) (a : Nat) (w : World) (ha : a < 18446744073709551616) (h : ArgW w v [x]) (hx : x < 18446744073709551616) :
    Calls Tryz.prog 100 #[.int .i64 1, v, .int .i64 0, .int .u64 (a : Int)] w (DnP w.heap.size w ([x], x, 0)) := by
  obtain ⟨l, hL⟩ : ∃ l, l = [x] := ⟨_, rfl⟩
  rw [← hL] at h
  have hl : l.length ≤ 4294967296 := by rw [hL]; simp
  obtain ⟨iI, ia, ib, ic, id⟩ := info_parts info22
  obtain ⟨ao, b, o, cap0, rfl, ha0, hn0, hc0⟩ := h
  have HA := Lib.hid ha0
  have HS : Hid (∀ (j : Nat) (u : Value), (l.map wU)[j]? = some u → (w.alloc doneO).cell? ⟨b, o + j, none⟩ = some u) := Lib.hid (fun j u hu => by
    rw [List.getElem?_map] at hu
    obtain ⟨x, hx, rfl⟩ := Option.map_eq_some_iff.1 hu
    have h1 := hc0 j x hx
    rw [World.cell?_alloc_past _ _ _ (World.block_lt_of_cell? w _ h1)]
    exact h1)
  have HN := Lib.hid hn0
  have HONE := Lib.hid (wU_one l)
  have HLEN : Hid ((l.map wU).length = l.length) := Lib.hid (by simp)
  clear ha0 hc0 hn0
  go_enter Tryz.func100, Tryz.ntmps100
  go_wp2_with (at_builtin; refine append_fresh_own (w := w.alloc doneO) rfl _ _ 37 rfl 55 iI (.int .u64 0) 8 Tryz.underlying37 ia ib ic id rfl (by decide) (w.heap.size + 1) (by simp) rfl ao b o cap0 l.length (l.map wU) rfl HLEN.out HA.out HS.out HN.out HONE.out hl ?_)
  intro v1 w1 how hnn hbl
  have HO : Hid (OwnW w1 (w.heap.size + 1) v1 l) := Lib.hid (by unfold OwnW; first | (simpa using how) | (rw [hL]; simpa using how) | (rw [hL, he]; simpa using how))
  have hbk : w1.heap[w.heap.size]? = some doneO := (hbl.block _ (by simp)).trans (heap_alloc_new _ _)
  have HB1 : Hid (Below w.heap.size w w1) := Lib.hid (((Below.refl _ _).alloc (Nat.le_refl _) _).trans (hbl.mono (by simp)))
  have k0 : w1.cell? ⟨w.heap.size, 0, none⟩ = some (.slice none 0 0) := cell_of_blk (k := 0) hbk rfl
  have k1 : w1.cell? ⟨w.heap.size, 1, none⟩ = some (.int .i64 0) := cell_of_blk (k := 1) hbk rfl
  have k2 : w1.cell? ⟨w.heap.size, 2, none⟩ = some (.int .u64 0) := cell_of_blk (k := 2) hbk rfl
  have z0 := free_of_blk (k := 0) hbk
  have z1 := free_of_blk (k := 1) hbk
  have z2 := free_of_blk (k := 2) hbk
  have hwl := blk_lt hbk
  have HBK : Hid (w1.heap[w.heap.size]? = some doneO) := Lib.hid hbk
  clear how hnn hbl hbk HA HS HN HONE HLEN
  subst hL
  obtain ⟨g, cap, rfl, hg, hlt, hc, hf⟩ := HO.out.opened (by simp)
  have d0 := hc 0 x rfl
  simp only [List.length_singleton] at *
  clear hc hf
  go_wp2_with fail
  refine bodyPost_ret (v := .agg #[.slice (some ⟨g, 0, none⟩) 1 cap, .int .i64 0, .int .u64 (x : Int)]) (by simp [results, Tryz.results100, go_sem, k0, k1, k2]) rfl ⟨_, rfl, (own_put3 HO.out (by omega) _ _ _).argB.mono (by omega), below_put3 HB1.out _ _ _⟩

set_option maxRecDepth 100000 in
set_option maxHeartbeats 1000000 in
theorem ref_5_0 (x : Nat) (v : Value) (a : Nat) (w : World) (ha : a < 18446744073709551616) (h : ArgW w v [x]) (hx : x < 18446744073709551616) :
    Calls Tryz.prog 100 #[.int .i64 5, v, .int .i64 0, .int .u64 (a : Int)] w (DnP w.heap.size w ([x], x, 0)) := by
  obtain ⟨l, hL⟩ : ∃ l, l = [x] := ⟨_, rfl⟩
  rw [← hL] at h
  have hl : l.length ≤ 4294967296 := by rw [hL]; simp
  obtain ⟨iI, ia, ib, ic, id⟩ := info_parts info22
  obtain ⟨ao, b, o, cap0, rfl, ha0, hn0, hc0⟩ := h
  have HA := Lib.hid ha0
  have HS : Hid (∀ (j : Nat) (u : Value), (l.map wU)[j]? = some u → (w.alloc doneO).cell? ⟨b, o + j, none⟩ = some u) := Lib.hid (fun j u hu => by
    rw [List.getElem?_map] at hu
    obtain ⟨x, hx, rfl⟩ := Option.map_eq_some_iff.1 hu
    have h1 := hc0 j x hx
    rw [World.cell?_alloc_past _ _ _ (World.block_lt_of_cell? w _ h1)]
    exact h1)
  have HN := Lib.hid hn0
  have HONE := Lib.hid (wU_one l)
  have HLEN : Hid ((l.map wU).length = l.length) := Lib.hid (by simp)
  clear ha0 hc0 hn0
  go_enter Tryz.func100, Tryz.ntmps100
  go_wp2_with (at_builtin; refine append_fresh_own (w := w.alloc doneO) rfl _ _ 37 rfl 55 iI (.int .u64 0) 8 Tryz.underlying37 ia ib ic id rfl (by decide) (w.heap.size + 1) (by simp) rfl ao b o cap0 l.length (l.map wU) rfl HLEN.out HA.out HS.out HN.out HONE.out hl ?_)
  intro v1 w1 how hnn hbl
  have HO : Hid (OwnW w1 (w.heap.size + 1) v1 l) := Lib.hid (by unfold OwnW; first | (simpa using how) | (rw [hL]; simpa using how) | (rw [hL, he]; simpa using how))
  have hbk : w1.heap[w.heap.size]? = some doneO := (hbl.block _ (by simp)).trans (heap_alloc_new _ _)
  have HB1 : Hid (Below w.heap.size w w1) := Lib.hid (((Below.refl _ _).alloc (Nat.le_refl _) _).trans (hbl.mono (by simp)))
  have k0 : w1.cell? ⟨w.heap.size, 0, none⟩ = some (.slice none 0 0) := cell_of_blk (k := 0) hbk rfl
  have k1 : w1.cell? ⟨w.heap.size, 1, none⟩ = some (.int .i64 0) := cell_of_blk (k := 1) hbk rfl
  have k2 : w1.cell? ⟨w.heap.size, 2, none⟩ = some (.int .u64 0) := cell_of_blk (k := 2) hbk rfl
  have z0 := free_of_blk (k := 0) hbk
  have z1 := free_of_blk (k := 1) hbk
  have z2 := free_of_blk (k := 2) hbk
  have hwl := blk_lt hbk
  have HBK : Hid (w1.heap[w.heap.size]? = some doneO) := Lib.hid hbk
  clear how hnn hbl hbk HA HS HN HONE HLEN
  subst hL
  obtain ⟨g, cap, rfl, hg, hlt, hc, hf⟩ := HO.out.opened (by simp)
  have d0 := hc 0 x rfl
  simp only [List.length_singleton] at *
  clear hc hf
  go_wp2_with fail
  refine bodyPost_ret (v := .agg #[.slice (some ⟨g, 0, none⟩) 1 cap, .int .i64 0, .int .u64 (x : Int)]) (by simp [results, Tryz.results100, go_sem, k0, k1, k2]) rfl ⟨_, rfl, (own_put3 HO.out (by omega) _ _ _).argB.mono (by omega), below_put3 HB1.out _ _ _⟩

set_option maxRecDepth 100000 in
set_option maxHeartbeats 1000000 in
theorem ref_6_0 (x : Nat) (v : Value) (a : Nat) (w : World) (ha : a < 18446744073709551616) (h : ArgW w v [x]) (hx : x < 18446744073709551616) :
    Calls Tryz.prog 100 #[.int .i64 6, v, .int .i64 0, .int .u64 (a : Int)] w (DnP w.heap.size w ([x], x, 0)) := by
  obtain ⟨l, hL⟩ : ∃ l, l = [x] := ⟨_, rfl⟩
  rw [← hL] at h
  have hl : l.length ≤ 4294967296 := by rw [hL]; simp
  obtain ⟨iI, ia, ib, ic, id⟩ := info_parts info22
  obtain ⟨ao, b, o, cap0, rfl, ha0, hn0, hc0⟩ := h
  have HA := Lib.hid ha0
  have HS : Hid (∀ (j : Nat) (u : Value), (l.map wU)[j]? = some u → (w.alloc doneO).cell? ⟨b, o + j, none⟩ = some u) := Lib.hid (fun j u hu => by
    rw [List.getElem?_map] at hu
    obtain ⟨x, hx, rfl⟩ := Option.map_eq_some_iff.1 hu
    have h1 := hc0 j x hx
    rw [World.cell?_alloc_past _ _ _ (World.block_lt_of_cell? w _ h1)]
    exact h1)
  have HN := Lib.hid hn0
  have HONE := Lib.hid (wU_one l)
  have HLEN : Hid ((l.map wU).length = l.length) := Lib.hid (by simp)
  clear ha0 hc0 hn0
  go_enter Tryz.func100, Tryz.ntmps100
  go_wp2_with (at_builtin; refine append_fresh_own (w := w.alloc doneO) rfl _ _ 37 rfl 55 iI (.int .u64 0) 8 Tryz.underlying37 ia ib ic id rfl (by decide) (w.heap.size + 1) (by simp) rfl ao b o cap0 l.length (l.map wU) rfl HLEN.out HA.out HS.out HN.out HONE.out hl ?_)
  intro v1 w1 how hnn hbl
  have HO : Hid (OwnW w1 (w.heap.size + 1) v1 l) := Lib.hid (by unfold OwnW; first | (simpa using how) | (rw [hL]; simpa using how) | (rw [hL, he]; simpa using how))
  have hbk : w1.heap[w.heap.size]? = some doneO := (hbl.block _ (by simp)).trans (heap_alloc_new _ _)
  have HB1 : Hid (Below w.heap.size w w1) := Lib.hid (((Below.refl _ _).alloc (Nat.le_refl _) _).trans (hbl.mono (by simp)))
  have k0 : w1.cell? ⟨w.heap.size, 0, none⟩ = some (.slice none 0 0) := cell_of_blk (k := 0) hbk rfl
  have k1 : w1.cell? ⟨w.heap.size, 1, none⟩ = some (.int .i64 0) := cell_of_blk (k := 1) hbk rfl
  have k2 : w1.cell? ⟨w.heap.size, 2, none⟩ = some (.int .u64 0) := cell_of_blk (k := 2) hbk rfl
  have z0 := free_of_blk (k := 0) hbk
  have z1 := free_of_blk (k := 1) hbk
  have z2 := free_of_blk (k := 2) hbk
  have hwl := blk_lt hbk
  have HBK : Hid (w1.heap[w.heap.size]? = some doneO) := Lib.hid hbk
  clear how hnn hbl hbk HA HS HN HONE HLEN
  subst hL
  obtain ⟨g, cap, rfl, hg, hlt, hc, hf⟩ := HO.out.opened (by simp)
  have d0 := hc 0 x rfl
  simp only [List.length_singleton] at *
  clear hc hf
  go_wp2_with fail
  refine bodyPost_ret (v := .agg #[.slice (some ⟨g, 0, none⟩) 1 cap, .int .i64 0, .int .u64 (x : Int)]) (by simp [results, Tryz.results100, go_sem, k0, k1, k2]) rfl ⟨_, rfl, (own_put3 HO.out (by omega) _ _ _).argB.mono (by omega), below_put3 HB1.out _ _ _⟩

set_option maxRecDepth 100000 in
set_option maxHeartbeats 1000000 in
theorem ref_0_1 (x : Nat) (v : Value) (a : Nat) (w : World) (ha : a < 18446744073709551616) (h : ArgW w v [x]) (hx : x < 18446744073709551616) :
    Calls Tryz.prog 100 #[.int .i64 0, v, .int .i64 1, .int .u64 (a : Int)] w (DnP w.heap.size w ([a], x, 0)) := by
  obtain ⟨l, hL⟩ : ∃ l, l = [x] := ⟨_, rfl⟩
  rw [← hL] at h
  have hl : l.length ≤ 4294967296 := by rw [hL]; simp
  obtain ⟨iI, ia, ib, ic, id⟩ := info_parts info22
  obtain ⟨ao, b, o, cap0, rfl, ha0, hn0, hc0⟩ := h
  have HA := Lib.hid ha0
  have HS : Hid (∀ (j : Nat) (u : Value), (l.map wU)[j]? = some u → (w.alloc doneO).cell? ⟨b, o + j, none⟩ = some u) := Lib.hid (fun j u hu => by
    rw [List.getElem?_map] at hu
    obtain ⟨x, hx, rfl⟩ := Option.map_eq_some_iff.1 hu
    have h1 := hc0 j x hx
    rw [World.cell?_alloc_past _ _ _ (World.block_lt_of_cell? w _ h1)]
    exact h1)
  have HN := Lib.hid hn0
  have HONE := Lib.hid (wU_one l)
  have HLEN : Hid ((l.map wU).length = l.length) := Lib.hid (by simp)
  clear ha0 hc0 hn0
  go_enter Tryz.func100, Tryz.ntmps100
  go_wp2_with (at_builtin; refine append_fresh_own (w := w.alloc doneO) rfl _ _ 37 rfl 55 iI (.int .u64 0) 8 Tryz.underlying37 ia ib ic id rfl (by decide) (w.heap.size + 1) (by simp) rfl ao b o cap0 l.length (l.map wU) rfl HLEN.out HA.out HS.out HN.out HONE.out hl ?_)
  intro v1 w1 how hnn hbl
  have HO : Hid (OwnW w1 (w.heap.size + 1) v1 l) := Lib.hid (by unfold OwnW; first | (simpa using how) | (rw [hL]; simpa using how) | (rw [hL, he]; simpa using how))
  have hbk : w1.heap[w.heap.size]? = some doneO := (hbl.block _ (by simp)).trans (heap_alloc_new _ _)
  have HB1 : Hid (Below w.heap.size w w1) := Lib.hid (((Below.refl _ _).alloc (Nat.le_refl _) _).trans (hbl.mono (by simp)))
  have k0 : w1.cell? ⟨w.heap.size, 0, none⟩ = some (.slice none 0 0) := cell_of_blk (k := 0) hbk rfl
  have k1 : w1.cell? ⟨w.heap.size, 1, none⟩ = some (.int .i64 0) := cell_of_blk (k := 1) hbk rfl
  have k2 : w1.cell? ⟨w.heap.size, 2, none⟩ = some (.int .u64 0) := cell_of_blk (k := 2) hbk rfl
  have z0 := free_of_blk (k := 0) hbk
  have z1 := free_of_blk (k := 1) hbk
  have z2 := free_of_blk (k := 2) hbk
  have hwl := blk_lt hbk
  have HBK : Hid (w1.heap[w.heap.size]? = some doneO) := Lib.hid hbk
  clear how hnn hbl hbk HA HS HN HONE HLEN
  subst hL
  obtain ⟨g, cap, rfl, hg, hlt, hc, hf⟩ := HO.out.opened (by simp)
  have d0 := hc 0 x rfl
  simp only [List.length_singleton] at *
  clear hc hf
  go_wp2_with fail
  obtain ⟨p0, p1, p2, p3⟩ := put3_alloc HBK.out (.slice (some ⟨w1.heap.size, 0, none⟩) 1 1) (.int .i64 0) (.int .u64 (x : Int)) (.int .u64 (a : Int)) 55
  refine bodyPost_ret (v := .agg #[.slice (some ⟨w1.heap.size, 0, none⟩) 1 1, .int .i64 0, .int .u64 (x : Int)]) (by simp [results, Tryz.results100, go_sem, p0, p1, p2]) rfl ⟨_, rfl, arg_one (by omega) (by rw [p3]; simp [wU]), (below_put3 HB1.out _ _ _).alloc (by simp [World.setCell]; omega) _⟩

set_option maxRecDepth 100000 in
set_option maxHeartbeats 1000000 in
theorem ref_5_1a (x : Nat) (v : Value) (a : Nat) (w : World) (ha : a < 18446744073709551616) (h : ArgW w v [x]) (hx : x < 18446744073709551616) (hgt : x < a) :
    Calls Tryz.prog 100 #[.int .i64 5, v, .int .i64 1, .int .u64 (a : Int)] w (DnP w.heap.size w ([a], x, 0)) := by
  obtain ⟨l, hL⟩ : ∃ l, l = [x] := ⟨_, rfl⟩
  rw [← hL] at h
  have hl : l.length ≤ 4294967296 := by rw [hL]; simp
  obtain ⟨iI, ia, ib, ic, id⟩ := info_parts info22
  obtain ⟨ao, b, o, cap0, rfl, ha0, hn0, hc0⟩ := h
  have HA := Lib.hid ha0
  have HS : Hid (∀ (j : Nat) (u : Value), (l.map wU)[j]? = some u → (w.alloc doneO).cell? ⟨b, o + j, none⟩ = some u) := Lib.hid (fun j u hu => by
    rw [List.getElem?_map] at hu
    obtain ⟨x, hx, rfl⟩ := Option.map_eq_some_iff.1 hu
    have h1 := hc0 j x hx
    rw [World.cell?_alloc_past _ _ _ (World.block_lt_of_cell? w _ h1)]
    exact h1)
  have HN := Lib.hid hn0
  have HONE := Lib.hid (wU_one l)
  have HLEN : Hid ((l.map wU).length = l.length) := Lib.hid (by simp)
  clear ha0 hc0 hn0
  go_enter Tryz.func100, Tryz.ntmps100
  go_wp2_with (at_builtin; refine append_fresh_own (w := w.alloc doneO) rfl _ _ 37 rfl 55 iI (.int .u64 0) 8 Tryz.underlying37 ia ib ic id rfl (by decide) (w.heap.size + 1) (by simp) rfl ao b o cap0 l.length (l.map wU) rfl HLEN.out HA.out HS.out HN.out HONE.out hl ?_)
  intro v1 w1 how hnn hbl
  have HO : Hid (OwnW w1 (w.heap.size + 1) v1 l) := Lib.hid (by unfold OwnW; first | (simpa using how) | (rw [hL]; simpa using how) | (rw [hL, he]; simpa using how))
  have hbk : w1.heap[w.heap.size]? = some doneO := (hbl.block _ (by simp)).trans (heap_alloc_new _ _)
  have HB1 : Hid (Below w.heap.size w w1) := Lib.hid (((Below.refl _ _).alloc (Nat.le_refl _) _).trans (hbl.mono (by simp)))
  have k0 : w1.cell? ⟨w.heap.size, 0, none⟩ = some (.slice none 0 0) := cell_of_blk (k := 0) hbk rfl
  have k1 : w1.cell? ⟨w.heap.size, 1, none⟩ = some (.int .i64 0) := cell_of_blk (k := 1) hbk rfl
  have k2 : w1.cell? ⟨w.heap.size, 2, none⟩ = some (.int .u64 0) := cell_of_blk (k := 2) hbk rfl
  have z0 := free_of_blk (k := 0) hbk
  have z1 := free_of_blk (k := 1) hbk
  have z2 := free_of_blk (k := 2) hbk
  have hwl := blk_lt hbk
  have HBK : Hid (w1.heap[w.heap.size]? = some doneO) := Lib.hid hbk
  clear how hnn hbl hbk HA HS HN HONE HLEN
  subst hL
  obtain ⟨g, cap, rfl, hg, hlt, hc, hf⟩ := HO.out.opened (by simp)
  have d0 := hc 0 x rfl
  simp only [List.length_singleton] at *
  clear hc hf
  go_wp2_with fail
  obtain ⟨p0, p1, p2, p3⟩ := put3_alloc HBK.out (.slice (some ⟨w1.heap.size, 0, none⟩) 1 1) (.int .i64 0) (.int .u64 (x : Int)) (.int .u64 (a : Int)) 55
  refine bodyPost_ret (v := .agg #[.slice (some ⟨w1.heap.size, 0, none⟩) 1 1, .int .i64 0, .int .u64 (x : Int)]) (by simp [results, Tryz.results100, go_sem, p0, p1, p2]) rfl ⟨_, rfl, arg_one (by omega) (by rw [p3]; simp [wU]), (below_put3 HB1.out _ _ _).alloc (by simp [World.setCell]; omega) _⟩

set_option maxRecDepth 100000 in
set_option maxHeartbeats 1000000 in
theorem ref_5_1b (x : Nat) (v : Value) (a : Nat) (w : World) (ha : a < 18446744073709551616) (h : ArgW w v [x]) (hx : x < 18446744073709551616) (hgt : ¬ x < a) :
    Calls Tryz.prog 100 #[.int .i64 5, v, .int .i64 1, .int .u64 (a : Int)] w (DnP w.heap.size w ([x], x, 0)) := by
  obtain ⟨l, hL⟩ : ∃ l, l = [x] := ⟨_, rfl⟩
  rw [← hL] at h
  have hl : l.length ≤ 4294967296 := by rw [hL]; simp
  obtain ⟨iI, ia, ib, ic, id⟩ := info_parts info22
  obtain ⟨ao, b, o, cap0, rfl, ha0, hn0, hc0⟩ := h
  have HA := Lib.hid ha0
  have HS : Hid (∀ (j : Nat) (u : Value), (l.map wU)[j]? = some u → (w.alloc doneO).cell? ⟨b, o + j, none⟩ = some u) := Lib.hid (fun j u hu => by
    rw [List.getElem?_map] at hu
    obtain ⟨x, hx, rfl⟩ := Option.map_eq_some_iff.1 hu
    have h1 := hc0 j x hx
    rw [World.cell?_alloc_past _ _ _ (World.block_lt_of_cell? w _ h1)]
    exact h1)
  have HN := Lib.hid hn0
  have HONE := Lib.hid (wU_one l)
  have HLEN : Hid ((l.map wU).length = l.length) := Lib.hid (by simp)
  clear ha0 hc0 hn0
  go_enter Tryz.func100, Tryz.ntmps100
  go_wp2_with (at_builtin; refine append_fresh_own (w := w.alloc doneO) rfl _ _ 37 rfl 55 iI (.int .u64 0) 8 Tryz.underlying37 ia ib ic id rfl (by decide) (w.heap.size + 1) (by simp) rfl ao b o cap0 l.length (l.map wU) rfl HLEN.out HA.out HS.out HN.out HONE.out hl ?_)
  intro v1 w1 how hnn hbl
  have HO : Hid (OwnW w1 (w.heap.size + 1) v1 l) := Lib.hid (by unfold OwnW; first | (simpa using how) | (rw [hL]; simpa using how) | (rw [hL, he]; simpa using how))
  have hbk : w1.heap[w.heap.size]? = some doneO := (hbl.block _ (by simp)).trans (heap_alloc_new _ _)
  have HB1 : Hid (Below w.heap.size w w1) := Lib.hid (((Below.refl _ _).alloc (Nat.le_refl _) _).trans (hbl.mono (by simp)))
  have k0 : w1.cell? ⟨w.heap.size, 0, none⟩ = some (.slice none 0 0) := cell_of_blk (k := 0) hbk rfl
  have k1 : w1.cell? ⟨w.heap.size, 1, none⟩ = some (.int .i64 0) := cell_of_blk (k := 1) hbk rfl
  have k2 : w1.cell? ⟨w.heap.size, 2, none⟩ = some (.int .u64 0) := cell_of_blk (k := 2) hbk rfl
  have z0 := free_of_blk (k := 0) hbk
  have z1 := free_of_blk (k := 1) hbk
  have z2 := free_of_blk (k := 2) hbk
  have hwl := blk_lt hbk
  have HBK : Hid (w1.heap[w.heap.size]? = some doneO) := Lib.hid hbk
  clear how hnn hbl hbk HA HS HN HONE HLEN
  subst hL
  obtain ⟨g, cap, rfl, hg, hlt, hc, hf⟩ := HO.out.opened (by simp)
  have d0 := hc 0 x rfl
  simp only [List.length_singleton] at *
  clear hc hf
  go_wp2_with fail
  refine bodyPost_ret (v := .agg #[.slice (some ⟨g, 0, none⟩) 1 cap, .int .i64 0, .int .u64 (x : Int)]) (by simp [results, Tryz.results100, go_sem, k0, k1, k2]) rfl ⟨_, rfl, (own_put3 HO.out (by omega) _ _ _).argB.mono (by omega), below_put3 HB1.out _ _ _⟩

set_option maxRecDepth 100000 in
set_option maxHeartbeats 1000000 in
theorem ref_6_1a (x : Nat) (v : Value) (a : Nat) (w : World) (ha : a < 18446744073709551616) (h : ArgW w v [x]) (hx : x < 18446744073709551616) (he : x = a / 65536 % 65536) :
    Calls Tryz.prog 100 #[.int .i64 6, v, .int .i64 1, .int .u64 (a : Int)] w (DnP w.heap.size w ([a % 65536], 1, 0)) := by
  obtain ⟨l, hL⟩ : ∃ l, l = [x] := ⟨_, rfl⟩
  rw [← hL] at h
  have hl : l.length ≤ 4294967296 := by rw [hL]; simp
  obtain ⟨iI, ia, ib, ic, id⟩ := info_parts info22
  obtain ⟨ao, b, o, cap0, rfl, ha0, hn0, hc0⟩ := h
  have HA := Lib.hid ha0
  have HS : Hid (∀ (j : Nat) (u : Value), (l.map wU)[j]? = some u → (w.alloc doneO).cell? ⟨b, o + j, none⟩ = some u) := Lib.hid (fun j u hu => by
    rw [List.getElem?_map] at hu
    obtain ⟨x, hx, rfl⟩ := Option.map_eq_some_iff.1 hu
    have h1 := hc0 j x hx
    rw [World.cell?_alloc_past _ _ _ (World.block_lt_of_cell? w _ h1)]
    exact h1)
  have HN := Lib.hid hn0
  have HONE := Lib.hid (wU_one l)
  have HLEN : Hid ((l.map wU).length = l.length) := Lib.hid (by simp)
  clear ha0 hc0 hn0
  go_enter Tryz.func100, Tryz.ntmps100
  go_wp2_with (at_builtin; refine append_fresh_own (w := w.alloc doneO) rfl _ _ 37 rfl 55 iI (.int .u64 0) 8 Tryz.underlying37 ia ib ic id rfl (by decide) (w.heap.size + 1) (by simp) rfl ao b o cap0 l.length (l.map wU) rfl HLEN.out HA.out HS.out HN.out HONE.out hl ?_)
  intro v1 w1 how hnn hbl
  have HO : Hid (OwnW w1 (w.heap.size + 1) v1 l) := Lib.hid (by unfold OwnW; first | (simpa using how) | (rw [hL]; simpa using how) | (rw [hL, he]; simpa using how))
  have hbk : w1.heap[w.heap.size]? = some doneO := (hbl.block _ (by simp)).trans (heap_alloc_new _ _)
  have HB1 : Hid (Below w.heap.size w w1) := Lib.hid (((Below.refl _ _).alloc (Nat.le_refl _) _).trans (hbl.mono (by simp)))
  have k0 : w1.cell? ⟨w.heap.size, 0, none⟩ = some (.slice none 0 0) := cell_of_blk (k := 0) hbk rfl
  have k1 : w1.cell? ⟨w.heap.size, 1, none⟩ = some (.int .i64 0) := cell_of_blk (k := 1) hbk rfl
  have k2 : w1.cell? ⟨w.heap.size, 2, none⟩ = some (.int .u64 0) := cell_of_blk (k := 2) hbk rfl
  have z0 := free_of_blk (k := 0) hbk
  have z1 := free_of_blk (k := 1) hbk
  have z2 := free_of_blk (k := 2) hbk
  have hwl := blk_lt hbk
  have HBK : Hid (w1.heap[w.heap.size]? = some doneO) := Lib.hid hbk
  clear how hnn hbl hbk HA HS HN HONE HLEN
  subst hL
  obtain ⟨g, cap, rfl, hg, hlt, hc, hf⟩ := HO.out.opened (by simp)
  have d0 := hc 0 x rfl
  simp only [List.length_singleton] at *
  clear hc hf
  go_wp2_with fail
  obtain ⟨p0, p1, p2, p3⟩ := put3_alloc HBK.out (.slice (some ⟨w1.heap.size, 0, none⟩) 1 1) (.int .i64 0) (.int .u64 1) (.int .u64 ((a : Int) % 65536)) 55
  refine bodyPost_ret (v := .agg #[.slice (some ⟨w1.heap.size, 0, none⟩) 1 1, .int .i64 0, .int .u64 1]) (by simp [results, Tryz.results100, go_sem, p0, p1, p2]) rfl ⟨_, rfl, arg_one (by omega) (by rw [p3]; simp [wU]), (below_put3 HB1.out _ _ _).alloc (by simp [World.setCell]; omega) _⟩

set_option maxRecDepth 100000 in
set_option maxHeartbeats 1000000 in
theorem ref_6_1b (x : Nat) (v : Value) (a : Nat) (w : World) (ha : a < 18446744073709551616) (h : ArgW w v [x]) (hx : x < 18446744073709551616) (he : ¬ x = a / 65536 % 65536) :
    Calls Tryz.prog 100 #[.int .i64 6, v, .int .i64 1, .int .u64 (a : Int)] w (DnP w.heap.size w ([x], 0, 0)) := by
  obtain ⟨l, hL⟩ : ∃ l, l = [x] := ⟨_, rfl⟩
  rw [← hL] at h
  have hl : l.length ≤ 4294967296 := by rw [hL]; simp
  obtain ⟨iI, ia, ib, ic, id⟩ := info_parts info22
  obtain ⟨ao, b, o, cap0, rfl, ha0, hn0, hc0⟩ := h
  have HA := Lib.hid ha0
  have HS : Hid (∀ (j : Nat) (u : Value), (l.map wU)[j]? = some u → (w.alloc doneO).cell? ⟨b, o + j, none⟩ = some u) := Lib.hid (fun j u hu => by
    rw [List.getElem?_map] at hu
    obtain ⟨x, hx, rfl⟩ := Option.map_eq_some_iff.1 hu
    have h1 := hc0 j x hx
    rw [World.cell?_alloc_past _ _ _ (World.block_lt_of_cell? w _ h1)]
    exact h1)
  have HN := Lib.hid hn0
  have HONE := Lib.hid (wU_one l)
  have HLEN : Hid ((l.map wU).length = l.length) := Lib.hid (by simp)
  clear ha0 hc0 hn0
  go_enter Tryz.func100, Tryz.ntmps100
  go_wp2_with (at_builtin; refine append_fresh_own (w := w.alloc doneO) rfl _ _ 37 rfl 55 iI (.int .u64 0) 8 Tryz.underlying37 ia ib ic id rfl (by decide) (w.heap.size + 1) (by simp) rfl ao b o cap0 l.length (l.map wU) rfl HLEN.out HA.out HS.out HN.out HONE.out hl ?_)
  intro v1 w1 how hnn hbl
  have HO : Hid (OwnW w1 (w.heap.size + 1) v1 l) := Lib.hid (by unfold OwnW; first | (simpa using how) | (rw [hL]; simpa using how) | (rw [hL, he]; simpa using how))
  have hbk : w1.heap[w.heap.size]? = some doneO := (hbl.block _ (by simp)).trans (heap_alloc_new _ _)
  have HB1 : Hid (Below w.heap.size w w1) := Lib.hid (((Below.refl _ _).alloc (Nat.le_refl _) _).trans (hbl.mono (by simp)))
  have k0 : w1.cell? ⟨w.heap.size, 0, none⟩ = some (.slice none 0 0) := cell_of_blk (k := 0) hbk rfl
  have k1 : w1.cell? ⟨w.heap.size, 1, none⟩ = some (.int .i64 0) := cell_of_blk (k := 1) hbk rfl
  have k2 : w1.cell? ⟨w.heap.size, 2, none⟩ = some (.int .u64 0) := cell_of_blk (k := 2) hbk rfl
  have z0 := free_of_blk (k := 0) hbk
  have z1 := free_of_blk (k := 1) hbk
  have z2 := free_of_blk (k := 2) hbk
  have hwl := blk_lt hbk
  have HBK : Hid (w1.heap[w.heap.size]? = some doneO) := Lib.hid hbk
  clear how hnn hbl hbk HA HS HN HONE HLEN
  subst hL
  obtain ⟨g, cap, rfl, hg, hlt, hc, hf⟩ := HO.out.opened (by simp)
  have d0 := hc 0 x rfl
  simp only [List.length_singleton] at *
  clear hc hf
  go_wp2_with fail
  refine bodyPost_ret (v := .agg #[.slice (some ⟨g, 0, none⟩) 1 cap, .int .i64 0, .int .u64 0]) (by simp [results, Tryz.results100, go_sem, k0, k1, k2]) rfl ⟨_, rfl, (own_put3 HO.out (by omega) _ _ _).argB.mono (by omega), below_put3 HB1.out _ _ _⟩

set_option maxRecDepth 100000 in
set_option maxHeartbeats 1000000 in
theorem ref_1_1 (x : Nat) (v : Value) (a : Nat) (w : World) (ha : a < 18446744073709551616) (h : ArgW w v [x]) (hx : x < 18446744073709551616) :
    Calls Tryz.prog 100 #[.int .i64 1, v, .int .i64 1, .int .u64 (a : Int)] w (DnP w.heap.size w ([(x + a) % 18446744073709551616], x, 0)) := by
  obtain ⟨l, hL⟩ : ∃ l, l = [x] := ⟨_, rfl⟩
  rw [← hL] at h
  have hl : l.length ≤ 4294967296 := by rw [hL]; simp
  obtain ⟨iI, ia, ib, ic, id⟩ := info_parts info22
  obtain ⟨ao, b, o, cap0, rfl, ha0, hn0, hc0⟩ := h
  have HA := Lib.hid ha0
  have HS : Hid (∀ (j : Nat) (u : Value), (l.map wU)[j]? = some u → (w.alloc doneO).cell? ⟨b, o + j, none⟩ = some u) := Lib.hid (fun j u hu => by
    rw [List.getElem?_map] at hu
    obtain ⟨x, hx, rfl⟩ := Option.map_eq_some_iff.1 hu
    have h1 := hc0 j x hx
    rw [World.cell?_alloc_past _ _ _ (World.block_lt_of_cell? w _ h1)]
    exact h1)
  have HN := Lib.hid hn0
  have HONE := Lib.hid (wU_one l)
  have HLEN : Hid ((l.map wU).length = l.length) := Lib.hid (by simp)
  clear ha0 hc0 hn0
  go_enter Tryz.func100, Tryz.ntmps100
  go_wp2_with (at_builtin; refine append_fresh_own (w := w.alloc doneO) rfl _ _ 37 rfl 55 iI (.int .u64 0) 8 Tryz.underlying37 ia ib ic id rfl (by decide) (w.heap.size + 1) (by simp) rfl ao b o cap0 l.length (l.map wU) rfl HLEN.out HA.out HS.out HN.out HONE.out hl ?_)
  intro v1 w1 how hnn hbl
  have HO : Hid (OwnW w1 (w.heap.size + 1) v1 l) := Lib.hid (by unfold OwnW; first | (simpa using how) | (rw [hL]; simpa using how) | (rw [hL, he]; simpa using how))
  have hbk : w1.heap[w.heap.size]? = some doneO := (hbl.block _ (by simp)).trans (heap_alloc_new _ _)
  have HB1 : Hid (Below w.heap.size w w1) := Lib.hid (((Below.refl _ _).alloc (Nat.le_refl _) _).trans (hbl.mono (by simp)))
  have k0 : w1.cell? ⟨w.heap.size, 0, none⟩ = some (.slice none 0 0) := cell_of_blk (k := 0) hbk rfl
  have k1 : w1.cell? ⟨w.heap.size, 1, none⟩ = some (.int .i64 0) := cell_of_blk (k := 1) hbk rfl
  have k2 : w1.cell? ⟨w.heap.size, 2, none⟩ = some (.int .u64 0) := cell_of_blk (k := 2) hbk rfl
  have z0 := free_of_blk (k := 0) hbk
  have z1 := free_of_blk (k := 1) hbk
  have z2 := free_of_blk (k := 2) hbk
  have hwl := blk_lt hbk
  have HBK : Hid (w1.heap[w.heap.size]? = some doneO) := Lib.hid hbk
  clear how hnn hbl hbk HA HS HN HONE HLEN
  subst hL
  obtain ⟨g, cap, rfl, hg, hlt, hc, hf⟩ := HO.out.opened (by simp)
  have d0 := hc 0 x rfl
  simp only [List.length_singleton] at *
  clear hc hf
  have hs1 : IntKind.u64.wrap ((x : Int) + (a : Int)) = (((x + a) % 18446744073709551616 : Nat) : Int) := by
    simp [IntKind.wrap, IntKind.signed, IntKind.bits]
  have hs2 : (x + a) % 18446744073709551616 < 18446744073709551616 := Nat.mod_lt _ (by decide)
  generalize (x + a) % 18446744073709551616 = z at *
  go_wp2_with fail
  go_region
  go_wp2_with fail
  obtain ⟨p0, p1, p2, p3⟩ := put3_alloc HBK.out (.slice (some ⟨w1.heap.size, 0, none⟩) 1 1) (.int .i64 0) (.int .u64 (x : Int)) (.int .u64 (z : Int)) 55
  refine bodyPost_ret (v := .agg #[.slice (some ⟨w1.heap.size, 0, none⟩) 1 1, .int .i64 0, .int .u64 (x : Int)]) (by simp [results, Tryz.results100, go_sem, p0, p1, p2]) rfl ⟨_, rfl, ArgB.drew (arg_one (by omega) (by rw [p3]; simp [wU])), (below_put3 HB1.out _ _ _).alloc (by simp [World.setCell]; omega) _ |>.drew⟩

set_option maxRecDepth 100000 in
set_option maxHeartbeats 1000000 in
theorem ref_7_0a (l : List Nat) (v : Value) (a : Nat) (w : World) (ha : a < 18446744073709551616) (h : ArgW w v l) (h8 : l.length = 8) (hx : ∀ x ∈ l, x < 18446744073709551616) (hb : 8 ≤ a) :
    Calls Tryz.prog 100 #[.int .i64 7, v, .int .i64 0, .int .u64 (a : Int)] w (DnP w.heap.size w (l, 0, 10)) := by
  have hl : l.length ≤ 4294967296 := by omega
  have HX := Lib.hid hx
  have hL : l.length = 8 := h8
  clear hx
  obtain ⟨iI, ia, ib, ic, id⟩ := info_parts info22
  obtain ⟨ao, b, o, cap0, rfl, ha0, hn0, hc0⟩ := h
  have HA := Lib.hid ha0
  have HS : Hid (∀ (j : Nat) (u : Value), (l.map wU)[j]? = some u → (w.alloc doneO).cell? ⟨b, o + j, none⟩ = some u) := Lib.hid (fun j u hu => by
    rw [List.getElem?_map] at hu
    obtain ⟨x, hx, rfl⟩ := Option.map_eq_some_iff.1 hu
    have h1 := hc0 j x hx
    rw [World.cell?_alloc_past _ _ _ (World.block_lt_of_cell? w _ h1)]
    exact h1)
  have HN := Lib.hid hn0
  have HONE := Lib.hid (wU_one l)
  have HLEN : Hid ((l.map wU).length = l.length) := Lib.hid (by simp)
  clear ha0 hc0 hn0
  go_enter Tryz.func100, Tryz.ntmps100
  go_wp2_with (at_builtin; refine append_fresh_own (w := w.alloc doneO) rfl _ _ 37 rfl 55 iI (.int .u64 0) 8 Tryz.underlying37 ia ib ic id rfl (by decide) (w.heap.size + 1) (by simp) rfl ao b o cap0 l.length (l.map wU) rfl HLEN.out HA.out HS.out HN.out HONE.out hl ?_)
  intro v1 w1 how hnn hbl
  have HO : Hid (OwnW w1 (w.heap.size + 1) v1 l) := Lib.hid (by unfold OwnW; first | (simpa using how) | (rw [hL]; simpa using how) | (rw [hL, he]; simpa using how))
  have hbk : w1.heap[w.heap.size]? = some doneO := (hbl.block _ (by simp)).trans (heap_alloc_new _ _)
  have HB1 : Hid (Below w.heap.size w w1) := Lib.hid (((Below.refl _ _).alloc (Nat.le_refl _) _).trans (hbl.mono (by simp)))
  have k0 : w1.cell? ⟨w.heap.size, 0, none⟩ = some (.slice none 0 0) := cell_of_blk (k := 0) hbk rfl
  have k1 : w1.cell? ⟨w.heap.size, 1, none⟩ = some (.int .i64 0) := cell_of_blk (k := 1) hbk rfl
  have k2 : w1.cell? ⟨w.heap.size, 2, none⟩ = some (.int .u64 0) := cell_of_blk (k := 2) hbk rfl
  have z0 := free_of_blk (k := 0) hbk
  have z1 := free_of_blk (k := 1) hbk
  have z2 := free_of_blk (k := 2) hbk
  have hwl := blk_lt hbk
  have HBK : Hid (w1.heap[w.heap.size]? = some doneO) := Lib.hid hbk
  clear how hnn hbl hbk HA HS HN HONE HLEN
  obtain ⟨g, cap, rfl, hg, hlt, hc, hf⟩ := HO.out.opened (by omega)
  rw [h8] at HO
  have HO8 := HO
  skip
  rw [h8]
  clear hc hf
  go_wp2_with fail
  refine bodyPost_ret (v := .agg #[.slice (some ⟨g, 0, none⟩) 8 cap, .int .i64 10, .int .u64 0]) (by simp [results, Tryz.results100, go_sem, k0, k1, k2]) rfl ⟨_, rfl, (own_put3 HO.out (by omega) _ _ _).argB.mono (by omega), below_put3 HB1.out _ _ _⟩

set_option maxRecDepth 100000 in
set_option maxHeartbeats 1000000 in
theorem ref_7_0b (l : List Nat) (v : Value) (a : Nat) (w : World) (ha : a < 18446744073709551616) (h : ArgW w v l) (h8 : l.length = 8) (hx : ∀ x ∈ l, x < 18446744073709551616) (hb : a < 8) (z : Nat) (hz : Hid (l[a]? = some z)) :
    Calls Tryz.prog 100 #[.int .i64 7, v, .int .i64 0, .int .u64 (a : Int)] w (DnP w.heap.size w (l, z, 0)) := by
  have hl : l.length ≤ 4294967296 := by omega
  have HX := Lib.hid hx
  have hL : l.length = 8 := h8
  clear hx
  obtain ⟨iI, ia, ib, ic, id⟩ := info_parts info22
  obtain ⟨ao, b, o, cap0, rfl, ha0, hn0, hc0⟩ := h
  have HA := Lib.hid ha0
  have HS : Hid (∀ (j : Nat) (u : Value), (l.map wU)[j]? = some u → (w.alloc doneO).cell? ⟨b, o + j, none⟩ = some u) := Lib.hid (fun j u hu => by
    rw [List.getElem?_map] at hu
    obtain ⟨x, hx, rfl⟩ := Option.map_eq_some_iff.1 hu
    have h1 := hc0 j x hx
    rw [World.cell?_alloc_past _ _ _ (World.block_lt_of_cell? w _ h1)]
    exact h1)
  have HN := Lib.hid hn0
  have HONE := Lib.hid (wU_one l)
  have HLEN : Hid ((l.map wU).length = l.length) := Lib.hid (by simp)
  clear ha0 hc0 hn0
  go_enter Tryz.func100, Tryz.ntmps100
  go_wp2_with (at_builtin; refine append_fresh_own (w := w.alloc doneO) rfl _ _ 37 rfl 55 iI (.int .u64 0) 8 Tryz.underlying37 ia ib ic id rfl (by decide) (w.heap.size + 1) (by simp) rfl ao b o cap0 l.length (l.map wU) rfl HLEN.out HA.out HS.out HN.out HONE.out hl ?_)
  intro v1 w1 how hnn hbl
  have HO : Hid (OwnW w1 (w.heap.size + 1) v1 l) := Lib.hid (by unfold OwnW; first | (simpa using how) | (rw [hL]; simpa using how) | (rw [hL, he]; simpa using how))
  have hbk : w1.heap[w.heap.size]? = some doneO := (hbl.block _ (by simp)).trans (heap_alloc_new _ _)
  have HB1 : Hid (Below w.heap.size w w1) := Lib.hid (((Below.refl _ _).alloc (Nat.le_refl _) _).trans (hbl.mono (by simp)))
  have k0 : w1.cell? ⟨w.heap.size, 0, none⟩ = some (.slice none 0 0) := cell_of_blk (k := 0) hbk rfl
  have k1 : w1.cell? ⟨w.heap.size, 1, none⟩ = some (.int .i64 0) := cell_of_blk (k := 1) hbk rfl
  have k2 : w1.cell? ⟨w.heap.size, 2, none⟩ = some (.int .u64 0) := cell_of_blk (k := 2) hbk rfl
  have z0 := free_of_blk (k := 0) hbk
  have z1 := free_of_blk (k := 1) hbk
  have z2 := free_of_blk (k := 2) hbk
  have hwl := blk_lt hbk
  have HBK : Hid (w1.heap[w.heap.size]? = some doneO) := Lib.hid hbk
  clear how hnn hbl hbk HA HS HN HONE HLEN
  obtain ⟨g, cap, rfl, hg, hlt, hc, hf⟩ := HO.out.opened (by omega)
  rw [h8] at HO
  have HO8 := HO
  have d0 := hc a z hz.out
  rw [h8]
  clear hc hf
  go_wp2_with fail
  refine bodyPost_ret (v := .agg #[.slice (some ⟨g, 0, none⟩) 8 cap, .int .i64 0, .int .u64 (z : Int)]) (by simp [results, Tryz.results100, go_sem, k0, k1, k2]) rfl ⟨_, rfl, (own_put3 HO.out (by omega) _ _ _).argB.mono (by omega), below_put3 HB1.out _ _ _⟩

set_option maxRecDepth 100000 in
set_option maxHeartbeats 1000000 in
theorem ref_7_1a (l : List Nat) (v : Value) (a : Nat) (w : World) (ha : a < 18446744073709551616) (h : ArgW w v l) (h8 : l.length = 8) (hx : ∀ x ∈ l, x < 18446744073709551616) (q : Nat) (hq1 : (a : Int) / 16777216 = (q : Int)) (hb : 8 ≤ q) :
    Calls Tryz.prog 100 #[.int .i64 7, v, .int .i64 1, .int .u64 (a : Int)] w (DnP w.heap.size w (l, 0, 10)) := by
  have hl : l.length ≤ 4294967296 := by omega
  have HX := Lib.hid hx
  have hL : l.length = 8 := h8
  clear hx
  obtain ⟨iI, ia, ib, ic, id⟩ := info_parts info22
  obtain ⟨ao, b, o, cap0, rfl, ha0, hn0, hc0⟩ := h
  have HA := Lib.hid ha0
  have HS : Hid (∀ (j : Nat) (u : Value), (l.map wU)[j]? = some u → (w.alloc doneO).cell? ⟨b, o + j, none⟩ = some u) := Lib.hid (fun j u hu => by
    rw [List.getElem?_map] at hu
    obtain ⟨x, hx, rfl⟩ := Option.map_eq_some_iff.1 hu
    have h1 := hc0 j x hx
    rw [World.cell?_alloc_past _ _ _ (World.block_lt_of_cell? w _ h1)]
    exact h1)
  have HN := Lib.hid hn0
  have HONE := Lib.hid (wU_one l)
  have HLEN : Hid ((l.map wU).length = l.length) := Lib.hid (by simp)
  clear ha0 hc0 hn0
  go_enter Tryz.func100, Tryz.ntmps100
  go_wp2_with (at_builtin; refine append_fresh_own (w := w.alloc doneO) rfl _ _ 37 rfl 55 iI (.int .u64 0) 8 Tryz.underlying37 ia ib ic id rfl (by decide) (w.heap.size + 1) (by simp) rfl ao b o cap0 l.length (l.map wU) rfl HLEN.out HA.out HS.out HN.out HONE.out hl ?_)
  intro v1 w1 how hnn hbl
  have HO : Hid (OwnW w1 (w.heap.size + 1) v1 l) := Lib.hid (by unfold OwnW; first | (simpa using how) | (rw [hL]; simpa using how) | (rw [hL, he]; simpa using how))
  have hbk : w1.heap[w.heap.size]? = some doneO := (hbl.block _ (by simp)).trans (heap_alloc_new _ _)
  have HB1 : Hid (Below w.heap.size w w1) := Lib.hid (((Below.refl _ _).alloc (Nat.le_refl _) _).trans (hbl.mono (by simp)))
  have k0 : w1.cell? ⟨w.heap.size, 0, none⟩ = some (.slice none 0 0) := cell_of_blk (k := 0) hbk rfl
  have k1 : w1.cell? ⟨w.heap.size, 1, none⟩ = some (.int .i64 0) := cell_of_blk (k := 1) hbk rfl
  have k2 : w1.cell? ⟨w.heap.size, 2, none⟩ = some (.int .u64 0) := cell_of_blk (k := 2) hbk rfl
  have z0 := free_of_blk (k := 0) hbk
  have z1 := free_of_blk (k := 1) hbk
  have z2 := free_of_blk (k := 2) hbk
  have hwl := blk_lt hbk
  have HBK : Hid (w1.heap[w.heap.size]? = some doneO) := Lib.hid hbk
  clear how hnn hbl hbk HA HS HN HONE HLEN
  obtain ⟨g, cap, rfl, hg, hlt, hc, hf⟩ := HO.out.opened (by omega)
  rw [h8] at HO
  have HO8 := HO
  skip
  rw [h8]
  clear hc hf
  go_wp2_with fail
  refine bodyPost_ret (v := .agg #[.slice (some ⟨g, 0, none⟩) 8 cap, .int .i64 10, .int .u64 0]) (by simp [results, Tryz.results100, go_sem, k0, k1, k2]) rfl ⟨_, rfl, (own_put3 HO.out (by omega) _ _ _).argB.mono (by omega), below_put3 HB1.out _ _ _⟩

set_option maxRecDepth 100000 in
set_option maxHeartbeats 1000000 in
theorem ref_7_1b (l : List Nat) (v : Value) (a : Nat) (w : World) (ha : a < 18446744073709551616) (h : ArgW w v l) (h8 : l.length = 8) (hx : ∀ x ∈ l, x < 18446744073709551616) (q r : Nat) (hq1 : (a : Int) / 16777216 = (q : Int)) (hr1 : (a : Int) % 16777216 = (r : Int)) (hr2 : r < 16777216) (hb : q < 8) (z : Nat) (hz : Hid (l[q]? = some z)) (ls : List Nat) (hls : Hid (ls = l.set q r)) :
    Calls Tryz.prog 100 #[.int .i64 7, v, .int .i64 1, .int .u64 (a : Int)] w (DnP w.heap.size w (ls, z, 0)) := by
  have hl : l.length ≤ 4294967296 := by omega
  have HX := Lib.hid hx
  have hL : l.length = 8 := h8
  clear hx
  obtain ⟨iI, ia, ib, ic, id⟩ := info_parts info22
  obtain ⟨ao, b, o, cap0, rfl, ha0, hn0, hc0⟩ := h
  have HA := Lib.hid ha0
  have HS : Hid (∀ (j : Nat) (u : Value), (l.map wU)[j]? = some u → (w.alloc doneO).cell? ⟨b, o + j, none⟩ = some u) := Lib.hid (fun j u hu => by
    rw [List.getElem?_map] at hu
    obtain ⟨x, hx, rfl⟩ := Option.map_eq_some_iff.1 hu
    have h1 := hc0 j x hx
    rw [World.cell?_alloc_past _ _ _ (World.block_lt_of_cell? w _ h1)]
    exact h1)
  have HN := Lib.hid hn0
  have HONE := Lib.hid (wU_one l)
  have HLEN : Hid ((l.map wU).length = l.length) := Lib.hid (by simp)
  clear ha0 hc0 hn0
  go_enter Tryz.func100, Tryz.ntmps100
  go_wp2_with (at_builtin; refine append_fresh_own (w := w.alloc doneO) rfl _ _ 37 rfl 55 iI (.int .u64 0) 8 Tryz.underlying37 ia ib ic id rfl (by decide) (w.heap.size + 1) (by simp) rfl ao b o cap0 l.length (l.map wU) rfl HLEN.out HA.out HS.out HN.out HONE.out hl ?_)
  intro v1 w1 how hnn hbl
  have HO : Hid (OwnW w1 (w.heap.size + 1) v1 l) := Lib.hid (by unfold OwnW; first | (simpa using how) | (rw [hL]; simpa using how) | (rw [hL, he]; simpa using how))
  have hbk : w1.heap[w.heap.size]? = some doneO := (hbl.block _ (by simp)).trans (heap_alloc_new _ _)
  have HB1 : Hid (Below w.heap.size w w1) := Lib.hid (((Below.refl _ _).alloc (Nat.le_refl _) _).trans (hbl.mono (by simp)))
  have k0 : w1.cell? ⟨w.heap.size, 0, none⟩ = some (.slice none 0 0) := cell_of_blk (k := 0) hbk rfl
  have k1 : w1.cell? ⟨w.heap.size, 1, none⟩ = some (.int .i64 0) := cell_of_blk (k := 1) hbk rfl
  have k2 : w1.cell? ⟨w.heap.size, 2, none⟩ = some (.int .u64 0) := cell_of_blk (k := 2) hbk rfl
  have z0 := free_of_blk (k := 0) hbk
  have z1 := free_of_blk (k := 1) hbk
  have z2 := free_of_blk (k := 2) hbk
  have hwl := blk_lt hbk
  have HBK : Hid (w1.heap[w.heap.size]? = some doneO) := Lib.hid hbk
  clear how hnn hbl hbk HA HS HN HONE HLEN
  obtain ⟨g, cap, rfl, hg, hlt, hc, hf⟩ := HO.out.opened (by omega)
  rw [h8] at HO
  have HO8 := HO
  have d0 := hc q z hz.out
  have f0 := hf q
  rw [h8]
  clear hc hf
  go_wp2_with fail
  refine bodyPost_ret (v := .agg #[.slice (some ⟨g, 0, none⟩) 8 cap, .int .i64 0, .int .u64 (z : Int)]) (by simp [results, Tryz.results100, go_sem, k0, k1, k2]) rfl ⟨_, rfl, ?_, ?_⟩
  · rw [hls.out]
    exact (own_put3 (HO8.out.stored q r) (by omega) _ _ _).argB.mono (by omega)
  · exact below_put3 (HB1.out.setCell (p := ⟨g, q, none⟩) (by show _ ≤ g; omega) _) _ _ _

end
section
set_option maxRecDepth 100000
open Go.ChangeShapes Go.WideShapes Go.ChangeAt Go.RowKit
set_option linter.unusedVariables false
set_option linter.unusedSimpArgs false

set_option maxRecDepth 100000 in
set_option maxHeartbeats 1000000 in
theorem ref_row2 (k : Nat) (l : List Nat) (v : Value) (a : Nat) (w : World) (h : ArgW w v l) (h8 : l.length ≤ 8) (hk : k ≤ 2) :
    Calls Tryz.prog 100 #[.int .i64 2, v, .int .i64 (k : Int), .int .u64 (a : Int)] w (DnP w.heap.size w (sqDo 2 k l a)) := by
  have hl : l.length ≤ 4294967296 := by omega
  have HR := Lib.hid (fun B v W (h : OwnW W B v l) (hB : B ≤ W.heap.size) => row_any 2 k a B v l W h hB h8 (by decide) hk)
  generalize sqDo 2 k l a = rr at *
  clear hk
  obtain ⟨iI, ia, ib, ic, id⟩ := info_parts info22
  obtain ⟨ao, b, o, cap0, rfl, ha0, hn0, hc0⟩ := h
  have HA := Lib.hid ha0
  have HS : Hid (∀ (j : Nat) (u : Value), (l.map wU)[j]? = some u → (w.alloc doneO).cell? ⟨b, o + j, none⟩ = some u) := Lib.hid (fun j u hu => by
    rw [List.getElem?_map] at hu
    obtain ⟨x, hx, rfl⟩ := Option.map_eq_some_iff.1 hu
    have h1 := hc0 j x hx
    rw [World.cell?_alloc_past _ _ _ (World.block_lt_of_cell? w _ h1)]
    exact h1)
  have HN := Lib.hid hn0
  have HONE := Lib.hid (wU_one l)
  have HLEN : Hid ((l.map wU).length = l.length) := Lib.hid (by simp)
  clear ha0 hc0 hn0
  go_enter Tryz.func100, Tryz.ntmps100
  go_wp2_with (at_builtin; refine append_fresh_own (w := w.alloc doneO) rfl _ _ 37 rfl 55 iI (.int .u64 0) 8 Tryz.underlying37 ia ib ic id rfl (by decide) (w.heap.size + 1) (by simp) rfl ao b o cap0 l.length (l.map wU) rfl HLEN.out HA.out HS.out HN.out HONE.out hl ?_)
  intro v1 w1 how hnn hbl
  have HO : Hid (OwnW w1 (w.heap.size + 1) v1 l) := Lib.hid (by unfold OwnW; simpa using how)
  have hbk : w1.heap[w.heap.size]? = some doneO := (hbl.block _ (by simp)).trans (heap_alloc_new _ _)
  have HB1 : Hid (Below w.heap.size w w1) := Lib.hid (((Below.refl _ _).alloc (Nat.le_refl _) _).trans (hbl.mono (by simp)))
  have k0 : w1.cell? ⟨w.heap.size, 0, none⟩ = some (.slice none 0 0) := cell_of_blk (k := 0) hbk rfl
  have k1 : w1.cell? ⟨w.heap.size, 1, none⟩ = some (.int .i64 0) := cell_of_blk (k := 1) hbk rfl
  have k2 : w1.cell? ⟨w.heap.size, 2, none⟩ = some (.int .u64 0) := cell_of_blk (k := 2) hbk rfl
  have z0 := free_of_blk (k := 0) hbk
  have z1 := free_of_blk (k := 1) hbk
  have z2 := free_of_blk (k := 2) hbk
  have hwl := blk_lt hbk
  have HBK : Hid (w1.heap[w.heap.size]? = some doneO) := Lib.hid hbk
  clear how hnn hbl hbk HA HS HN HONE HLEN
  have HZ : Hid (w.heap.size + 1 ≤ w1.heap.size) := Lib.hid (by omega)
  obtain ⟨ao1, cap1, rfl⟩ := HO.out.arg.isSlice
  go_wp2_with (go_at_call 124; refine (HR.out _ _ _ HO.out HZ.out).mono ?_; (rintro e w2 ⟨v2, rfl, ha2, hb2⟩; (have hbk2 : w2.heap[w.heap.size]? = some doneO := (hb2.block _ (by omega)).trans HBK.out); (have q0 : w2.cell? ⟨w.heap.size, 0, none⟩ = some (.slice none 0 0) := cell_of_blk (k := 0) hbk2 rfl); (have q1 : w2.cell? ⟨w.heap.size, 1, none⟩ = some (.int .i64 0) := cell_of_blk (k := 1) hbk2 rfl); (have q2 : w2.cell? ⟨w.heap.size, 2, none⟩ = some (.int .u64 0) := cell_of_blk (k := 2) hbk2 rfl); (have y0 := free_of_blk (k := 0) hbk2); (have y1 := free_of_blk (k := 1) hbk2); (have y2 := free_of_blk (k := 2) hbk2); (have HA2 := Lib.hid ha2); (have HB2 := Lib.hid (HB1.out.trans (hb2.mono (by omega)))); (obtain ⟨ao2, cap2, rfl⟩ := ha2.arg.isSlice); clear hb2 ha2 hbk2))
  refine bodyPost_ret (v := .agg #[.slice ao2 rr.1.length cap2, .int .i64 (rr.2.2 : Int), .int .u64 (rr.2.1 : Int)]) (by simp [results, Tryz.results100, go_sem, q0, q1, q2]) rfl ⟨_, rfl, (HA2.out.put3 (by omega) _ _ _).mono (by omega), below_put3 HB2.out _ _ _⟩

set_option maxRecDepth 100000 in
set_option maxHeartbeats 1000000 in
theorem ref_row3 (k : Nat) (l : List Nat) (v : Value) (a : Nat) (w : World) (h : ArgW w v l) (h8 : l.length ≤ 8) (hk : k ≤ 2) :
    Calls Tryz.prog 100 #[.int .i64 3, v, .int .i64 (k : Int), .int .u64 (a : Int)] w (DnP w.heap.size w (sqDo 3 k l a)) := by
  have hl : l.length ≤ 4294967296 := by omega
  have HR := Lib.hid (fun B v W (h : OwnW W B v l) (hB : B ≤ W.heap.size) => row_any 3 k a B v l W h hB h8 (by decide) hk)
  generalize sqDo 3 k l a = rr at *
  clear hk
  obtain ⟨iI, ia, ib, ic, id⟩ := info_parts info22
  obtain ⟨ao, b, o, cap0, rfl, ha0, hn0, hc0⟩ := h
  have HA := Lib.hid ha0
  have HS : Hid (∀ (j : Nat) (u : Value), (l.map wU)[j]? = some u → (w.alloc doneO).cell? ⟨b, o + j, none⟩ = some u) := Lib.hid (fun j u hu => by
    rw [List.getElem?_map] at hu
    obtain ⟨x, hx, rfl⟩ := Option.map_eq_some_iff.1 hu
    have h1 := hc0 j x hx
    rw [World.cell?_alloc_past _ _ _ (World.block_lt_of_cell? w _ h1)]
    exact h1)
  have HN := Lib.hid hn0
  have HONE := Lib.hid (wU_one l)
  have HLEN : Hid ((l.map wU).length = l.length) := Lib.hid (by simp)
  clear ha0 hc0 hn0
  go_enter Tryz.func100, Tryz.ntmps100
  go_wp2_with (at_builtin; refine append_fresh_own (w := w.alloc doneO) rfl _ _ 37 rfl 55 iI (.int .u64 0) 8 Tryz.underlying37 ia ib ic id rfl (by decide) (w.heap.size + 1) (by simp) rfl ao b o cap0 l.length (l.map wU) rfl HLEN.out HA.out HS.out HN.out HONE.out hl ?_)
  intro v1 w1 how hnn hbl
  have HO : Hid (OwnW w1 (w.heap.size + 1) v1 l) := Lib.hid (by unfold OwnW; simpa using how)
  have hbk : w1.heap[w.heap.size]? = some doneO := (hbl.block _ (by simp)).trans (heap_alloc_new _ _)
  have HB1 : Hid (Below w.heap.size w w1) := Lib.hid (((Below.refl _ _).alloc (Nat.le_refl _) _).trans (hbl.mono (by simp)))
  have k0 : w1.cell? ⟨w.heap.size, 0, none⟩ = some (.slice none 0 0) := cell_of_blk (k := 0) hbk rfl
  have k1 : w1.cell? ⟨w.heap.size, 1, none⟩ = some (.int .i64 0) := cell_of_blk (k := 1) hbk rfl
  have k2 : w1.cell? ⟨w.heap.size, 2, none⟩ = some (.int .u64 0) := cell_of_blk (k := 2) hbk rfl
  have z0 := free_of_blk (k := 0) hbk
  have z1 := free_of_blk (k := 1) hbk
  have z2 := free_of_blk (k := 2) hbk
  have hwl := blk_lt hbk
  have HBK : Hid (w1.heap[w.heap.size]? = some doneO) := Lib.hid hbk
  clear how hnn hbl hbk HA HS HN HONE HLEN
  have HZ : Hid (w.heap.size + 1 ≤ w1.heap.size) := Lib.hid (by omega)
  obtain ⟨ao1, cap1, rfl⟩ := HO.out.arg.isSlice
  go_wp2_with (go_at_call 124; refine (HR.out _ _ _ HO.out HZ.out).mono ?_; (rintro e w2 ⟨v2, rfl, ha2, hb2⟩; (have hbk2 : w2.heap[w.heap.size]? = some doneO := (hb2.block _ (by omega)).trans HBK.out); (have q0 : w2.cell? ⟨w.heap.size, 0, none⟩ = some (.slice none 0 0) := cell_of_blk (k := 0) hbk2 rfl); (have q1 : w2.cell? ⟨w.heap.size, 1, none⟩ = some (.int .i64 0) := cell_of_blk (k := 1) hbk2 rfl); (have q2 : w2.cell? ⟨w.heap.size, 2, none⟩ = some (.int .u64 0) := cell_of_blk (k := 2) hbk2 rfl); (have y0 := free_of_blk (k := 0) hbk2); (have y1 := free_of_blk (k := 1) hbk2); (have y2 := free_of_blk (k := 2) hbk2); (have HA2 := Lib.hid ha2); (have HB2 := Lib.hid (HB1.out.trans (hb2.mono (by omega)))); (obtain ⟨ao2, cap2, rfl⟩ := ha2.arg.isSlice); clear hb2 ha2 hbk2))
  refine bodyPost_ret (v := .agg #[.slice ao2 rr.1.length cap2, .int .i64 (rr.2.2 : Int), .int .u64 (rr.2.1 : Int)]) (by simp [results, Tryz.results100, go_sem, q0, q1, q2]) rfl ⟨_, rfl, (HA2.out.put3 (by omega) _ _ _).mono (by omega), below_put3 HB2.out _ _ _⟩

set_option maxRecDepth 100000 in
set_option maxHeartbeats 1000000 in
theorem ref_set (k : Nat) (x : Nat) (v : Value) (a : Nat) (w : World) (h : ArgW w v [x]) (hx : x < 18446744073709551616) (ha : a < 18446744073709551616) (hk : k ≤ 2) :
    Calls Tryz.prog 100 #[.int .i64 4, v, .int .i64 (k : Int), .int .u64 (a : Int)] w (DnP w.heap.size w (sqDo 4 k [x] a)) := by
  have HR := Lib.hid (fun B v W (h : OwnW W B v [x]) (hB : B ≤ W.heap.size) => refSet_any k v x a B W h.argB hB hx ha hk)
  generalize sqDo 4 k [x] a = rr at *
  obtain ⟨l, hL⟩ : ∃ l, l = [x] := ⟨_, rfl⟩
  rw [← hL] at h HR
  have hl : l.length ≤ 4294967296 := by rw [hL]; simp
  clear hk hL
  obtain ⟨iI, ia, ib, ic, id⟩ := info_parts info22
  obtain ⟨ao, b, o, cap0, rfl, ha0, hn0, hc0⟩ := h
  have HA := Lib.hid ha0
  have HS : Hid (∀ (j : Nat) (u : Value), (l.map wU)[j]? = some u → (w.alloc doneO).cell? ⟨b, o + j, none⟩ = some u) := Lib.hid (fun j u hu => by
    rw [List.getElem?_map] at hu
    obtain ⟨x, hx, rfl⟩ := Option.map_eq_some_iff.1 hu
    have h1 := hc0 j x hx
    rw [World.cell?_alloc_past _ _ _ (World.block_lt_of_cell? w _ h1)]
    exact h1)
  have HN := Lib.hid hn0
  have HONE := Lib.hid (wU_one l)
  have HLEN : Hid ((l.map wU).length = l.length) := Lib.hid (by simp)
  clear ha0 hc0 hn0
  go_enter Tryz.func100, Tryz.ntmps100
  go_wp2_with (at_builtin; refine append_fresh_own (w := w.alloc doneO) rfl _ _ 37 rfl 55 iI (.int .u64 0) 8 Tryz.underlying37 ia ib ic id rfl (by decide) (w.heap.size + 1) (by simp) rfl ao b o cap0 l.length (l.map wU) rfl HLEN.out HA.out HS.out HN.out HONE.out hl ?_)
  intro v1 w1 how hnn hbl
  have HO : Hid (OwnW w1 (w.heap.size + 1) v1 l) := Lib.hid (by unfold OwnW; simpa using how)
  have hbk : w1.heap[w.heap.size]? = some doneO := (hbl.block _ (by simp)).trans (heap_alloc_new _ _)
  have HB1 : Hid (Below w.heap.size w w1) := Lib.hid (((Below.refl _ _).alloc (Nat.le_refl _) _).trans (hbl.mono (by simp)))
  have k0 : w1.cell? ⟨w.heap.size, 0, none⟩ = some (.slice none 0 0) := cell_of_blk (k := 0) hbk rfl
  have k1 : w1.cell? ⟨w.heap.size, 1, none⟩ = some (.int .i64 0) := cell_of_blk (k := 1) hbk rfl
  have k2 : w1.cell? ⟨w.heap.size, 2, none⟩ = some (.int .u64 0) := cell_of_blk (k := 2) hbk rfl
  have z0 := free_of_blk (k := 0) hbk
  have z1 := free_of_blk (k := 1) hbk
  have z2 := free_of_blk (k := 2) hbk
  have hwl := blk_lt hbk
  have HBK : Hid (w1.heap[w.heap.size]? = some doneO) := Lib.hid hbk
  clear how hnn hbl hbk HA HS HN HONE HLEN
  have HZ : Hid (w.heap.size + 1 ≤ w1.heap.size) := Lib.hid (by omega)
  obtain ⟨ao1, cap1, rfl⟩ := HO.out.arg.isSlice
  go_wp2_with (go_at_call 125; refine (HR.out _ _ _ HO.out HZ.out).mono ?_; (rintro e w2 ⟨v2, rfl, ha2, hb2⟩; (have hbk2 : w2.heap[w.heap.size]? = some doneO := (hb2.block _ (by omega)).trans HBK.out); (have q0 : w2.cell? ⟨w.heap.size, 0, none⟩ = some (.slice none 0 0) := cell_of_blk (k := 0) hbk2 rfl); (have q1 : w2.cell? ⟨w.heap.size, 1, none⟩ = some (.int .i64 0) := cell_of_blk (k := 1) hbk2 rfl); (have q2 : w2.cell? ⟨w.heap.size, 2, none⟩ = some (.int .u64 0) := cell_of_blk (k := 2) hbk2 rfl); (have y0 := free_of_blk (k := 0) hbk2); (have y1 := free_of_blk (k := 1) hbk2); (have y2 := free_of_blk (k := 2) hbk2); (have HA2 := Lib.hid ha2); (have HB2 := Lib.hid (HB1.out.trans (hb2.mono (by omega)))); (obtain ⟨ao2, cap2, rfl⟩ := ha2.arg.isSlice); clear hb2 ha2 hbk2))
  refine bodyPost_ret (v := .agg #[.slice ao2 rr.1.length cap2, .int .i64 (rr.2.2 : Int), .int .u64 (rr.2.1 : Int)]) (by simp [results, Tryz.results100, go_sem, q0, q1, q2]) rfl ⟨_, rfl, (HA2.out.put3 (by omega) _ _ _).mono (by omega), below_put3 HB2.out _ _ _⟩


theorem div24 (a : Nat) : (a : Int) / 16777216 = ((a / 16777216 : Nat) : Int) := by omega
theorem mod24 (a : Nat) : (a : Int) % 16777216 = ((a % 16777216 : Nat) : Int) := by omega
theorem at_getD {l : List Nat} {q : Nat} (h : q < l.length) : l[q]? = some (l.getD q 0) := by rw [List.getD_eq_getElem?_getD, List.getElem?_eq_getElem h]; rfl
/-- THE REFERENCE's ANSWER -/
theorem refApply_any (t k : Nat) (ht : t ≤ 7) (hk : k < sqN t) (l : List Nat) (hok : sqOk t l.length) (v : Value) (a : Nat) (w : World) (h : ArgW w v l) (hx : ∀ x ∈ l, x < 18446744073709551616) (ha : a < 18446744073709551616) :
    Calls Tryz.prog 100 #[.int .i64 (t : Int), v, .int .i64 (k : Int), .int .u64 (a : Int)] w (DnP w.heap.size w (sqDo t k l a)) := by
  match t, ht with
  | 0, _ =>
    obtain ⟨x, rfl⟩ := one_of hok (by decide)
    have hx0 := hx x (by simp)
    match k, hk with
    | 0, _ => exact ref_0_0 x v a w ha h hx0
    | 1, _ => exact ref_0_1 x v a w ha h hx0
  | 1, _ =>
    obtain ⟨x, rfl⟩ := one_of hok (by decide)
    have hx0 := hx x (by simp)
    match k, hk with
    | 0, _ => exact ref_1_0 x v a w ha h hx0
    | 1, _ => exact ref_1_1 x v a w ha h hx0
  | 2, _ => exact ref_row2 k l v a w h (many_of hok) (by have : sqN 2 = 3 := rfl; omega)
  | 3, _ => exact ref_row3 k l v a w h (many_of hok) (by have : sqN 3 = 3 := rfl; omega)
  | 4, _ =>
    obtain ⟨x, rfl⟩ := one_of hok (by decide)
    exact ref_set k x v a w h (hx x (by simp)) ha (by have : sqN 4 = 3 := rfl; omega)
  | 5, _ =>
    obtain ⟨x, rfl⟩ := one_of hok (by decide)
    have hx0 := hx x (by simp)
    match k, hk with
    | 0, _ => exact ref_5_0 x v a w ha h hx0
    | 1, _ =>
      by_cases hc : x < a
      · have e : sqDo 5 1 [x] a = ([a], x, 0) := if_pos hc
        rw [e]; exact ref_5_1a x v a w ha h hx0 hc
      · have e : sqDo 5 1 [x] a = ([x], x, 0) := if_neg hc
        rw [e]; exact ref_5_1b x v a w ha h hx0 hc
  | 6, _ =>
    obtain ⟨x, rfl⟩ := one_of hok (by decide)
    have hx0 := hx x (by simp)
    match k, hk with
    | 0, _ => exact ref_6_0 x v a w ha h hx0
    | 1, _ =>
      by_cases hc : x = a / 65536 % 65536
      · have e : sqDo 6 1 [x] a = ([a % 65536], 1, 0) := if_pos hc
        rw [e]; exact ref_6_1a x v a w ha h hx0 hc
      · have e : sqDo 6 1 [x] a = ([x], 0, 0) := if_neg hc
        rw [e]; exact ref_6_1b x v a w ha h hx0 hc
  | 7, _ =>
    have h8 := eight_of hok
    match k, hk with
    | 0, _ =>
      by_cases hc : 8 ≤ a
      · have e : sqDo 7 0 l a = (l, 0, 10) := if_pos hc
        rw [e]; exact ref_7_0a l v a w ha h h8 hx hc
      · have e : sqDo 7 0 l a = (l, l.getD a 0, 0) := if_neg hc
        rw [e]; exact ref_7_0b l v a w ha h h8 hx (by omega) _ (Lib.hid (at_getD (by omega)))
    | 1, _ =>
      by_cases hc : 8 ≤ a / 16777216
      · have e : sqDo 7 1 l a = (l, 0, 10) := if_pos hc
        rw [e]; exact ref_7_1a l v a w ha h h8 hx _ (div24 a) hc
      · have e : sqDo 7 1 l a = (l.set (a / 16777216) (a % 16777216), l.getD (a / 16777216) 0, 0) := if_neg hc
        rw [e]; exact ref_7_1b l v a w ha h h8 hx _ _ (div24 a) (mod24 a) (by omega) (by omega) _ (Lib.hid (at_getD (by omega))) _ (Lib.hid rfl)
end
end Go.Proofs.YtjjleghalajidaaGreat
