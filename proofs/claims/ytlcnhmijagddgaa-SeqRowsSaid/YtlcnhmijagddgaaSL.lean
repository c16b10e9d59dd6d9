/- The reference's row. -/
import Derived.Test.YtlcnhmijagddgaaSK
namespace Go.Proofs.Ytlcnhmijagddgaa
open Go.ChangeShapes Go.WideShapes Go.ChangeAt Go.RowKit
set_option linter.unusedVariables false
set_option linter.unusedSimpArgs false

/-- in a region that draws its order: append of a slice onto an empty one that was just made -/
theorem step_fresh_own {P : Program} {w : World} {ops : Array Oper} {o : Oper} {a : Act} {K : Act → World → Prop} {Q : Exit → Act → World → Prop} {E : Prop} (hgd : o.guard = none) (s x : Operand) (t : TypeId)
    (ho : o.op = .call { callee := .builtin .append, args := #[s, x], argTypes := #[t, t] })
    (e : TypeId) (i : TypeInfo) (z : Value) (bytes : Nat) (ht : P.underlying t = some (.slice e)) (hi : P.info? e = some i) (hz : i.zero = some z)
    (hsize : i.size = 1) (hby : i.bytes = bytes) (hzs : z.cells.size = 1) (hbs : bytes ≤ 4096)
    (g0 : Nat) (hg0 : g0 = w.heap.size) (hs : a.eval s = .slice (some ⟨g0, 0, none⟩) 0 0) (b off cap n : Nat) (us : List Value) (hx : a.eval x = .slice (some ⟨b, off, none⟩) n cap) (hn : us.length = n)
    (hc : ∀ (j : Nat) (u : Value), us[j]? = some u → w.cell? ⟨b, off + j, none⟩ = some u) (h1 : us.all (fun u => u.oneCell') = true) (hle : n ≤ 4294967296)
    (h : ∀ v' w', w'.ownsRow w.heap.size e 1 v' n us → Below w.heap.size w w' → K (a.put o.dst v') w') :
    if Region.wanted o (yielded ops a.tmps) = true then Oper.wp P o a (w.alloc (.cells #[] e)) K Q else E := by
  have hw : Region.wanted o (yielded ops a.tmps) = true := by simp [Region.wanted, hgd]
  rw [if_pos hw]
  subst hg0
  have hmade : (w.alloc (.cells #[] e)).ownsRow w.heap.size e 1 (.slice (some ⟨w.heap.size, 0, none⟩) 0 0) 0 [] :=
    World.ownsRow_made (base := w.heap.size) (e := e) (size := 1) w #[] 0 (Nat.le_refl _) (by unfold maxLen; omega) rfl
  refine wp_append_own _ s x t ho w.heap.size e i z 1 bytes ht hi hz hsize hby hzs (by decide) _ 0 [] hs hmade ⟨b, off, none⟩ n cap us hx (by rw [hn, Nat.mul_one]) ?_ (by simpa using h1) (by unfold maxLen; omega) ?_ (by simp) ?_
  · intro j u hj
    have hcj := hc j u hj
    have hlt := World.block_lt_of_cell? w ⟨b, off + j, none⟩ hcj
    rw [addr_add _ j b off rfl, World.cell?_alloc_past _ _ _ hlt]
    exact hcj
  · have : (0 + n) * bytes ≤ 4294967296 * 4096 := Nat.mul_le_mul (by omega) hbs
    omega
  · intro v' w' hown hg hnn
    exact h v' w' (by simpa using hown) (((Below.refl _ _).alloc (Nat.le_refl _) _).grown hg (by simp) (fun k hk => by simp [Value.ownBlock] at hk; omega))

/-- the same of a slice onto a row of the call's own -/
theorem step_onto_own {P : Program} {w : World} {ops : Array Oper} {o : Oper} {a : Act} {K : Act → World → Prop} {Q : Exit → Act → World → Prop} {E : Prop} (hgd : o.guard = none) (s x : Operand) (t : TypeId)
    (ho : o.op = .call { callee := .builtin .append, args := #[s, x], argTypes := #[t, t] })
    (base : Nat) (e : TypeId) (i : TypeInfo) (z : Value) (bytes : Nat) (ht : P.underlying t = some (.slice e)) (hi : P.info? e = some i) (hz : i.zero = some z)
    (hsize : i.size = 1) (hby : i.bytes = bytes) (hzs : z.cells.size = 1) (hbs : bytes ≤ 4096)
    (v : Value) (n : Nat) (xs : List Value) (hs : a.eval s = v) (hown : w.ownsRow base e 1 v n xs) (ad : Addr) (cap m : Nat) (us : List Value) (hx : a.eval x = .slice (some ad) m cap) (hn : us.length = m)
    (hc : ∀ (j : Nat) (u : Value), us[j]? = some u → w.cell? (ad.add j) = some u) (h1 : us.all (fun u => u.oneCell') = true) (hle : n + m ≤ 4294967296) (hbase : base ≤ w.heap.size)
    (h : ∀ v' w', w'.ownsRow base e 1 v' (n + m) (xs ++ us) → Below base w w' → K (a.put o.dst v') w') :
    if Region.wanted o (yielded ops a.tmps) = true then Oper.wp P o a w K Q else E := by
  have hw : Region.wanted o (yielded ops a.tmps) = true := by simp [Region.wanted, hgd]
  rw [if_pos hw]
  refine wp_append_own _ s x t ho base e i z 1 bytes ht hi hz hsize hby hzs (by decide) v n xs hs hown ad m cap us hx (by rw [hn, Nat.mul_one]) hc (by simpa using h1) (by unfold maxLen; omega) ?_ hbase ?_
  · have : (n + m) * bytes ≤ 4294967296 * 4096 := Nat.mul_le_mul (by omega) hbs
    omega
  · intro v' w' ho2 hg hnn
    exact h v' w' ho2 ((Below.refl _ _).grown hg hbase (fun k hk => (hown.lt k hk).1))

theorem ownArg {w : World} {B : Nat} {v : Value} {l : List Nat} (h : OwnW w (B + 1) v l) : ArgB w B v l := h.argB.mono (by omega)
theorem ho2slice {w : World} {B : Nat} {v : Value} {l : List Nat} (h : OwnW w B v l) : ∃ ao cap, v = .slice ao l.length cap := h.arg.isSlice
def doneO : Obj := .cells #[.slice none 0 0, .int .i64 0, .int .u64 0] 36
set_option maxHeartbeats 2000000 in
theorem row_cut (t at1 g cap B : Nat) (l : List Nat) (w : World) (h : OwnW w B (.slice (some ⟨g, 0, none⟩) l.length cap) l) (hl : l.length ≤ 8) (hat : at1 < l.length) (ht : t = 2 ∧ at1 + 1 = l.length ∨ t = 3 ∧ at1 = 0) (x a : Nat) (hx : l[at1]? = some x) :
    Calls Try.prog 22 #[.int .i64 (t : Int), .slice (some ⟨g, 0, none⟩) l.length cap, .int .i64 1, .int .u64 (a : Int)] w (DnP w.heap.size w (l.take at1 ++ l.drop (at1 + 1), x, 0)) := by
  obtain ⟨iI, ia, ib, ic, id⟩ := info_parts info22
  have HO := Lib.hid h
  obtain ⟨g', cap', e0, hg, hlt, hc, hf⟩ := h.opened (by omega)
  cases e0
  have d0 := hc at1 x hx
  have hcap : l.length ≤ cap := by
    obtain ⟨_, ⟨e0, _⟩ | ⟨g', cap', cur, e0, _, _, h5, _⟩⟩ := h
    · cases e0
    · cases e0; exact h5
  have HC := Lib.hid hc
  clear h hc hf hx
  rcases ht with ⟨rfl, ht⟩ | ⟨rfl, rfl⟩
  · have hlen : l.length = at1 + 1 := ht.symm
    rw [hlen] at hcap hl ⊢
    have HLN := Lib.hid hlen
    have HF : Hid (∀ (v : Value) {w' : World}, ArgB w' w.heap.size v (l.take at1) → ArgB w' w.heap.size v (l.take at1 ++ l.drop (at1 + 1))) := Lib.hid (fun v w' h => by
      rw [List.drop_eq_nil_of_le (by omega), List.append_nil]; exact h)
    clear ht hat hlen
    by_cases hcc : cap = at1 + 1
    · subst hcc
      have HL1 : Hid (((l.take at1).map wU).length = at1) := Lib.hid (by have := HLN.out; simp; omega)
      have HL2 : Hid (([] : List Value).length = 0) := Lib.hid rfl
      have H1A := Lib.hid (wU_one (l.take at1))
      have H1B : Hid (([] : List Value).all (fun u => u.oneCell') = true) := Lib.hid rfl
      have HA0 : Hid (∀ (j : Nat) (u : Value), ((l.take at1).map wU)[j]? = some u → ((w.alloc (Obj.cells #[.slice none 0 0, .int .i64 0, .int .u64 0] 36)).drew).cell? ⟨g, 0 + j, none⟩ = some u) := Lib.hid (fun j u hu => by
        rw [List.getElem?_map] at hu
        obtain ⟨y, hy, rfl⟩ := Option.map_eq_some_iff.1 hu
        rw [List.getElem?_take] at hy
        split at hy
        · rw [Nat.zero_add]
          show (w.alloc _).cell? _ = _
          rw [World.cell?_alloc_past _ _ _ hlt]
          exact HC.out j y hy
        · cases hy)
      have HA2 : Hid (∀ w1 : World, Below ((w.alloc (Obj.cells #[.slice none 0 0, .int .i64 0, .int .u64 0] 36)).drew).heap.size ((w.alloc (Obj.cells #[.slice none 0 0, .int .i64 0, .int .u64 0] 36)).drew) w1 → ∀ (j : Nat) (u : Value), ([] : List Value)[j]? = some u → w1.cell? ((⟨g, 0, none⟩ : Addr).add j) = some u) := Lib.hid (fun w1 _ j u hu => by simp at hu)
      have q1 : (at1 : Int) ≤ (at1 : Int) + 1 := by omega
      have q2 : IntKind.i64.wrap ((at1 : Int) + 1) = (at1 : Int) + 1 := IntWalk.i64_in _ (by omega)
      have q3 : 0 ≤ (at1 : Int) + 1 := by omega
      have HM : Hid (∀ (v2 : Value) (w2 : World), w2.ownsRow ((w.alloc (Obj.cells #[.slice none 0 0, .int .i64 0, .int .u64 0] 36)).drew).heap.size 29 1 v2 (at1 + 0) (((l.take at1).map wU) ++ ([] : List Value)) → OwnW w2 (w.heap.size + 1) v2 (l.take at1)) := Lib.hid (fun v2 w2 ho0 => by
        have ho : w2.ownsRow (w.heap.size + 1) 29 1 v2 (at1 + 0) (((l.take at1).map wU) ++ ([] : List Value)) := by
          have e : ((w.alloc (Obj.cells #[.slice none 0 0, .int .i64 0, .int .u64 0] 36)).drew).heap.size = w.heap.size + 1 := by simp
          rw [e] at ho0; exact ho0
        unfold OwnW
        have e : (l.take at1).length = at1 := by have := HLN.out; simp; omega
        rw [e]
        simpa using ho)
      go_enter Try.func22, Try.ntmps22
      go_wp2_with fail
      go_region_law (first
        | (refine step_fresh_own (w := (w.alloc (Obj.cells #[.slice none 0 0, .int .i64 0, .int .u64 0] 36)).drew) rfl _ _ 22 rfl 29 iI (.int .u64 0) 8 Try.underlying22 ia ib ic id rfl (by decide) (w.heap.size + 1) (by simp) rfl g 0 _ at1 ((l.take at1).map wU) rfl HL1.out HA0.out H1A.out (by omega) ?_; intro v1 w1 ho1 hb1; (have hz1 := hb1.size); (have HA1 := Lib.hid (HA2.out w1 hb1)))
        | (refine step_onto_own rfl _ _ 22 rfl _ 29 iI (.int .u64 0) 8 Try.underlying22 ia ib ic id rfl (by decide) _ at1 _ rfl ho1 ⟨g, 0, none⟩ _ 0 ([] : List Value) rfl HL2.out HA1.out H1B.out (by omega) hz1 ?_; intro v2 w2 ho2 hb2; (have HO2 : Hid (OwnW w2 (w.heap.size + 1) v2 (l.take at1)) := Lib.hid (HM.out v2 w2 ho2)); (have hbk : w2.heap[w.heap.size]? = some doneO := (hb2.block _ (by simp)).trans ((hb1.block _ (by simp)).trans (heap_alloc_new _ _))); (have k0 := cell_of_blk (k := 0) hbk rfl); (have k1 := cell_of_blk (k := 1) hbk rfl); (have k2 := cell_of_blk (k := 2) hbk rfl); (have z0 := free_of_blk (k := 0) hbk); (have z1 := free_of_blk (k := 1) hbk); (have z2 := free_of_blk (k := 2) hbk); (have HB2 : Hid (Below w.heap.size w w2) := Lib.hid ((((Below.refl _ _).alloc (Nat.le_refl _) _).drew.trans (hb1.mono (by simp))).trans (hb2.mono (by simp)))); (obtain ⟨ao2, cap2, rfl⟩ := ho2slice HO2.out); clear hb1 hb2 ho1 ho2 hbk))
      go_wp2_with fail
      refine bodyPost_ret (v := .agg #[.slice ao2 (l.take at1).length cap2, .int .i64 0, .int .u64 (x : Int)]) (by simp [results, Try.results22, go_sem, k0, k1, k2]) rfl ⟨_, rfl, HF.out _ (ownArg (((HO2.out.other _ (HO2.out.lt (a := ⟨w.heap.size, 0, none⟩) (by simp))).other _ (HO2.out.lt (a := ⟨w.heap.size, 1, none⟩) (by simp))).other _ (HO2.out.lt (a := ⟨w.heap.size, 2, none⟩) (by simp)))), ((HB2.out.setCell (p := ⟨w.heap.size, 0, none⟩) (Nat.le_refl _) _).setCell (p := ⟨w.heap.size, 1, none⟩) (Nat.le_refl _) _).setCell (p := ⟨w.heap.size, 2, none⟩) (Nat.le_refl _) _⟩
    · have q5 : at1 ≤ cap := by omega
      have HL1 : Hid (((l.take at1).map wU).length = at1) := Lib.hid (by have := HLN.out; simp; omega)
      have HL2 : Hid (([] : List Value).length = 0) := Lib.hid rfl
      have H1A := Lib.hid (wU_one (l.take at1))
      have H1B : Hid (([] : List Value).all (fun u => u.oneCell') = true) := Lib.hid rfl
      have HA0 : Hid (∀ (j : Nat) (u : Value), ((l.take at1).map wU)[j]? = some u → ((w.alloc (Obj.cells #[.slice none 0 0, .int .i64 0, .int .u64 0] 36)).drew).cell? ⟨g, 0 + j, none⟩ = some u) := Lib.hid (fun j u hu => by
        rw [List.getElem?_map] at hu
        obtain ⟨y, hy, rfl⟩ := Option.map_eq_some_iff.1 hu
        rw [List.getElem?_take] at hy
        split at hy
        · rw [Nat.zero_add]
          show (w.alloc _).cell? _ = _
          rw [World.cell?_alloc_past _ _ _ hlt]
          exact HC.out j y hy
        · cases hy)
      have HA2 : Hid (∀ w1 : World, Below ((w.alloc (Obj.cells #[.slice none 0 0, .int .i64 0, .int .u64 0] 36)).drew).heap.size ((w.alloc (Obj.cells #[.slice none 0 0, .int .i64 0, .int .u64 0] 36)).drew) w1 → ∀ (j : Nat) (u : Value), ([] : List Value)[j]? = some u → w1.cell? ((⟨g, at1 + 1, none⟩ : Addr).add j) = some u) := Lib.hid (fun w1 _ j u hu => by simp at hu)
      have q1 : (at1 : Int) ≤ (at1 : Int) + 1 := by omega
      have q2 : IntKind.i64.wrap ((at1 : Int) + 1) = (at1 : Int) + 1 := IntWalk.i64_in _ (by omega)
      have q3 : 0 ≤ (at1 : Int) + 1 := by omega
      have HM : Hid (∀ (v2 : Value) (w2 : World), w2.ownsRow ((w.alloc (Obj.cells #[.slice none 0 0, .int .i64 0, .int .u64 0] 36)).drew).heap.size 29 1 v2 (at1 + 0) (((l.take at1).map wU) ++ ([] : List Value)) → OwnW w2 (w.heap.size + 1) v2 (l.take at1)) := Lib.hid (fun v2 w2 ho0 => by
        have ho : w2.ownsRow (w.heap.size + 1) 29 1 v2 (at1 + 0) (((l.take at1).map wU) ++ ([] : List Value)) := by
          have e : ((w.alloc (Obj.cells #[.slice none 0 0, .int .i64 0, .int .u64 0] 36)).drew).heap.size = w.heap.size + 1 := by simp
          rw [e] at ho0; exact ho0
        unfold OwnW
        have e : (l.take at1).length = at1 := by have := HLN.out; simp; omega
        rw [e]
        simpa using ho)
      go_enter Try.func22, Try.ntmps22
      go_wp2_with fail
      go_region_law (first
        | (refine step_fresh_own (w := (w.alloc (Obj.cells #[.slice none 0 0, .int .i64 0, .int .u64 0] 36)).drew) rfl _ _ 22 rfl 29 iI (.int .u64 0) 8 Try.underlying22 ia ib ic id rfl (by decide) (w.heap.size + 1) (by simp) rfl g 0 _ at1 ((l.take at1).map wU) rfl HL1.out HA0.out H1A.out (by omega) ?_; intro v1 w1 ho1 hb1; (have hz1 := hb1.size); (have HA1 := Lib.hid (HA2.out w1 hb1)))
        | (refine step_onto_own rfl _ _ 22 rfl _ 29 iI (.int .u64 0) 8 Try.underlying22 ia ib ic id rfl (by decide) _ at1 _ rfl ho1 ⟨g, at1 + 1, none⟩ _ 0 ([] : List Value) rfl HL2.out HA1.out H1B.out (by omega) hz1 ?_; intro v2 w2 ho2 hb2; (have HO2 : Hid (OwnW w2 (w.heap.size + 1) v2 (l.take at1)) := Lib.hid (HM.out v2 w2 ho2)); (have hbk : w2.heap[w.heap.size]? = some doneO := (hb2.block _ (by simp)).trans ((hb1.block _ (by simp)).trans (heap_alloc_new _ _))); (have k0 := cell_of_blk (k := 0) hbk rfl); (have k1 := cell_of_blk (k := 1) hbk rfl); (have k2 := cell_of_blk (k := 2) hbk rfl); (have z0 := free_of_blk (k := 0) hbk); (have z1 := free_of_blk (k := 1) hbk); (have z2 := free_of_blk (k := 2) hbk); (have HB2 : Hid (Below w.heap.size w w2) := Lib.hid ((((Below.refl _ _).alloc (Nat.le_refl _) _).drew.trans (hb1.mono (by simp))).trans (hb2.mono (by simp)))); (obtain ⟨ao2, cap2, rfl⟩ := ho2slice HO2.out); clear hb1 hb2 ho1 ho2 hbk))
      go_wp2_with fail
      refine bodyPost_ret (v := .agg #[.slice ao2 (l.take at1).length cap2, .int .i64 0, .int .u64 (x : Int)]) (by simp [results, Try.results22, go_sem, k0, k1, k2]) rfl ⟨_, rfl, HF.out _ (ownArg (((HO2.out.other _ (HO2.out.lt (a := ⟨w.heap.size, 0, none⟩) (by simp))).other _ (HO2.out.lt (a := ⟨w.heap.size, 1, none⟩) (by simp))).other _ (HO2.out.lt (a := ⟨w.heap.size, 2, none⟩) (by simp)))), ((HB2.out.setCell (p := ⟨w.heap.size, 0, none⟩) (Nat.le_refl _) _).setCell (p := ⟨w.heap.size, 1, none⟩) (Nat.le_refl _) _).setCell (p := ⟨w.heap.size, 2, none⟩) (Nat.le_refl _) _⟩
  · rcases l with _ | ⟨x0, l⟩
    · simp at hat
    obtain ⟨n, hn⟩ : ∃ n, l.length = n := ⟨_, rfl⟩
    have hlen : (x0 :: l).length = n + 1 := by simp [hn]
    rw [hlen] at hcap hl ⊢
    have HLN := Lib.hid hn
    have HF : Hid (∀ (v : Value) {w' : World}, ArgB w' w.heap.size v l → ArgB w' w.heap.size v ((x0 :: l).take 0 ++ (x0 :: l).drop (0 + 1))) := Lib.hid (fun v w' h => h)
    clear hat hlen hn
    by_cases hcc : cap = 1
    · subst hcc
      obtain rfl : n = 0 := by omega
      obtain rfl : l = [] := List.length_eq_zero_iff.1 HLN.out
      have HL1 : Hid (([] : List Value).length = 0) := Lib.hid rfl
      have HL2 : Hid (([] : List Value).length = 0) := Lib.hid rfl
      have H1A : Hid (([] : List Value).all (fun u => u.oneCell') = true) := Lib.hid rfl
      have H1B : Hid (([] : List Value).all (fun u => u.oneCell') = true) := Lib.hid rfl
      have HA0 : Hid (∀ (j : Nat) (u : Value), ([] : List Value)[j]? = some u → ((w.alloc (Obj.cells #[.slice none 0 0, .int .i64 0, .int .u64 0] 36)).drew).cell? ⟨g, 0 + j, none⟩ = some u) := Lib.hid (fun j u hu => by simp at hu)
      have HA2 : Hid (∀ w1 : World, Below ((w.alloc (Obj.cells #[.slice none 0 0, .int .i64 0, .int .u64 0] 36)).drew).heap.size ((w.alloc (Obj.cells #[.slice none 0 0, .int .i64 0, .int .u64 0] 36)).drew) w1 → ∀ (j : Nat) (u : Value), ([] : List Value)[j]? = some u → w1.cell? ((⟨g, 0, none⟩ : Addr).add j) = some u) := Lib.hid (fun w1 hb j u hu => by simp at hu)
      have q2 : IntKind.i64.wrap 1 = 1 := IntWalk.i64_in _ (by omega)
      have q3 : 0 ≤ ((0 : Nat) : Int) + 1 := by omega
      have q4 : (1 : Int) ≤ ((0 : Nat) : Int) + 1 := by omega
      have HM : Hid (∀ (v2 : Value) (w2 : World), w2.ownsRow ((w.alloc (Obj.cells #[.slice none 0 0, .int .i64 0, .int .u64 0] 36)).drew).heap.size 29 1 v2 (0 + 0) (([] : List Value) ++ ([] : List Value)) → OwnW w2 (w.heap.size + 1) v2 ([])) := Lib.hid (fun v2 w2 ho0 => by
        have ho : w2.ownsRow (w.heap.size + 1) 29 1 v2 (0 + 0) (([] : List Value) ++ ([] : List Value)) := by
          have e : ((w.alloc (Obj.cells #[.slice none 0 0, .int .i64 0, .int .u64 0] 36)).drew).heap.size = w.heap.size + 1 := by simp
          rw [e] at ho0; exact ho0
        unfold OwnW
        simpa using ho)
      go_enter Try.func22, Try.ntmps22
      go_wp2_with fail
      go_region_law (first
        | (refine step_fresh_own (w := (w.alloc (Obj.cells #[.slice none 0 0, .int .i64 0, .int .u64 0] 36)).drew) rfl _ _ 22 rfl 29 iI (.int .u64 0) 8 Try.underlying22 ia ib ic id rfl (by decide) (w.heap.size + 1) (by simp) rfl g 0 _ 0 ([] : List Value) rfl HL1.out HA0.out H1A.out (by omega) ?_; intro v1 w1 ho1 hb1; (have hz1 := hb1.size); (have HA1 := Lib.hid (HA2.out w1 hb1)))
        | (refine step_onto_own rfl _ _ 22 rfl _ 29 iI (.int .u64 0) 8 Try.underlying22 ia ib ic id rfl (by decide) _ 0 _ rfl ho1 ⟨g, 0, none⟩ _ 0 [] rfl HL2.out HA1.out H1B.out (by omega) hz1 ?_; intro v2 w2 ho2 hb2; (have HO2 : Hid (OwnW w2 (w.heap.size + 1) v2 ([])) := Lib.hid (HM.out v2 w2 ho2)); (have hbk : w2.heap[w.heap.size]? = some doneO := (hb2.block _ (by simp)).trans ((hb1.block _ (by simp)).trans (heap_alloc_new _ _))); (have k0 := cell_of_blk (k := 0) hbk rfl); (have k1 := cell_of_blk (k := 1) hbk rfl); (have k2 := cell_of_blk (k := 2) hbk rfl); (have z0 := free_of_blk (k := 0) hbk); (have z1 := free_of_blk (k := 1) hbk); (have z2 := free_of_blk (k := 2) hbk); (have HB2 : Hid (Below w.heap.size w w2) := Lib.hid ((((Below.refl _ _).alloc (Nat.le_refl _) _).drew.trans (hb1.mono (by simp))).trans (hb2.mono (by simp)))); (obtain ⟨ao2, cap2, rfl⟩ := ho2slice HO2.out); clear hb1 hb2 ho1 ho2 hbk))
      go_wp2_with fail
      refine bodyPost_ret (v := .agg #[.slice ao2 0 cap2, .int .i64 0, .int .u64 (x : Int)]) (by simp [results, Try.results22, go_sem, k0, k1, k2]) rfl ⟨_, rfl, HF.out _ (ownArg (((HO2.out.other _ (HO2.out.lt (a := ⟨w.heap.size, 0, none⟩) (by simp))).other _ (HO2.out.lt (a := ⟨w.heap.size, 1, none⟩) (by simp))).other _ (HO2.out.lt (a := ⟨w.heap.size, 2, none⟩) (by simp)))), ((HB2.out.setCell (p := ⟨w.heap.size, 0, none⟩) (Nat.le_refl _) _).setCell (p := ⟨w.heap.size, 1, none⟩) (Nat.le_refl _) _).setCell (p := ⟨w.heap.size, 2, none⟩) (Nat.le_refl _) _⟩
    · skip
      have HL1 : Hid (([] : List Value).length = 0) := Lib.hid rfl
      have HL2 : Hid ((l.map wU).length = n) := Lib.hid (by simpa using HLN.out)
      have H1A : Hid (([] : List Value).all (fun u => u.oneCell') = true) := Lib.hid rfl
      have H1B := Lib.hid (wU_one l)
      have HA0 : Hid (∀ (j : Nat) (u : Value), ([] : List Value)[j]? = some u → ((w.alloc (Obj.cells #[.slice none 0 0, .int .i64 0, .int .u64 0] 36)).drew).cell? ⟨g, 0 + j, none⟩ = some u) := Lib.hid (fun j u hu => by simp at hu)
      have HA2 : Hid (∀ w1 : World, Below ((w.alloc (Obj.cells #[.slice none 0 0, .int .i64 0, .int .u64 0] 36)).drew).heap.size ((w.alloc (Obj.cells #[.slice none 0 0, .int .i64 0, .int .u64 0] 36)).drew) w1 → ∀ (j : Nat) (u : Value), (l.map wU)[j]? = some u → w1.cell? ((⟨g, 1, none⟩ : Addr).add j) = some u) := Lib.hid (fun w1 hb j u hu => by
        rw [List.getElem?_map] at hu
        obtain ⟨y, hy, rfl⟩ := Option.map_eq_some_iff.1 hu
        rw [addr_add _ j g 1 rfl, hb.cell (by simp; omega)]
        show (w.alloc _).cell? _ = _
        rw [World.cell?_alloc_past _ _ _ hlt]
        exact HC.out (1 + j) y (by rw [Nat.add_comm, List.getElem?_cons_succ]; exact hy))
      have q2 : IntKind.i64.wrap 1 = 1 := IntWalk.i64_in _ (by omega)
      have q3 : 0 ≤ (n : Int) + 1 := by omega
      have q4 : (1 : Int) ≤ (n : Int) + 1 := by omega
      have HM : Hid (∀ (v2 : Value) (w2 : World), w2.ownsRow ((w.alloc (Obj.cells #[.slice none 0 0, .int .i64 0, .int .u64 0] 36)).drew).heap.size 29 1 v2 (0 + n) (([] : List Value) ++ (l.map wU)) → OwnW w2 (w.heap.size + 1) v2 (l)) := Lib.hid (fun v2 w2 ho0 => by
        have ho : w2.ownsRow (w.heap.size + 1) 29 1 v2 (0 + n) (([] : List Value) ++ (l.map wU)) := by
          have e : ((w.alloc (Obj.cells #[.slice none 0 0, .int .i64 0, .int .u64 0] 36)).drew).heap.size = w.heap.size + 1 := by simp
          rw [e] at ho0; exact ho0
        unfold OwnW
        rw [HLN.out]
        simpa using ho)
      go_enter Try.func22, Try.ntmps22
      go_wp2_with fail
      go_region_law (first
        | (refine step_fresh_own (w := (w.alloc (Obj.cells #[.slice none 0 0, .int .i64 0, .int .u64 0] 36)).drew) rfl _ _ 22 rfl 29 iI (.int .u64 0) 8 Try.underlying22 ia ib ic id rfl (by decide) (w.heap.size + 1) (by simp) rfl g 0 _ 0 ([] : List Value) rfl HL1.out HA0.out H1A.out (by omega) ?_; intro v1 w1 ho1 hb1; (have hz1 := hb1.size); (have HA1 := Lib.hid (HA2.out w1 hb1)))
        | (refine step_onto_own rfl _ _ 22 rfl _ 29 iI (.int .u64 0) 8 Try.underlying22 ia ib ic id rfl (by decide) _ 0 _ rfl ho1 ⟨g, 1, none⟩ _ n (l.map wU) rfl HL2.out HA1.out H1B.out (by omega) hz1 ?_; intro v2 w2 ho2 hb2; (have HO2 : Hid (OwnW w2 (w.heap.size + 1) v2 (l)) := Lib.hid (HM.out v2 w2 ho2)); (have hbk : w2.heap[w.heap.size]? = some doneO := (hb2.block _ (by simp)).trans ((hb1.block _ (by simp)).trans (heap_alloc_new _ _))); (have k0 := cell_of_blk (k := 0) hbk rfl); (have k1 := cell_of_blk (k := 1) hbk rfl); (have k2 := cell_of_blk (k := 2) hbk rfl); (have z0 := free_of_blk (k := 0) hbk); (have z1 := free_of_blk (k := 1) hbk); (have z2 := free_of_blk (k := 2) hbk); (have HB2 : Hid (Below w.heap.size w w2) := Lib.hid ((((Below.refl _ _).alloc (Nat.le_refl _) _).drew.trans (hb1.mono (by simp))).trans (hb2.mono (by simp)))); (obtain ⟨ao2, cap2, rfl⟩ := ho2slice HO2.out); clear hb1 hb2 ho1 ho2 hbk))
      go_wp2_with fail
      refine bodyPost_ret (v := .agg #[.slice ao2 (l).length cap2, .int .i64 0, .int .u64 (x : Int)]) (by simp [results, Try.results22, go_sem, k0, k1, k2]) rfl ⟨_, rfl, HF.out _ (ownArg (((HO2.out.other _ (HO2.out.lt (a := ⟨w.heap.size, 0, none⟩) (by simp))).other _ (HO2.out.lt (a := ⟨w.heap.size, 1, none⟩) (by simp))).other _ (HO2.out.lt (a := ⟨w.heap.size, 2, none⟩) (by simp)))), ((HB2.out.setCell (p := ⟨w.heap.size, 0, none⟩) (Nat.le_refl _) _).setCell (p := ⟨w.heap.size, 1, none⟩) (Nat.le_refl _) _).setCell (p := ⟨w.heap.size, 2, none⟩) (Nat.le_refl _) _⟩
end Go.Proofs.Ytlcnhmijagddgaa
