/- The reference's row, whole; its Apply. -/
import Derived.Test.YtlcnhmijagddgaaSL
namespace Go.Proofs.Ytlcnhmijagddgaa
open Go.ChangeShapes Go.WideShapes Go.ChangeAt Go.RowKit
set_option linter.unusedVariables false
set_option linter.unusedSimpArgs false

theorem own_put3 {w : World} {B b : Nat} {v : Value} {l : List Nat} (ho : OwnW w B v l) (hB : b < B) (x y z : Value) : OwnW (((w.setCell ⟨b, 0, none⟩ x).setCell ⟨b, 1, none⟩ y).setCell ⟨b, 2, none⟩ z) B v l :=
  ((ho.other _ (ho.lt (a := ⟨b, 0, none⟩) hB)).other _ (ho.lt (a := ⟨b, 1, none⟩) hB)).other _ (ho.lt (a := ⟨b, 2, none⟩) hB)
theorem below_put3 {w w1 : World} {b : Nat} (h : Below b w w1) (x y z : Value) : Below b w (((w1.setCell ⟨b, 0, none⟩ x).setCell ⟨b, 1, none⟩ y).setCell ⟨b, 2, none⟩ z) :=
  ((h.setCell (p := ⟨b, 0, none⟩) (Nat.le_refl _) _).setCell (p := ⟨b, 1, none⟩) (Nat.le_refl _) _).setCell (p := ⟨b, 2, none⟩) (Nat.le_refl _) _
theorem arg_put3 {w : World} {b : Nat} {v : Value} {l : List Nat} (h : ∃ w0 : World, ArgW w0 v l ∧ w0.heap.size ≤ b ∧ Below w0.heap.size w0 w) (x y z : Value) : ArgW (((w.setCell ⟨b, 0, none⟩ x).setCell ⟨b, 1, none⟩ y).setCell ⟨b, 2, none⟩ z) v l := by
  obtain ⟨w0, ha, hs, hb⟩ := h
  exact ha.below (((hb.setCell (p := ⟨b, 0, none⟩) hs _).setCell (p := ⟨b, 1, none⟩) hs _).setCell (p := ⟨b, 2, none⟩) hs _)

/-- append_new, where the element's block is spelled otherwise -/
theorem append_newb {P : Program} {w : World} {ops : Array Oper} {rest : List Oper} {o : Oper} {a : Act} {Q : Exit → Act → World → Prop} (hgd : o.guard = none) (s x : Operand) (t : TypeId)
    (ho : o.op = .call { callee := .builtin .append, args := #[s, x], argTypes := #[t, t] })
    (base : Nat) (e : TypeId) (i : TypeInfo) (z : Value) (size bytes : Nat) (ht : P.underlying t = some (.slice e)) (hi : P.info? e = some i) (hz : i.zero = some z)
    (hsize : i.size = size) (hby : i.bytes = bytes) (hzs : z.cells.size = size) (hsz : 0 < size) (hbs : bytes ≤ 4096)
    (v : Value) (n : Nat) (xs : List Value) (hs : a.eval s = v) (hown : w.ownsRow base e size v n xs)
    (us : List Value) (g0 : Nat) (hg0 : g0 = w.heap.size) (hx : a.eval x = .slice (some ⟨g0, 0, none⟩) 1 1) (hl : us.length = size) (h1 : us.all (fun u => u.oneCell') = true)
    (hn : n ≤ 4294967296) (hbase : base ≤ w.heap.size)
    (h : ∀ v' w', w'.ownsRow base e size v' (n + 1) (xs ++ us) → Below base w w' → Keeps e w w' → wpList P ops Q rest (a.put o.dst v') w') : wpList P ops Q (o :: rest) a (w.alloc (.cells us.toArray e)) := by
  subst hg0
  exact append_new hgd s x t ho base e i z size bytes ht hi hz hsize hby hzs hsz hbs v n xs hs hown us hx hl h1 hn hbase (fun v' w' a b c d => h v' w' a b c)

set_option maxHeartbeats 1000000 in
theorem row_add (t a B : Nat) (v : Value) (l : List Nat) (w : World) (h : OwnW w B v l) (hB : B ≤ w.heap.size) (hl : l.length ≤ 8) (ht : t = 2 ∨ t = 3) :
    Calls Try.prog 22 #[.int .i64 (t : Int), v, .int .i64 0, .int .u64 (a : Int)] w (DnP B w (sqDo t 0 l a)) := by
  obtain ⟨iI, ia, ib, ic, id⟩ := info_parts info22
  have HV : Hid (sqDo t 0 l a = if 8 ≤ l.length then (l, 0, 6) else (l ++ [a], 0, 0)) := Lib.hid (by rcases ht with rfl | rfl <;> rfl)
  rw [HV.out]
  obtain ⟨ao, cap, rfl⟩ := h.arg.isSlice
  have HA := Lib.hid h.argB
  have HO : Hid ((w.alloc doneO).ownsRow B 29 1 (.slice ao l.length cap) l.length (l.map wU)) := Lib.hid (h.alloc _)
  have hBw := hB
  clear h HV ht
  by_cases h8 : 8 ≤ l.length
  · rw [if_pos h8]
    go_enter Try.func22, Try.ntmps22
    go_wp2_with fail
    refine bodyPost_ret (v := .agg #[.slice ao l.length cap, .int .i64 6, .int .u64 0]) (by simp [results, Try.results22, go_sem]) rfl ⟨_, rfl, HA.out.below ?_, ?_⟩
    · (repeat (first | with_reducible exact Below.refl _ _ | with_reducible refine Below.setCell ?_ (by first | (simp; done) | (simp; omega)) _ | with_reducible refine Below.alloc ?_ (by first | omega | (simp; done) | (simp; omega)) _ | with_reducible refine below_drewN ?_ _))
    · exact (Below.refl _ _).alloc hB _
  · rw [if_neg h8]
    have h9 : l.length < 8 := by omega
    have HM : Hid (List.map wU l ++ [Value.int .u64 (a : Int)] = (l ++ [a]).map wU) := Lib.hid (by rw [wU_snoc]; rfl)
    have hBw2 : B ≤ (w.alloc doneO).heap.size := by simp; omega
    clear h8
    go_enter Try.func22, Try.ntmps22
    go_wp2_with (at_builtin; refine append_newb (w := w.alloc doneO) rfl _ _ 22 rfl B 29 iI (.int .u64 0) 1 8 Try.underlying22 ia ib ic id rfl (by decide) (by decide) (.slice ao l.length cap) l.length (l.map wU) rfl HO.out [.int .u64 (a : Int)] (w.heap.size + 1) (by simp) rfl rfl rfl (by omega) hBw2 ?_)
    intro v1 w1 how hbl hkeep
    rw [HM.out] at how
    have HO1 : Hid (OwnW w1 B v1 (l ++ [a])) := Lib.hid (by unfold OwnW; rw [List.length_append]; exact how)
    have HB := Lib.hid hbl
    obtain ⟨ao1, cap1, rfl⟩ := HO1.out.arg.isSlice
    have hr0 : (w.alloc doneO).ownsRow B 36 3 (.slice (some ⟨w.heap.size, 0, none⟩) 1 1) 1 [.slice none 0 0, .int .i64 0, .int .u64 0] := World.ownsRow_lit w #[.slice none 0 0, .int .i64 0, .int .u64 0] 1 hB (by decide) rfl
    have hr := hkeep.row hr0 (by decide)
    have k0 : w1.cell? ⟨w.heap.size, 0, none⟩ = some (.slice none 0 0) := hr.cellAt 0 (by decide)
    have k1 : w1.cell? ⟨w.heap.size, 1, none⟩ = some (.int .i64 0) := hr.cellAt 1 (by decide)
    have k2 : w1.cell? ⟨w.heap.size, 2, none⟩ = some (.int .u64 0) := hr.cellAt 2 (by decide)
    have z0 := hr.frozenAt 0
    have z1 := hr.frozenAt 1
    have z2 := hr.frozenAt 2
    have hne : ∀ k, (Value.slice ao1 (l ++ [a]).length cap1).ownBlock ≠ some (⟨w.heap.size, k, none⟩ : Addr).block := fun k => by
      rcases owns_apart HO1.out hr (by decide) with h | h
      · rw [h]; intro e; cases e
      · exact h
    have HE := Lib.hid hne
    clear hr hr0 how hbl hkeep hne
    go_wp2_with fail
    refine bodyPost_ret (v := .agg #[.slice ao1 (l ++ [a]).length cap1, .int .i64 0, .int .u64 0]) (by simp [results, Try.results22, go_sem, k0, k1, k2]) rfl ⟨_, rfl, (((HO1.out.other _ (HE.out 0)).other _ (HE.out 1)).other _ (HE.out 2)).argB, ?_⟩
    have hb1 : Below B w w1 := ((Below.refl _ _).alloc hB _).trans HB.out
    exact ((hb1.setCell (p := ⟨w.heap.size, 0, none⟩) hB _).setCell (p := ⟨w.heap.size, 1, none⟩) hB _).setCell (p := ⟨w.heap.size, 2, none⟩) hB _

set_option maxHeartbeats 1000000 in
theorem row_rest (t k a B : Nat) (v : Value) (l : List Nat) (w : World) (h : OwnW w B v l) (hB : B ≤ w.heap.size) (hl : l.length ≤ 8) (ht : t = 2 ∨ t = 3) (hk : k = 1 ∨ k = 2) :
    Calls Try.prog 22 #[.int .i64 (t : Int), v, .int .i64 (k : Int), .int .u64 (a : Int)] w (DnP B w (sqDo t k l a)) := by
  have HA := Lib.hid h.argB
  by_cases h0 : l.length = 0
  · have HV : Hid (sqDo t k l a = (l, 0, 7)) := Lib.hid (by rcases ht with rfl | rfl <;> rcases hk with rfl | rfl <;> exact if_pos h0)
    rw [HV.out]
    obtain ⟨ao, cap, rfl⟩ := h.arg.isSlice
    obtain rfl := List.length_eq_zero_iff.1 h0
    have hk0 : ¬ k = 0 := by omega
    clear h HV ht h0 hl hk
    go_enter Try.func22, Try.ntmps22
    go_wp2_with fail
    refine bodyPost_ret (v := .agg #[.slice ao 0 cap, .int .i64 7, .int .u64 0]) (by simp [results, Try.results22, go_sem]) rfl ⟨_, rfl, HA.out.below ?_, ?_⟩
    · (repeat (first | with_reducible exact Below.refl _ _ | with_reducible refine Below.setCell ?_ (by first | (simp; done) | (simp; omega)) _ | with_reducible refine Below.alloc ?_ (by first | omega | (simp; done) | (simp; omega)) _ | with_reducible refine below_drewN ?_ _))
    · exact (Below.refl _ _).alloc hB _
  · obtain ⟨g, cap, rfl, hg, hlt, hc, hf⟩ := h.opened (by omega)
    rcases hk with rfl | rfl
    · rcases ht with rfl | rfl
      · obtain ⟨z, hz⟩ : ∃ z, l[l.length - 1]? = some z := ⟨_, List.getElem?_eq_getElem (by omega)⟩
        have e : sqDo 2 1 l a = (l.take (l.length - 1) ++ l.drop (l.length - 1 + 1), z, 0) := by
          have e1 : sqDo 2 1 l a = (l.dropLast, l.getLastD 0, 0) := if_neg h0
          rw [e1, show l.length - 1 + 1 = l.length by omega, List.drop_length, List.append_nil, List.dropLast_eq_take, List.getLastD_eq_getLast?, List.getLast?_eq_getElem?, hz]; rfl
        rw [e]
        refine (row_cut 2 (l.length - 1) g cap B l w h hl (by omega) (.inl ⟨rfl, by omega⟩) z a hz).mono ?_
        rintro e w' ⟨v', he, ha, hb⟩
        exact ⟨v', he, ha.mono hB, hb.mono hB⟩
      · obtain ⟨z, hz⟩ : ∃ z, l[0]? = some z := ⟨_, List.getElem?_eq_getElem (by omega)⟩
        have e : sqDo 3 1 l a = (l.take 0 ++ l.drop (0 + 1), z, 0) := by
          have e1 : sqDo 3 1 l a = (l.tail, l.headD 0, 0) := if_neg h0
          rw [e1]
          rcases l with _ | ⟨x, l⟩
          · simp at h0
          · simp at hz; subst hz; rfl
        rw [e]
        refine (row_cut 3 0 g cap B l w h hl (by omega) (.inr ⟨rfl, rfl⟩) z a hz).mono ?_
        rintro e w' ⟨v', he, ha, hb⟩
        exact ⟨v', he, ha.mono hB, hb.mono hB⟩
    · rcases ht with rfl | rfl
      · obtain ⟨n, hn⟩ : ∃ n, l.length = n + 1 := ⟨l.length - 1, by omega⟩
        obtain ⟨z, hz⟩ : ∃ z, l[n]? = some z := ⟨_, List.getElem?_eq_getElem (by omega)⟩
        have HV : Hid (sqDo 2 2 l a = (l, z, 0)) := Lib.hid (by
          have e1 : sqDo 2 2 l a = (l, l.getLastD 0, 0) := if_neg h0
          rw [e1, List.getLastD_eq_getLast?, List.getLast?_eq_getElem?, hn, Nat.add_sub_cancel, hz]; rfl)
        rw [HV.out]
        have d0 := hc n z hz
        rw [hn] at HA hl ⊢
        clear h HV hc hf h0 hz hn
        go_enter Try.func22, Try.ntmps22
        go_wp2_with fail
        refine bodyPost_ret (v := .agg #[.slice (some ⟨g, 0, none⟩) (n + 1) cap, .int .i64 0, .int .u64 (z : Int)]) (by simp [results, Try.results22, go_sem]) rfl ⟨_, rfl, HA.out.below ?_, ?_⟩
        · (repeat (first | with_reducible exact Below.refl _ _ | with_reducible refine Below.setCell ?_ (by first | (simp; done) | (simp; omega)) _ | with_reducible refine Below.alloc ?_ (by first | omega | (simp; done) | (simp; omega)) _ | with_reducible refine below_drewN ?_ _))
        · exact (Below.refl _ _).alloc hB _
      · obtain ⟨n, hn⟩ : ∃ n, l.length = n + 1 := ⟨l.length - 1, by omega⟩
        obtain ⟨z, hz⟩ : ∃ z, l[0]? = some z := ⟨_, List.getElem?_eq_getElem (by omega)⟩
        have HV : Hid (sqDo 3 2 l a = (l, z, 0)) := Lib.hid (by
          have e1 : sqDo 3 2 l a = (l, l.headD 0, 0) := if_neg h0
          rw [e1]
          rcases l with _ | ⟨x, l⟩
          · simp at h0
          · simp at hz; subst hz; rfl)
        rw [HV.out]
        have d0 := hc 0 z hz
        rw [hn] at HA hl ⊢
        clear h HV hc hf h0 hz hn
        go_enter Try.func22, Try.ntmps22
        go_wp2_with fail
        refine bodyPost_ret (v := .agg #[.slice (some ⟨g, 0, none⟩) (n + 1) cap, .int .i64 0, .int .u64 (z : Int)]) (by simp [results, Try.results22, go_sem]) rfl ⟨_, rfl, HA.out.below ?_, ?_⟩
        · (repeat (first | with_reducible exact Below.refl _ _ | with_reducible refine Below.setCell ?_ (by first | (simp; done) | (simp; omega)) _ | with_reducible refine Below.alloc ?_ (by first | omega | (simp; done) | (simp; omega)) _ | with_reducible refine below_drewN ?_ _))
        · exact (Below.refl _ _).alloc hB _

theorem row_any (t k a B : Nat) (v : Value) (l : List Nat) (w : World) (h : OwnW w B v l) (hB : B ≤ w.heap.size) (hl : l.length ≤ 8) (ht : t = 2 ∨ t = 3) (hk : k ≤ 2) :
    Calls Try.prog 22 #[.int .i64 (t : Int), v, .int .i64 (k : Int), .int .u64 (a : Int)] w (DnP B w (sqDo t k l a)) := by
  by_cases h0 : k = 0
  · subst h0; exact row_add t a B v l w h hB hl ht
  · exact row_rest t k a B v l w h hB hl ht (by omega)
end Go.Proofs.Ytlcnhmijagddgaa
