/- Walk of the document's reading of a line: its five fields. -/
import Derived.Test.YtgmgpbplgiicoaaMY
import Derived.Deep.Cut
import Derived.Test.YtgmgpbplgiicoaaK7
namespace Go.Proofs.Ytgmgpbplgiicoaa
set_option linter.unusedSimpArgs false
set_option linter.unusedVariables false
open Go.RowKit Go.Lib Go.Sort

/-- the first fields, and where the reader then is -/
def runF (L : List Nat) : Nat → List Int × PS
  | 0 => ([], (L, false))
  | k + 1 => ((runF L k).1 ++ [(fieldR (runF L k).2).1], (fieldR (runF L k).2).2)
theorem runF_len (L : List Nat) : ∀ k, (runF L k).1.length = k
  | 0 => rfl
  | k + 1 => by rw [runF, List.length_append, runF_len L k]; rfl
theorem runF_five (L : List Nat) : runF L 5 = ([(s1R L).1, (s2R L).1, (s3R L).1, (s4R L).1, (s5R L).1], (s5R L).2) := by unfold s5R s4R s3R s2R s1R; simp [runF]
/-- three cells of the document's reader -/
def lnB (w : World) (g : Nat) (s : ByteArray) (i : Nat) (b : Bool) : Prop := w.heap[g]? = some (.cells #[.string s, .int .i64 (i : Int), .bool b] 39 (0, 0))
theorem infoI0 : (Try.prog.info? 3).map (fun i => (i.zero, i.size, i.bytes)) = some (some (.int .i64 0), 1, 8) := by kernel_rfl
/-- what stands while a line is read -/
structure RfS (w : World) (L : List Nat) (wr : World) (j : Nat) (b : Bool) : Prop where
  rc : evB wr w.heap.size (.int .i64 0) (.int .i64 0) (.int .i64 0) (.int .i64 0) (.int .i64 0) (.int .u64 0) (.slice none 0 0) (.slice none 0 0)
  rl : lnB wr (w.heap.size + 1) ⟨#[]⟩ 0 false
  rd : LRd wr (w.heap.size + 2) L j b
  bl : Below w.heap.size w wr
  sz : w.heap.size + 3 ≤ wr.heap.size
theorem RfS.call {w : World} {L : List Nat} {wr w' : World} {j j' : Nat} {b b' : Bool} (h : RfS w L wr j b) (hb : But1 (w.heap.size + 2) wr w') (hr : LRd w' (w.heap.size + 2) L j' b') : RfS w L w' j' b' :=
  ⟨hb.heap (by omega) h.rc, hb.heap (by omega) h.rl, hr, h.bl.trans (hb.below (by omega) (by have := h.sz; omega)), Nat.le_trans h.sz hb.size⟩
theorem RfS.grow {w : World} {L : List Nat} {wr w' : World} {j : Nat} {b : Bool} (h : RfS w L wr j b) (hb : Below (w.heap.size + 3) wr w') : RfS w L w' j b :=
  ⟨(hb.block _ (by omega)).trans h.rc, (hb.block _ (by omega)).trans h.rl, h.rd.below hb (by omega), h.bl.trans (hb.mono (by omega)), Nat.le_trans h.sz hb.size⟩

/-- what stands while an event's lists are read -/
structure RgS (w : World) (L : List Nat) (xe : Nat) (x0 x1 x2 x3 x4 : Int) (c5 c6 c7 : Value) (wr : World) (j : Nat) (b : Bool) : Prop where
  st : RfS w L wr j b
  ev : evB wr xe (.int .i64 x0) (.int .i64 x1) (.int .i64 x2) (.int .i64 x3) (.int .i64 x4) c5 c6 c7
  xl : w.heap.size + 3 ≤ xe
section
variable {w : World} {L : List Nat} {xe : Nat} {x0 x1 x2 x3 x4 : Int} {c5 c6 c7 : Value} {wr w' : World} {j j' : Nat} {b b' : Bool}
theorem RgS.lt (h : RgS w L xe x0 x1 x2 x3 x4 c5 c6 c7 wr j b) : xe < wr.heap.size := lt_of_heap h.ev
theorem RgS.call (h : RgS w L xe x0 x1 x2 x3 x4 c5 c6 c7 wr j b) (hb : But1 (w.heap.size + 2) wr w') (hr : LRd w' (w.heap.size + 2) L j' b') : RgS w L xe x0 x1 x2 x3 x4 c5 c6 c7 w' j' b' :=
  ⟨h.st.call hb hr, hb.heap (by have := h.xl; omega) h.ev, h.xl⟩
theorem RgS.grow (h : RgS w L xe x0 x1 x2 x3 x4 c5 c6 c7 wr j b) (hb : Below (xe + 1) wr w') : RgS w L xe x0 x1 x2 x3 x4 c5 c6 c7 w' j b :=
  ⟨h.st.grow (hb.mono (by have := h.xl; omega)), (hb.block _ (by omega)).trans h.ev, h.xl⟩
theorem RgS.drewN (h : RgS w L xe x0 x1 x2 x3 x4 c5 c6 c7 wr j b) (n : Nat) : RgS w L xe x0 x1 x2 x3 x4 c5 c6 c7 (wr.drewN n) j b := h.grow (below_drewN (Below.refl _ _) n)
theorem RgS.drew (h : RgS w L xe x0 x1 x2 x3 x4 c5 c6 c7 wr j b) : RgS w L xe x0 x1 x2 x3 x4 c5 c6 c7 wr.drew j b := h.grow (below_drew (Below.refl _ _))
theorem RfS.set (h : RfS w L wr j b) {g k : Nat} (hg : w.heap.size + 3 ≤ g) (v : Value) : RfS w L (wr.setCell ⟨g, k, none⟩ v) j b :=
  ⟨(set_other (by omega)).trans h.rc, (set_other (by omega)).trans h.rl, h.rd.other (by omega), below_set h.bl (by show w.heap.size ≤ g; omega) v, by simpa [World.setCell] using h.sz⟩
theorem RgS.setBad (h : RgS w L xe x0 x1 x2 x3 x4 c5 c6 c7 wr j b) : RgS w L xe x0 x1 x2 x3 x4 c5 c6 c7 (wr.setCell ⟨w.heap.size + 2, 2, none⟩ (.bool true)) j true :=
  ⟨⟨(set_other (by omega)).trans h.st.rc, (set_other (by omega)).trans h.st.rl, h.st.rd.set2 true, below_set h.st.bl (by show w.heap.size ≤ w.heap.size + 2; omega) _, by simpa [World.setCell] using h.st.sz⟩, (set_other (by have := h.xl; omega)).trans h.ev, h.xl⟩
theorem RgS.set5 (h : RgS w L xe x0 x1 x2 x3 x4 c5 c6 c7 wr j b) (v : Value) : RgS w L xe x0 x1 x2 x3 x4 v c6 c7 (wr.setCell ⟨xe, 5, none⟩ v) j b := ⟨h.st.set h.xl v, (evB_set h.ev v).2.2.2.2.2.1, h.xl⟩
theorem RgS.set6 (h : RgS w L xe x0 x1 x2 x3 x4 c5 c6 c7 wr j b) (v : Value) : RgS w L xe x0 x1 x2 x3 x4 c5 v c7 (wr.setCell ⟨xe, 6, none⟩ v) j b := ⟨h.st.set h.xl v, (evB_set h.ev v).2.2.2.2.2.2.1, h.xl⟩
theorem RgS.set7 (h : RgS w L xe x0 x1 x2 x3 x4 c5 c6 c7 wr j b) (v : Value) : RgS w L xe x0 x1 x2 x3 x4 c5 c6 v (wr.setCell ⟨xe, 7, none⟩ v) j b := ⟨h.st.set h.xl v, (evB_set h.ev v).2.2.2.2.2.2.2, h.xl⟩
end
theorem step_append_own {P : Program} {w : World} {o : Oper} {a : Act} {K : Act → World → Prop} {Q : Exit → Act → World → Prop} (s x : Operand) (t : TypeId)
    (ho : o.op = .call { callee := .builtin .append, args := #[s, x], argTypes := #[t, t] })
    (base : Nat) (e : TypeId) (i : TypeInfo) (z : Value) (size bytes : Nat) (ht : P.underlying t = some (.slice e)) (hi : P.info? e = some i) (hz : i.zero = some z)
    (hsize : i.size = size) (hby : i.bytes = bytes) (hzs : z.cells.size = size) (hsz : 0 < size) (hbs : bytes ≤ 4096)
    (v : Value) (n : Nat) (xs : List Value) (hs : a.eval s = v) (hown : w.ownsRow base e size v n xs)
    (us : List Value) (hx : a.eval x = .slice (some ⟨w.heap.size, 0, none⟩) 1 1) (hl : us.length = size) (h1 : us.all (fun u => u.oneCell') = true)
    (hn : n ≤ 4294967296) (hbase : base ≤ w.heap.size)
    (h : ∀ v' w', w'.ownsRow base e size v' (n + 1) (xs ++ us) → Below base w w' → Keeps e w w' → K (a.put o.dst v') w') :
    Oper.wp P o a (w.alloc (.cells us.toArray e)) K Q := by
  refine wp_append_own _ s x t ho base e i z size bytes ht hi hz hsize hby hzs hsz v n xs hs (hown.alloc _) ⟨w.heap.size, 0, none⟩ 1 1 us hx (by rw [hl, Nat.one_mul]) ?_ (by simpa using h1) (by unfold maxLen; omega) ?_ (by simp; omega) ?_
  · intro j u hj
    rw [addr_add _ j w.heap.size 0 rfl, World.cell?_alloc_at _ _ _ _ rfl]
    simpa using hj
  · have : (n + 1) * bytes ≤ 4294967297 * 4096 := Nat.mul_le_mul (by omega) hbs
    omega
  · intro v' w' h2 h3 h4
    refine h v' w' h2 (((Below.refl _ _).alloc hbase _).grown h3 (by simp; omega) (fun k hk => (hown.lt k hk).1)) ?_
    intro B e2 s2 n2 v2 xs2 he2 ho2
    exact (ho2.alloc _).kept h3 (owns_apart ho2 hown he2)
theorem NumOk.rel {α : Type} {p q : PS → α × PS} (h : NumOk p) (hr : ∀ s, NumRel (p s) (q s)) : NumOk q := by
  refine ⟨fun l => by rw [(hr _).s, h.bad]; simp, fun l => ?_⟩
  rw [(hr _).s]
  rcases h.less l with h1 | h1
  · left; simp [h1]
  · right; exact h1
theorem NumOk.go {α : Type} {q : PS → α × PS} (h : NumOk q) (hl : ∀ s, (q s).2.1.length ≤ s.1.length) {l l3 : List Nat} {b b3 : Bool} {x : α} (e : q (l, b) = (x, l3, b3)) : (b3 = true ∨ l3.length < l.length) ∧ l3.length ≤ l.length := by
  have h1 := hl (l, b)
  rw [e] at h1
  refine ⟨?_, h1⟩
  cases b with
  | true =>
    left
    have := h.bad l
    rw [e] at this
    exact congrArg Prod.snd this
  | false =>
    have := h.less l
    rw [e] at this
    exact this
theorem wordR_ok : NumOk wordR := word_ok.rel word_rel
theorem intR_ok : NumOk intR := int_ok.rel int_rel
theorem wordR_len (s : PS) : (wordR s).2.1.length ≤ s.1.length := by rw [(word_rel s).s]; exact word_len s
theorem intR_len (s : PS) : (intR s).2.1.length ≤ s.1.length := by rw [(int_rel s).s]; exact int_len s
def put3 (W : World) (g : Nat) (c0 c1 c2 : Value) : World := ((W.setCell ⟨g, 0, none⟩ c0).setCell ⟨g, 1, none⟩ c1).setCell ⟨g, 2, none⟩ c2
theorem put3_own {W : World} {g : Nat} {c0 c1 c2 : Value} {B : Nat} {e : TypeId} {s n : Nat} {v : Value} {xs : List Value} (h : W.ownsRow B e s v n xs) (hb : v.ownBlock ≠ some g) : (put3 W g c0 c1 c2).ownsRow B e s v n xs := by
  unfold put3
  have h0 := own_set (b := g) (k := 0) (u := c0) h hb
  have h1 := own_set (b := g) (k := 1) (u := c1) h0 hb
  exact own_set (b := g) (k := 2) (u := c2) h1 hb
theorem put3_other {W : World} {g k : Nat} {c0 c1 c2 : Value} (h : k ≠ g) : (put3 W g c0 c1 c2).heap[k]? = W.heap[k]? := by
  unfold put3
  rw [set_other h, set_other h, set_other h]
theorem put3_below {B : Nat} {a W : World} {g : Nat} {c0 c1 c2 : Value} (h : Below B a W) (hg : B ≤ g) : Below B a (put3 W g c0 c1 c2) := by
  unfold put3
  have h0 := below_set h (x := ⟨g, 0, none⟩) hg c0
  have h1 := below_set h0 (x := ⟨g, 1, none⟩) hg c1
  exact below_set h1 (x := ⟨g, 2, none⟩) hg c2
theorem lnB_set {W : World} {g i : Nat} {s : ByteArray} {b : Bool} (h : lnB W g s i b) : (∀ s', lnB (W.setCell ⟨g, 0, none⟩ (.string s')) g s' i b) ∧ (∀ i' : Nat, lnB (W.setCell ⟨g, 1, none⟩ (.int .i64 (i' : Int))) g s i' b) ∧ (∀ b', lnB (W.setCell ⟨g, 2, none⟩ (.bool b')) g s i b') := by
  unfold lnB
  refine ⟨fun _ => ?_, fun _ => ?_, fun _ => ?_⟩ <;> (rw [heap_set_self h]; rfl)
theorem put3_ln {W : World} {g i i' : Nat} {s s' : ByteArray} {b b' : Bool} (h : lnB W g s i b) : lnB (put3 W g (.string s') (.int .i64 (i' : Int)) (.bool b')).drew g s' i' b' := by
  have h0 := (lnB_set h).1 s'
  have h1 := (lnB_set h0).2.1 i'
  exact (lnB_set h1).2.2 b'
theorem put3_lnU {W : World} {g i i' : Nat} {s s' : ByteArray} {b b' : Bool} (h : lnB W g s i b) : lnB (put3 W g (.string s') (.int .i64 (i' : Int)) (.bool b')) g s' i' b' := by
  have h0 := (lnB_set h).1 s'
  have h1 := (lnB_set h0).2.1 i'
  exact (lnB_set h1).2.2 b'
theorem heap_drewQ {W : World} {k : Nat} : W.drew.heap[k]? = W.heap[k]? := rfl
theorem owns_drew {w : World} {B : Nat} {e : TypeId} {sz n : Nat} {v : Value} {xs : List Value} (h : w.ownsRow B e sz v n xs) : w.drew.ownsRow B e sz v n xs := h
/-- what the document's answer gives of a line -/
def RefP (L : List Nat) (W : World) (e : Ending) (w' : World) : Prop :=
  Below W.heap.size W w' ∧ ∃ s, e = .returned (.tuple #[evV (evR L) s, .agg #[.string (strB L), .int .i64 ((L.length - (endP L).1.length : Nat) : Int), .bool (!okP L)]]) ∧ EvR w' (evR L) s
theorem infoU8 : (Try.prog.info? 23).map (fun i => (i.zero, i.size, i.bytes)) = some (some (.int .u64 0), 1, 8) := by kernel_rfl


set_option maxHeartbeats 8000000 in
set_option maxRecDepth 100000 in
theorem rread_any (L : List Nat) (w : World) (hL : BytL L) (hl : L.length ≤ 900000) :
    Calls Try.prog 13 #[.string (strB L)] w (RefP L w) := by
  obtain ⟨iI, ia, ib, ic, id⟩ := info_parts infoI0
  obtain ⟨iU, ua, ub, uc, ud⟩ := info_parts infoU8
  have s1 : (w.alloc (.cells #[.int .i64 0, .int .i64 0, .int .i64 0, .int .i64 0, .int .i64 0, .int .u64 0, .slice none 0 0, .slice none 0 0] 29)).heap.size = w.heap.size + 1 := by simp
  have s2 : ((w.alloc (.cells #[.int .i64 0, .int .i64 0, .int .i64 0, .int .i64 0, .int .i64 0, .int .u64 0, .slice none 0 0, .slice none 0 0] 29)).alloc (.cells #[.string ⟨#[]⟩, .int .i64 0, .bool false] 39)).heap.size = w.heap.size + 2 := by simp
  obtain ⟨w0, hw0⟩ : ∃ w0, ((w.alloc (.cells #[.int .i64 0, .int .i64 0, .int .i64 0, .int .i64 0, .int .i64 0, .int .u64 0, .slice none 0 0, .slice none 0 0] 29)).alloc (.cells #[.string ⟨#[]⟩, .int .i64 0, .bool false] 39)).alloc (.cells #[.string (strB L), .int .i64 0, .bool false] 39) = w0 := ⟨_, rfl⟩
  have hst : RfS w L w0 0 false := by
    rw [← hw0]
    refine ⟨?_, ?_, ?_, ?_, by simp⟩
    · exact (Below.heap_alloc _ _ w.heap.size (by omega)).trans ((Below.heap_alloc _ _ w.heap.size (by omega)).trans (heap_alloc_new _ _))
    · have := heap_alloc_new (w.alloc (.cells #[.int .i64 0, .int .i64 0, .int .i64 0, .int .i64 0, .int .i64 0, .int .u64 0, .slice none 0 0, .slice none 0 0] 29)) (.cells #[.string ⟨#[]⟩, .int .i64 0, .bool false] 39)
      rw [s1] at this
      exact (Below.heap_alloc _ _ (w.heap.size + 1) (by omega)).trans this
    · have := heap_alloc_new ((w.alloc (.cells #[.int .i64 0, .int .i64 0, .int .i64 0, .int .i64 0, .int .i64 0, .int .u64 0, .slice none 0 0, .slice none 0 0] 29)).alloc (.cells #[.string ⟨#[]⟩, .int .i64 0, .bool false] 39)) (.cells #[.string (strB L), .int .i64 0, .bool false] 39)
      rw [s2] at this
      exact this
    · exact (((Below.refl _ _).alloc (Nat.le_refl _) _).alloc (by omega) _).alloc (by omega) _
  have HST := Lib.hid hst
  have HRI := Lib.hid (fun j b W (h : LRd W (w.heap.size + 2) L j b) (hj : j ≤ L.length) => rinteger_any (w.heap.size + 2) L j b W hL hl h hj)
  have HSG := Lib.hid (fun j b W (h : LRd W (w.heap.size + 2) L j b) (hj : j ≤ L.length) => sign_any (w.heap.size + 2) L j b 32 W hL h hj (by decide))
  have HSGC := Lib.hid (fun (c j : Nat) (b : Bool) (W : World) (hc : c < 256) (h : LRd W (w.heap.size + 2) L j b) (hj : j ≤ L.length) => sign_any (w.heap.size + 2) L j b c W hL h hj hc)
  have HISC : Hid (∀ (j : Nat) (b : Bool) (W : World), LRd W (w.heap.size + 2) L j b → j ≤ L.length → Calls Try.prog 27 #[.pointer (some ⟨w.heap.size + 2, 0, none⟩), .int .u8 93] W fun e w' => e = .returned (.bool (isC 93 (L.drop j, b))) ∧ ∃ k, w' = W.drewN k) := Lib.hid (fun j b W h hj => is_any (w.heap.size + 2) L j b 93 W hL h hj (by decide))
  have HDG : Hid (∀ (j : Nat) (b : Bool) (W : World), LRd W (w.heap.size + 2) L j b → j ≤ L.length → Calls Try.prog 26 #[.pointer (some ⟨w.heap.size + 2, 0, none⟩), .string ⟨#[49, 56, 52, 52, 54, 55, 52, 52, 48, 55, 51, 55, 48, 57, 53, 53, 49, 54, 49, 53]⟩] W (RdR (w.heap.size + 2) L W (.int .u64 ((wordR (L.drop j, b)).1 : Int)) (wordR (L.drop j, b)).2)) := Lib.hid (fun j b W h hj => by rw [str_mw]; exact rdigs_any 18446744073709551615 (by decide) (by decide) (w.heap.size + 2) L j b W hL hl h hj)
  have HRL := Lib.hid (runF_len L)
  clear hst s1 s2
  go_enter Try.func13, Try.ntmps13
  go_wp2_with fail
  try rw [hw0]
  clear hw0
  go_loopw [5, 12] (fun u k wr => ∃ (n j : Nat) (b : Bool), n ≤ 5 ∧ k = .int .i64 (n : Int) ∧ j ≤ L.length ∧ Hid (RfS w L wr j b) ∧ Hid (wr.ownsRow (w.heap.size + 3) 3 1 u n ((runF L n).1.map (fun z : Int => Value.int .i64 z))) ∧ Hid ((runF L n).2 = (L.drop j, b))) (fun _ k _ => 5 - (RowKit.intOf k).toNat)
  case atStart => exact ⟨0, 0, false, by omega, rfl, Nat.zero_le _, HST, Lib.hid ⟨rfl, .inl ⟨rfl, rfl⟩⟩, Lib.hid (by simp [runF])⟩
  case round =>
    obtain ⟨n, j, b, hn, rfl, hj, hst, hown, hrun⟩ := hrel
    by_cases hlt : n < 5
    · have dn : (n : Int) < 5 := by omega
      have hri := HRI.out j b wr hst.out.rd hj
      obtain ⟨q, hq⟩ : ∃ q, intR (L.drop j, b) = q := ⟨_, rfl⟩
      rw [hq] at hri
      obtain ⟨x, l1, b1⟩ := q
      dsimp only at hri
      have HQ := Lib.hid hq
      have HRI1 := Lib.hid hri
      clear hri hq
      go_wp2_with fail
      refine HRI1.out.mono ?_
      rintro e w1 ⟨rfl, hb1, j1, hj1, hr1, hd1⟩
      dsimp only at hr1 hd1
      have HS1 := Lib.hid (hst.out.call hb1 hr1)
      have HD1 := Lib.hid hd1
      have hown1 := hb1.own hown.out (by omega)
      obtain ⟨M, hM⟩ : ∃ M, (runF L n).1.map (fun z : Int => Value.int .i64 z) = M := ⟨_, rfl⟩
      rw [hM] at hown1
      have HM := Lib.hid hM
      have HOW := Lib.hid hown1
      have HSZ := Lib.hid (hst.out.call hb1 hr1).sz
      clear hb1 hr1 hd1 hown1 hM
      go_wp2_with (at_builtin; refine append_laid rfl _ _ 27 rfl (w.heap.size + 3) 3 iI (.int .i64 0) 1 8 Try.underlying27 ia ib ic id rfl (by decide) (by decide) _ n M rfl HOW.out 1 (by decide) [.int .i64 x] rfl rfl rfl (by omega) HSZ.out ?_)
      intro v2 w2 ho2 hb2 hk2
      have HO2 := Lib.hid ho2
      have HS2 := Lib.hid (HS1.out.grow hb2)
      have hsg := HSG.out j1 b1 w2 HS2.out.rd hj1
      rw [HD1.out] at hsg
      obtain ⟨q, hq⟩ : ∃ q, passP 32 (l1, b1) = q := ⟨_, rfl⟩
      rw [hq] at hsg
      obtain ⟨l2, b2⟩ := q
      have HQ2 := Lib.hid hq
      have HSG1 := Lib.hid hsg
      clear ho2 hb2 hk2 hsg hq
      go_wp2_with fail
      refine HSG1.out.mono ?_
      rintro e w3 ⟨rfl, hb3, j3, hj3, hr3, hd3⟩
      dsimp only at hr3 hd3
      have HS3 := Lib.hid (HS2.out.call hb3 hr3)
      have HO3 := Lib.hid (hb3.own HO2.out (by omega))
      have HRN : Hid (runF L (n + 1) = ((runF L n).1 ++ [x], (l2, b2))) := Lib.hid (by
        rw [runF, hrun.out]
        unfold fieldR
        rw [HQ.out]
        dsimp only
        rw [HQ2.out])
      have HD3 := Lib.hid hd3
      clear hb3 hr3 hd3
      go_wp2_with fail
      go_roundw
      case rel => exact ⟨n + 1, j3, b2, by omega, by go_num, hj3, HS3, Lib.hid (by rw [HRN.out, List.map_append, HM.out]; exact HO3.out), Lib.hid (by rw [HRN.out, HD3.out])⟩
      case measure => simp [RowKit.intOf]; omega
    · have hn5 : n = 5 := by omega
      subst hn5
      clear hlt
      obtain ⟨xa, un, xc, rfl⟩ := isSlice_of hown.out
      have hown5 := hown.out
      have hr5 := hrun.out
      rw [runF_five] at hown5 hr5
      dsimp only at hown5 hr5
      obtain ⟨x0, hx0⟩ : ∃ x, (s1R L).1 = x := ⟨_, rfl⟩
      obtain ⟨x1, hx1⟩ : ∃ x, (s2R L).1 = x := ⟨_, rfl⟩
      obtain ⟨x2, hx2⟩ : ∃ x, (s3R L).1 = x := ⟨_, rfl⟩
      obtain ⟨x3, hx3⟩ : ∃ x, (s4R L).1 = x := ⟨_, rfl⟩
      obtain ⟨x4, hx4⟩ : ∃ x, (s5R L).1 = x := ⟨_, rfl⟩
      rw [hx0, hx1, hx2, hx3, hx4] at hown5
      have HXF : Hid ((s1R L).1 = x0 ∧ (s2R L).1 = x1 ∧ (s3R L).1 = x2 ∧ (s4R L).1 = x3 ∧ (s5R L).1 = x4) := Lib.hid ⟨hx0, hx1, hx2, hx3, hx4⟩
      have HR5 := Lib.hid hr5
      obtain ⟨e5, g, p1, p2, p3, p4, p5⟩ := row_parts (l := [x0, x1, x2, x3, x4]) hown5
      have e5' : un = 5 := e5
      subst e5'
      obtain rfl := p1 (by simp)
      have c0 := p5 0 x0 rfl
      have c1 := p5 1 x1 rfl
      have c2 := p5 2 x2 rfl
      have c3 := p5 3 x3 rfl
      have c4 := p5 4 x4 rfl
      have hc5 : 5 ≤ xc := p4
      simp only [Nat.zero_add] at c0 c1 c2 c3 c4
      have hgl := p3 (by simp)
      clear hown hrun hown5 hr5 hx0 hx1 hx2 hx3 hx4 e5 p1 p2 p3 p4 p5
      go_upto_region 8 with fail
      have SK8 : Hid ((fun w' => w'.cell? ⟨g, 0, none⟩ = some (.int .i64 x0) ∧ w'.cell? ⟨g, 1, none⟩ = some (.int .i64 x1) ∧ w'.cell? ⟨g, 2, none⟩ = some (.int .i64 x2) ∧ w'.cell? ⟨g, 3, none⟩ = some (.int .i64 x3) ∧ w'.cell? ⟨g, 4, none⟩ = some (.int .i64 x4)) (wr.alloc (.cells #[.int .i64 0, .int .i64 0, .int .i64 0, .int .i64 0, .int .i64 0, .int .u64 0, .slice none 0 0, .slice none 0 0] 29)).drew) := Lib.hid ⟨(World.cell?_alloc_past (w := wr) (.cells #[.int .i64 0, .int .i64 0, .int .i64 0, .int .i64 0, .int .i64 0, .int .u64 0, .slice none 0 0, .slice none 0 0] 29) _ _ (World.block_lt_of_cell? wr _ c0)).trans c0, (World.cell?_alloc_past (w := wr) (.cells #[.int .i64 0, .int .i64 0, .int .i64 0, .int .i64 0, .int .i64 0, .int .u64 0, .slice none 0 0, .slice none 0 0] 29) _ _ (World.block_lt_of_cell? wr _ c1)).trans c1, (World.cell?_alloc_past (w := wr) (.cells #[.int .i64 0, .int .i64 0, .int .i64 0, .int .i64 0, .int .i64 0, .int .u64 0, .slice none 0 0, .slice none 0 0] 29) _ _ (World.block_lt_of_cell? wr _ c2)).trans c2, (World.cell?_alloc_past (w := wr) (.cells #[.int .i64 0, .int .i64 0, .int .i64 0, .int .i64 0, .int .i64 0, .int .u64 0, .slice none 0 0, .slice none 0 0] 29) _ _ (World.block_lt_of_cell? wr _ c3)).trans c3, (World.cell?_alloc_past (w := wr) (.cells #[.int .i64 0, .int .i64 0, .int .i64 0, .int .i64 0, .int .i64 0, .int .u64 0, .slice none 0 0, .slice none 0 0] 29) _ _ (World.block_lt_of_cell? wr _ c4)).trans c4⟩
      refine wp_region_tail (S := (fun w' => w'.cell? ⟨g, 0, none⟩ = some (.int .i64 x0) ∧ w'.cell? ⟨g, 1, none⟩ = some (.int .i64 x1) ∧ w'.cell? ⟨g, 2, none⟩ = some (.int .i64 x2) ∧ w'.cell? ⟨g, 3, none⟩ = some (.int .i64 x3) ∧ w'.cell? ⟨g, 4, none⟩ = some (.int .i64 x4))) 18 (by kernel_rfl) (by kernel_rfl) ?_ (fun hHeld => ?_)
      · first | with_reducible exact ⟨c0, c1, c2, c3, c4⟩ | go_keep
      simp only [List.take_succ_cons, List.take_zero]
      refine wpAnyH_take (i := 0) (oi := _) (v := ?a0) rfl (by kernel_rfl) (by kernel_rfl) (by kernel_rfl) (fun _ _ _ h => h) (Or.inl ⟨by kernel_rfl, ?ay0⟩) (by assumption) ?ar0
      case ay0 => (intro w hSw; (try dsimp only at hSw); go_simp <;> with_reducible rfl)
      try simp only [Act.put, List.getElem_toArray, List.getElem_cons_zero, List.getElem_cons_succ, List.setIfInBounds_toArray, List.set_cons_zero, List.set_cons_succ]
      refine wpAnyH_take (i := 1) (oi := _) (v := ?a1) rfl (by kernel_rfl) (by kernel_rfl) (by kernel_rfl) (fun _ _ _ h => h) (Or.inl ⟨by kernel_rfl, ?ay1⟩) (by assumption) ?ar1
      case ay1 => (intro w hSw; (try dsimp only at hSw); go_simp <;> with_reducible rfl)
      try simp only [Act.put, List.getElem_toArray, List.getElem_cons_zero, List.getElem_cons_succ, List.setIfInBounds_toArray, List.set_cons_zero, List.set_cons_succ]
      refine wpAnyH_take (i := 2) (oi := _) (v := ?a2) rfl (by kernel_rfl) (by kernel_rfl) (by kernel_rfl) (fun _ _ _ h => h) (Or.inl ⟨by kernel_rfl, ?ay2⟩) (by assumption) ?ar2
      case ay2 => (intro w hSw; (try dsimp only at hSw); go_simp <;> with_reducible rfl)
      try simp only [Act.put, List.getElem_toArray, List.getElem_cons_zero, List.getElem_cons_succ, List.setIfInBounds_toArray, List.set_cons_zero, List.set_cons_succ]
      refine wpAnyH_take (i := 3) (oi := _) (v := ?a3) rfl (by kernel_rfl) (by kernel_rfl) (by kernel_rfl) (fun _ _ _ h => h) (Or.inl ⟨by kernel_rfl, ?ay3⟩) (by assumption) ?ar3
      case ay3 => (intro w hSw; (try dsimp only at hSw); go_simp <;> with_reducible rfl)
      try simp only [Act.put, List.getElem_toArray, List.getElem_cons_zero, List.getElem_cons_succ, List.setIfInBounds_toArray, List.set_cons_zero, List.set_cons_succ]
      refine wpAnyH_take (i := 4) (oi := _) (v := ?a4) rfl (by kernel_rfl) (by kernel_rfl) (by kernel_rfl) (fun _ _ _ h => h) (Or.inl ⟨by kernel_rfl, ?ay4⟩) (by assumption) ?ar4
      case ay4 => (intro w hSw; (try dsimp only at hSw); go_simp <;> with_reducible rfl)
      try simp only [Act.put, List.getElem_toArray, List.getElem_cons_zero, List.getElem_cons_succ, List.setIfInBounds_toArray, List.set_cons_zero, List.set_cons_succ]
      refine wpAnyH_take (i := 5) (oi := _) (v := ?a5) rfl (by kernel_rfl) (by kernel_rfl) (by kernel_rfl) (fun _ _ _ h => h) (Or.inl ⟨by kernel_rfl, ?ay5⟩) (by assumption) ?ar5
      case ay5 => (intro w hSw; (try dsimp only at hSw); go_simp <;> with_reducible rfl)
      try simp only [Act.put, List.getElem_toArray, List.getElem_cons_zero, List.getElem_cons_succ, List.setIfInBounds_toArray, List.set_cons_zero, List.set_cons_succ]
      refine wpAnyH_take (i := 6) (oi := _) (v := ?a6) rfl (by kernel_rfl) (by kernel_rfl) (by kernel_rfl) (fun _ _ _ h => h) (Or.inl ⟨by kernel_rfl, ?ay6⟩) (by assumption) ?ar6
      case ay6 => (intro w hSw; (try dsimp only at hSw); go_simp <;> with_reducible rfl)
      try simp only [Act.put, List.getElem_toArray, List.getElem_cons_zero, List.getElem_cons_succ, List.setIfInBounds_toArray, List.set_cons_zero, List.set_cons_succ]
      refine wpAnyH_take (i := 7) (oi := _) (v := ?a7) rfl (by kernel_rfl) (by kernel_rfl) (by kernel_rfl) (fun _ _ _ h => h) (Or.inl ⟨by kernel_rfl, ?ay7⟩) (by assumption) ?ar7
      case ay7 => (intro w hSw; (try dsimp only at hSw); go_simp <;> with_reducible rfl)
      try simp only [Act.put, List.getElem_toArray, List.getElem_cons_zero, List.getElem_cons_succ, List.setIfInBounds_toArray, List.set_cons_zero, List.set_cons_succ]
      refine wpAnyH_take (i := 8) (oi := _) (v := ?a8) rfl (by kernel_rfl) (by kernel_rfl) (by kernel_rfl) (fun _ _ _ h => h) (Or.inl ⟨by kernel_rfl, ?ay8⟩) (by assumption) ?ar8
      case ay8 => (intro w hSw; (try dsimp only at hSw); go_simp <;> with_reducible rfl)
      try simp only [Act.put, List.getElem_toArray, List.getElem_cons_zero, List.getElem_cons_succ, List.setIfInBounds_toArray, List.set_cons_zero, List.set_cons_succ]
      refine wpAnyH_take (i := 9) (oi := _) (v := ?a9) rfl (by kernel_rfl) (by kernel_rfl) (by kernel_rfl) (fun _ _ _ h => h) (Or.inl ⟨by kernel_rfl, ?ay9⟩) (by assumption) ?ar9
      case ay9 => (intro w hSw; (try dsimp only at hSw); go_simp <;> with_reducible rfl)
      try simp only [Act.put, List.getElem_toArray, List.getElem_cons_zero, List.getElem_cons_succ, List.setIfInBounds_toArray, List.set_cons_zero, List.set_cons_succ]
      refine wpAnyH_take (i := 10) (oi := _) (v := ?a10) rfl (by kernel_rfl) (by kernel_rfl) (by kernel_rfl) (fun _ _ _ h => h) (Or.inl ⟨by kernel_rfl, ?ay10⟩) (by assumption) ?ar10
      case ay10 => (intro w hSw; (try dsimp only at hSw); go_simp <;> with_reducible rfl)
      try simp only [Act.put, List.getElem_toArray, List.getElem_cons_zero, List.getElem_cons_succ, List.setIfInBounds_toArray, List.set_cons_zero, List.set_cons_succ]
      refine wpAnyH_take (i := 11) (oi := _) (v := ?a11) rfl (by kernel_rfl) (by kernel_rfl) (by kernel_rfl) (fun _ _ _ h => h) (Or.inl ⟨by kernel_rfl, ?ay11⟩) (by assumption) ?ar11
      case ay11 => (intro w hSw; (try dsimp only at hSw); go_simp <;> with_reducible rfl)
      try simp only [Act.put, List.getElem_toArray, List.getElem_cons_zero, List.getElem_cons_succ, List.setIfInBounds_toArray, List.set_cons_zero, List.set_cons_succ]
      refine wpAnyH_take (i := 12) (oi := _) (v := ?a12) rfl (by kernel_rfl) (by kernel_rfl) (by kernel_rfl) (fun _ _ _ h => h) (Or.inl ⟨by kernel_rfl, ?ay12⟩) (by assumption) ?ar12
      case ay12 => (intro w hSw; (try dsimp only at hSw); go_simp <;> with_reducible rfl)
      try simp only [Act.put, List.getElem_toArray, List.getElem_cons_zero, List.getElem_cons_succ, List.setIfInBounds_toArray, List.set_cons_zero, List.set_cons_succ]
      refine wpAnyH_take (i := 13) (oi := _) (v := ?a13) rfl (by kernel_rfl) (by kernel_rfl) (by kernel_rfl) (fun _ _ _ h => h) (Or.inl ⟨by kernel_rfl, ?ay13⟩) (by assumption) ?ar13
      case ay13 => (intro w hSw; (try dsimp only at hSw); go_simp <;> with_reducible rfl)
      try simp only [Act.put, List.getElem_toArray, List.getElem_cons_zero, List.getElem_cons_succ, List.setIfInBounds_toArray, List.set_cons_zero, List.set_cons_succ]
      refine wpAnyH_take (i := 14) (oi := _) (v := ?a14) rfl (by kernel_rfl) (by kernel_rfl) (by kernel_rfl) (fun _ _ _ h => h) (Or.inl ⟨by kernel_rfl, ?ay14⟩) (by assumption) ?ar14
      case ay14 => (intro w hSw; (try dsimp only at hSw); go_simp <;> with_reducible rfl)
      try simp only [Act.put, List.getElem_toArray, List.getElem_cons_zero, List.getElem_cons_succ, List.setIfInBounds_toArray, List.set_cons_zero, List.set_cons_succ]
      refine wpAnyH_take (i := 15) (oi := _) (v := ?a15) rfl (by kernel_rfl) (by kernel_rfl) (by kernel_rfl) (fun _ _ _ h => h) (Or.inl ⟨by kernel_rfl, ?ay15⟩) (by assumption) ?ar15
      case ay15 => (intro w hSw; (try dsimp only at hSw); go_simp <;> with_reducible rfl)
      try simp only [Act.put, List.getElem_toArray, List.getElem_cons_zero, List.getElem_cons_succ, List.setIfInBounds_toArray, List.set_cons_zero, List.set_cons_succ]
      refine wpAnyH_take (i := 16) (oi := _) (v := ?a16) rfl (by kernel_rfl) (by kernel_rfl) (by kernel_rfl) (fun _ _ _ h => h) (Or.inl ⟨by kernel_rfl, ?ay16⟩) (by assumption) ?ar16
      case ay16 => (intro w hSw; (try dsimp only at hSw); go_simp <;> with_reducible rfl)
      try simp only [Act.put, List.getElem_toArray, List.getElem_cons_zero, List.getElem_cons_succ, List.setIfInBounds_toArray, List.set_cons_zero, List.set_cons_succ]
      refine wpAnyH_ready (rs := [17]) (by kernel_rfl) (by simp) ?_
      refine AllReadyH.cons (o := _) rfl (fun K hK => ?_) AllReadyH.nil
      go_simp
      refine hK.out _ _ ?_ (fun hHeld17 => ?_)
      · first | with_reducible exact ⟨c0, c1, c2, c3, c4⟩ | exact SK8.out | go_keep
      clear hK K hHeld
      try simp only [Act.put, List.getElem_toArray, List.getElem_cons_zero, List.getElem_cons_succ, List.setIfInBounds_toArray, List.set_cons_zero, List.set_cons_succ]
      refine wpAnyH_done (by kernel_rfl) ?_ _
      dsimp only [tailQ]
      simp only [List.drop_succ_cons, List.drop_zero, List.take_succ_cons, List.take_zero, List.getElem_cons_succ, List.getElem_cons_zero, List.set_cons_zero, List.set_cons_succ]
      clear SK8
      have hrg : RgS w L wr.heap.size x0 x1 x2 x3 x4 (.int .u64 0) (.slice none 0 0) (.slice none 0 0) ((wr.alloc (.cells #[.int .i64 x0, .int .i64 x1, .int .i64 x2, .int .i64 x3, .int .i64 x4, .int .u64 0, .slice none 0 0, .slice none 0 0] 29)).drew) j b :=
        ⟨hst.out.grow (below_drew ((Below.refl _ _).alloc hst.out.sz _)), evB_drew (heap_alloc_new _ _), hst.out.sz⟩
      go_wp2_with fail
      generalize ((wr.alloc (.cells #[.int .i64 x0, .int .i64 x1, .int .i64 x2, .int .i64 x3, .int .i64 x4, .int .u64 0, .slice none 0 0, .slice none 0 0] 29)).drew) = w8 at hrg ⊢
      generalize wr.heap.size = xe at hrg ⊢
      have H8 := Lib.hid hrg
      have hdg := HDG.out j b w8 hrg.st.rd hj
      obtain ⟨q, hq⟩ : ∃ q, wordR (L.drop j, b) = q := ⟨_, rfl⟩
      rw [hq] at hdg
      obtain ⟨x5, l9, b9⟩ := q
      have Q9 := Lib.hid hq
      have E6 : Hid (s6R L = (x5, l9, b9)) := Lib.hid (by unfold s6R; rw [HR5.out]; exact hq)
      have HC := Lib.hid hdg
      clear hrg hdg hq c0 c1 c2 c3 c4 hgl hst
      refine HC.out.mono ?_
      rintro e w9 ⟨rfl, hb, j9, hj9, hr, hd⟩
      dsimp only at hr hd
      have h9 := H8.out.call hb hr
      have c5 := cell_of_heap h9.ev (k := 5) rfl
      have f5 := free_of_heap (k := 5) h9.ev
      have H9 := Lib.hid (h9.set5 (.int .u64 (x5 : Int)))
      have D9 := Lib.hid hd
      clear hb hr hd HC h9
      have D100 := D9
      have hsg := HSGC.out 32 j9 b9 (w9.setCell ⟨xe, 5, none⟩ (.int .u64 (x5 : Int))) (by decide) H9.out.st.rd hj9
      rw [D100.out] at hsg
      obtain ⟨q, hq⟩ : ∃ q, passP 32 (l9, b9) = q := ⟨_, rfl⟩
      rw [hq] at hsg
      obtain ⟨l10, b10⟩ := q
      have Q10 := Lib.hid hq
      have HC := Lib.hid hsg
      clear hsg hq
      go_wp2_with fail
      refine HC.out.mono ?_
      rintro e w10 ⟨rfl, hb, j10, hj10, hr, hd⟩
      dsimp only at hr hd
      have H10 := Lib.hid (H9.out.call hb hr)
      have B10 := Lib.hid hb
      have D10 := Lib.hid hd
      clear hb hr hd HC
      clear c5 f5
      have D110 := D10
      have hsg := HSGC.out 91 j10 b10 w10 (by decide) H10.out.st.rd hj10
      rw [D110.out] at hsg
      obtain ⟨q, hq⟩ : ∃ q, passP 91 (l10, b10) = q := ⟨_, rfl⟩
      rw [hq] at hsg
      obtain ⟨l11, b11⟩ := q
      have Q11 := Lib.hid hq
      have HC := Lib.hid hsg
      clear hsg hq
      go_wp2_with fail
      refine HC.out.mono ?_
      rintro e w11 ⟨rfl, hb, j11, hj11, hr, hd⟩
      dsimp only at hr hd
      have H11 := Lib.hid (H10.out.call hb hr)
      have B11 := Lib.hid hb
      have D11 := Lib.hid hd
      clear hb hr hd HC
      obtain ⟨R7, hR7⟩ : ∃ R, loopR wordR (l11.length + 1) [] (l11, b11) = R := ⟨_, rfl⟩
      have HR7 := Lib.hid hR7
      clear hR7
      have hl0 : l11.length ≤ L.length := by rw [← D11.out, List.length_drop]; omega
      have HL0 := Lib.hid hl0
      have his := HISC.out j11 b11 w11 H11.out.st.rd hj11
      rw [D11.out] at his
      obtain ⟨ag, hag⟩ : ∃ ag, isC 93 (l11, b11) = ag := ⟨_, rfl⟩
      rw [hag] at his
      have HAG := Lib.hid hag
      have HC := Lib.hid his
      clear his hag hl0
      go_wp2_with fail
      refine HC.out.mono ?_
      rintro e wi ⟨rfl, ki, rfl⟩
      have HI0 := Lib.hid (H11.out.drewN ki)
      generalize World.drewN w11 ki = wi at HI0 ⊢
      clear HC
      go_wp2_with fail
      go_loopw [7] (fun u wr => ∃ (f j : Nat) (bb : Bool) (va : Option Addr) (vn vc : Nat) (acc : List Nat), u = .bool (!isC 93 (L.drop j, bb)) ∧ j ≤ L.length ∧ Hid (acc.length + f ≤ L.length + 1) ∧ Hid (RgS w L xe x0 x1 x2 x3 x4 (.int .u64 (x5 : Int)) (.slice va vn vc) (.slice none 0 0) wr j bb) ∧ Hid (wr.ownsRow (xe + 1) 23 1 (.slice va vn vc) acc.length (acc.map (fun z : Nat => Value.int .u64 (z : Int)))) ∧ Hid (bb = true ∨ (L.drop j).length < f) ∧ Hid (loopR wordR f acc (L.drop j, bb) = R7)) (fun _ wr => 2 * (L.length - atOf (w.heap.size + 2) wr) + stOf (w.heap.size + 2) wr)
      case atStart => exact ⟨l11.length + 1, j11, b11, none, 0, 0, [], by rw [D11.out, HAG.out], hj11, Lib.hid (by have := HL0.out; simp; omega), HI0, Lib.hid ⟨rfl, .inl ⟨rfl, rfl⟩⟩, Lib.hid (Or.inr (by rw [D11.out]; omega)), Lib.hid (by rw [D11.out]; exact HR7.out)⟩
      case round =>
        obtain ⟨f, j, bb, va, vn, vc, acc, rfl, hj, hlen, hst, hown, hfu, hp⟩ := hrel
        have z2 := cell_of_heap hst.out.st.rd (k := 2) rfl
        cases h93 : isC 93 (L.drop j, bb) with
        | true =>
          have HER7 : Hid (R7 = (acc, (L.drop j, bb))) := Lib.hid (by rw [← hp.out]; exact loopR_stop h93 f acc)
          clear h93 hp hfu
          have D180 : Hid (L.drop j = L.drop j) := Lib.hid rfl
          have hsg := HSGC.out 93 j bb wr (by decide) hst.out.st.rd hj
          rw [D180.out] at hsg
          obtain ⟨q, hq⟩ : ∃ q, passP 93 ((L.drop j), bb) = q := ⟨_, rfl⟩
          rw [hq] at hsg
          obtain ⟨l18, b18⟩ := q
          have Q18 := Lib.hid hq
          have HC := Lib.hid hsg
          clear hsg hq
          go_wp2_with fail
          refine HC.out.mono ?_
          rintro e w18 ⟨rfl, hb, j18, hj18, hr, hd⟩
          dsimp only at hr hd
          have H18 := Lib.hid (hst.out.call hb hr)
          have B18 := Lib.hid hb
          have D18 := Lib.hid hd
          clear hb hr hd HC
          have E7 : Hid (s7R L = (acc, (l18, b18))) := Lib.hid (by
            unfold s7R
            rw [E6.out]
            dsimp only
            rw [Q10.out]
            unfold listR
            rw [Q11.out]
            dsimp only
            rw [HR7.out, HER7.out]
            dsimp only
            rw [Q18.out])
          have O18 := Lib.hid (B18.out.own hown.out (by have := hst.out.xl; omega))
          have D190 := D18
          have hsg := HSGC.out 32 j18 b18 w18 (by decide) H18.out.st.rd hj18
          rw [D190.out] at hsg
          obtain ⟨q, hq⟩ : ∃ q, passP 32 (l18, b18) = q := ⟨_, rfl⟩
          rw [hq] at hsg
          obtain ⟨l19, b19⟩ := q
          have Q19 := Lib.hid hq
          have HC := Lib.hid hsg
          clear hsg hq
          go_wp2_with fail
          refine HC.out.mono ?_
          rintro e w19 ⟨rfl, hb, j19, hj19, hr, hd⟩
          dsimp only at hr hd
          have H19 := Lib.hid (H18.out.call hb hr)
          have B19 := Lib.hid hb
          have D19 := Lib.hid hd
          clear hb hr hd HC
          have O19 := Lib.hid (B19.out.own O18.out (by have := H18.out.xl; omega))
          have D200 := D19
          have hsg := HSGC.out 91 j19 b19 w19 (by decide) H19.out.st.rd hj19
          rw [D200.out] at hsg
          obtain ⟨q, hq⟩ : ∃ q, passP 91 (l19, b19) = q := ⟨_, rfl⟩
          rw [hq] at hsg
          obtain ⟨l20, b20⟩ := q
          have Q20 := Lib.hid hq
          have HC := Lib.hid hsg
          clear hsg hq
          go_wp2_with fail
          refine HC.out.mono ?_
          rintro e w20 ⟨rfl, hb, j20, hj20, hr, hd⟩
          dsimp only at hr hd
          have H20 := Lib.hid (H19.out.call hb hr)
          have B20 := Lib.hid hb
          have D20 := Lib.hid hd
          clear hb hr hd HC
          have O20 := Lib.hid (B20.out.own O19.out (by have := H19.out.xl; omega))
          clear hst hown hlen z2
          obtain ⟨R8, hR8⟩ : ∃ R, loopR intR (l20.length + 1) [] (l20, b20) = R := ⟨_, rfl⟩
          have HR8 := Lib.hid hR8
          clear hR8
          have hl0 : l20.length ≤ L.length := by rw [← D20.out, List.length_drop]; omega
          have HL0 := Lib.hid hl0
          have his := HISC.out j20 b20 w20 H20.out.st.rd hj20
          rw [D20.out] at his
          obtain ⟨ag, hag⟩ : ∃ ag, isC 93 (l20, b20) = ag := ⟨_, rfl⟩
          rw [hag] at his
          have HAG := Lib.hid hag
          have HC := Lib.hid his
          clear his hag hl0
          go_wp2_with fail
          refine HC.out.mono ?_
          rintro e wi ⟨rfl, ki, rfl⟩
          have HI0 := Lib.hid (H20.out.drewN ki)
          have OI7 := Lib.hid (owns_drewN O20.out ki)
          generalize World.drewN w20 ki = wi at HI0 OI7 ⊢
          clear HC
          go_wp2_with fail
          go_loopw [8] (fun u wr => ∃ (f j : Nat) (bb : Bool) (pa : Option Addr) (pn pc : Nat) (acc2 : List Int), u = .bool (!isC 93 (L.drop j, bb)) ∧ j ≤ L.length ∧ Hid (acc2.length + f ≤ L.length + 1) ∧ Hid (RgS w L xe x0 x1 x2 x3 x4 (.int .u64 (x5 : Int)) (.slice va vn vc) (.slice pa pn pc) wr j bb) ∧ Hid (wr.ownsRow (xe + 1) 3 1 (.slice pa pn pc) acc2.length (acc2.map (fun z : Int => Value.int .i64 z))) ∧ Hid (bb = true ∨ (L.drop j).length < f) ∧ Hid (wr.ownsRow (xe + 1) 23 1 (.slice va vn vc) acc.length (acc.map (fun z : Nat => Value.int .u64 (z : Int)))) ∧ Hid (loopR intR f acc2 (L.drop j, bb) = R8)) (fun _ wr => 2 * (L.length - atOf (w.heap.size + 2) wr) + stOf (w.heap.size + 2) wr)
          case atStart => exact ⟨l20.length + 1, j20, b20, none, 0, 0, [], by rw [D20.out, HAG.out], hj20, Lib.hid (by have := HL0.out; simp; omega), HI0, Lib.hid ⟨rfl, .inl ⟨rfl, rfl⟩⟩, Lib.hid (Or.inr (by rw [D20.out]; omega)), OI7, Lib.hid (by rw [D20.out]; exact HR8.out)⟩
          case round =>
            obtain ⟨f, j, bb, pa, pn, pc, acc2, rfl, hj, hlen, hst, hown, hfu, h7o, hp⟩ := hrel
            have z2 := cell_of_heap hst.out.st.rd (k := 2) rfl
            cases h93 : isC 93 (L.drop j, bb) with
            | true =>
              have HER8 : Hid (R8 = (acc2, (L.drop j, bb))) := Lib.hid (by rw [← hp.out]; exact loopR_stop h93 f acc2)
              clear h93 hp hfu
              have D270 : Hid (L.drop j = L.drop j) := Lib.hid rfl
              have hsg := HSGC.out 93 j bb wr (by decide) hst.out.st.rd hj
              rw [D270.out] at hsg
              obtain ⟨q, hq⟩ : ∃ q, passP 93 ((L.drop j), bb) = q := ⟨_, rfl⟩
              rw [hq] at hsg
              obtain ⟨l27, b27⟩ := q
              have Q27 := Lib.hid hq
              have HC := Lib.hid hsg
              clear hsg hq
              go_wp2_with fail
              refine HC.out.mono ?_
              rintro e w27 ⟨rfl, hb, j27, hj27, hr, hd⟩
              dsimp only at hr hd
              have H27 := Lib.hid (hst.out.call hb hr)
              have B27 := Lib.hid hb
              have D27 := Lib.hid hd
              clear hb hr hd HC
              have O7F := Lib.hid (B27.out.own h7o.out (by have := hst.out.xl; omega))
              have O8F := Lib.hid (B27.out.own hown.out (by have := hst.out.xl; omega))
              have E8 : Hid (s8R L = (acc2, (l27, b27))) := Lib.hid (by
                unfold s8R
                rw [E7.out]
                dsimp only
                rw [Q19.out]
                unfold listR
                rw [Q20.out]
                dsimp only
                rw [HR8.out, HER8.out]
                dsimp only
                rw [Q27.out])
              have EX : Hid (evR L = ⟨x0, x1, x2, x3, x4, x5, acc, acc2⟩) := Lib.hid (by
                obtain ⟨y0, y1, y2, y3, y4⟩ := HXF.out
                unfold evR
                rw [y0, y1, y2, y3, y4, E6.out, E7.out, E8.out])
              have EN : Hid (endP L = (l27, b27)) := Lib.hid (by
                have := (s8_eq L).1
                rw [E8.out] at this
                exact this.symm)
              have HJL : Hid (L.length - l27.length = j27) := Lib.hid (by rw [← D27.out, List.length_drop]; omega)
              have HLT : Hid ((0 < l27.length) ↔ j27 < L.length) := Lib.hid (by rw [← D27.out, List.length_drop]; omega)
              have q1 := cell_of_heap H27.out.st.rd (k := 1) rfl
              have q2 := cell_of_heap H27.out.st.rd (k := 2) rfl
              have p2 := free_of_heap (k := 2) H27.out.st.rd
              clear hst hown hlen z2 h7o
              by_cases hjl : j27 < L.length
              · have djl : j27 < (strB L).size := by rw [strB_size]; exact hjl
                have HB : Hid (okP L = false) := Lib.hid (by unfold okP; rw [EN.out]; dsimp only; rw [decide_eq_true (HLT.out.2 hjl), Bool.or_true]; rfl)
                have HG := Lib.hid (H27.out.setBad)
                have O7G := Lib.hid (own_set (b := w.heap.size + 2) (k := 2) (u := .bool true) O7F.out (own_not O7F.out H27.out.st.rd (by decide)))
                have O8G := Lib.hid (own_set (b := w.heap.size + 2) (k := 2) (u := .bool true) O8F.out (own_not O8F.out H27.out.st.rd (by decide)))
                clear hjl
                go_upto_region 30 with fail
                obtain ⟨WE, hWE⟩ : ∃ WE, (w27.setCell ⟨w.heap.size + 2, 2, none⟩ (.bool true)) = WE := ⟨_, rfl⟩
                have HF := HG
                have OF7 := O7G
                have OF8 := O8G
                try rw [hWE] at HF OF7 OF8
                try rw [hWE]
                clear hWE
                have e0 : WE.cell? ⟨xe, 0, none⟩ = some (.int .i64 x0) := cell_of_heap HF.out.ev (k := 0) rfl
                have e1 : WE.cell? ⟨xe, 1, none⟩ = some (.int .i64 x1) := cell_of_heap HF.out.ev (k := 1) rfl
                have e2 : WE.cell? ⟨xe, 2, none⟩ = some (.int .i64 x2) := cell_of_heap HF.out.ev (k := 2) rfl
                have e3 : WE.cell? ⟨xe, 3, none⟩ = some (.int .i64 x3) := cell_of_heap HF.out.ev (k := 3) rfl
                have e4 : WE.cell? ⟨xe, 4, none⟩ = some (.int .i64 x4) := cell_of_heap HF.out.ev (k := 4) rfl
                have e5 : WE.cell? ⟨xe, 5, none⟩ = some (.int .u64 (x5 : Int)) := cell_of_heap HF.out.ev (k := 5) rfl
                have e6 : WE.cell? ⟨xe, 6, none⟩ = some (.slice va vn vc) := cell_of_heap HF.out.ev (k := 6) rfl
                have e7 : WE.cell? ⟨xe, 7, none⟩ = some (.slice pa pn pc) := cell_of_heap HF.out.ev (k := 7) rfl
                have n0 : WE.cell? ⟨w.heap.size + 2, 0, none⟩ = some (.string (strB L)) := cell_of_heap HF.out.st.rd (k := 0) rfl
                have n1 : WE.cell? ⟨w.heap.size + 2, 1, none⟩ = some (.int .i64 (j27 : Int)) := cell_of_heap HF.out.st.rd (k := 1) rfl
                have n2 : WE.cell? ⟨w.heap.size + 2, 2, none⟩ = some (.bool true) := cell_of_heap HF.out.st.rd (k := 2) rfl
                have z0' := cell_of_heap HF.out.st.rc (k := 0) rfl
                have y0' := free_of_heap (k := 0) HF.out.st.rc
                have z1' := cell_of_heap HF.out.st.rc (k := 1) rfl
                have y1' := free_of_heap (k := 1) HF.out.st.rc
                have z2' := cell_of_heap HF.out.st.rc (k := 2) rfl
                have y2' := free_of_heap (k := 2) HF.out.st.rc
                have z3' := cell_of_heap HF.out.st.rc (k := 3) rfl
                have y3' := free_of_heap (k := 3) HF.out.st.rc
                have z4' := cell_of_heap HF.out.st.rc (k := 4) rfl
                have y4' := free_of_heap (k := 4) HF.out.st.rc
                have z5' := cell_of_heap HF.out.st.rc (k := 5) rfl
                have y5' := free_of_heap (k := 5) HF.out.st.rc
                have z6' := cell_of_heap HF.out.st.rc (k := 6) rfl
                have y6' := free_of_heap (k := 6) HF.out.st.rc
                have z7' := cell_of_heap HF.out.st.rc (k := 7) rfl
                have y7' := free_of_heap (k := 7) HF.out.st.rc
                have SK0 : (fun w' => w'.cell? ⟨xe, 0, none⟩ = some (.int .i64 x0) ∧ w'.cell? ⟨xe, 1, none⟩ = some (.int .i64 x1) ∧ w'.cell? ⟨xe, 2, none⟩ = some (.int .i64 x2) ∧ w'.cell? ⟨xe, 3, none⟩ = some (.int .i64 x3) ∧ w'.cell? ⟨xe, 4, none⟩ = some (.int .i64 x4) ∧ w'.cell? ⟨xe, 5, none⟩ = some (.int .u64 (x5 : Int)) ∧ w'.cell? ⟨xe, 6, none⟩ = some (.slice va vn vc) ∧ w'.cell? ⟨xe, 7, none⟩ = some (.slice pa pn pc) ∧ w'.cell? ⟨w.heap.size + 2, 0, none⟩ = some (.string (strB L)) ∧ w'.cell? ⟨w.heap.size + 2, 1, none⟩ = some (.int .i64 (j27 : Int)) ∧ w'.cell? ⟨w.heap.size + 2, 2, none⟩ = some (.bool true)) (put8 WE w.heap.size (.int .i64 x0) (.int .i64 x1) (.int .i64 x2) (.int .i64 x3) (.int .i64 x4) (.int .u64 (x5 : Int)) (.slice va vn vc) (.slice pa pn pc)).drew := ⟨cell_of_heap (heap_drewQ.trans ((put8_other (by have := HF.out.xl; omega)).trans HF.out.ev)) rfl, cell_of_heap (heap_drewQ.trans ((put8_other (by have := HF.out.xl; omega)).trans HF.out.ev)) rfl, cell_of_heap (heap_drewQ.trans ((put8_other (by have := HF.out.xl; omega)).trans HF.out.ev)) rfl, cell_of_heap (heap_drewQ.trans ((put8_other (by have := HF.out.xl; omega)).trans HF.out.ev)) rfl, cell_of_heap (heap_drewQ.trans ((put8_other (by have := HF.out.xl; omega)).trans HF.out.ev)) rfl, cell_of_heap (heap_drewQ.trans ((put8_other (by have := HF.out.xl; omega)).trans HF.out.ev)) rfl, cell_of_heap (heap_drewQ.trans ((put8_other (by have := HF.out.xl; omega)).trans HF.out.ev)) rfl, cell_of_heap (heap_drewQ.trans ((put8_other (by have := HF.out.xl; omega)).trans HF.out.ev)) rfl, cell_of_heap (heap_drewQ.trans ((put8_other (by omega)).trans HF.out.st.rd)) rfl, cell_of_heap (heap_drewQ.trans ((put8_other (by omega)).trans HF.out.st.rd)) rfl, cell_of_heap (heap_drewQ.trans ((put8_other (by omega)).trans HF.out.st.rd)) rfl⟩
                unfold put8 at SK0
                have SK := Lib.hid SK0
                clear SK0
                refine wp_region_tail (S := (fun w' => w'.cell? ⟨xe, 0, none⟩ = some (.int .i64 x0) ∧ w'.cell? ⟨xe, 1, none⟩ = some (.int .i64 x1) ∧ w'.cell? ⟨xe, 2, none⟩ = some (.int .i64 x2) ∧ w'.cell? ⟨xe, 3, none⟩ = some (.int .i64 x3) ∧ w'.cell? ⟨xe, 4, none⟩ = some (.int .i64 x4) ∧ w'.cell? ⟨xe, 5, none⟩ = some (.int .u64 (x5 : Int)) ∧ w'.cell? ⟨xe, 6, none⟩ = some (.slice va vn vc) ∧ w'.cell? ⟨xe, 7, none⟩ = some (.slice pa pn pc) ∧ w'.cell? ⟨w.heap.size + 2, 0, none⟩ = some (.string (strB L)) ∧ w'.cell? ⟨w.heap.size + 2, 1, none⟩ = some (.int .i64 (j27 : Int)) ∧ w'.cell? ⟨w.heap.size + 2, 2, none⟩ = some (.bool true))) 5 (by kernel_rfl) (by kernel_rfl) ?_ (fun hHeld => ?_)
                · first | with_reducible exact ⟨e0, e1, e2, e3, e4, e5, e6, e7, n0, n1, n2⟩ | go_keep
                simp only [List.take_succ_cons, List.take_zero]
                refine wpAnyH_take (i := 0) (oi := _) (v := ?zb0) rfl (by kernel_rfl) (by kernel_rfl) (by kernel_rfl) (fun _ _ _ h => h) (Or.inl ⟨by kernel_rfl, ?zby0⟩) (by assumption) ?zbr0
                case zby0 => (intro w hSw; (try dsimp only at hSw); go_simp <;> with_reducible rfl)
                try simp only [Act.put, List.getElem_toArray, List.getElem_cons_zero, List.getElem_cons_succ, List.setIfInBounds_toArray, List.set_cons_zero, List.set_cons_succ]
                refine wpAnyH_take (i := 1) (oi := _) (v := ?zb1) rfl (by kernel_rfl) (by kernel_rfl) (by kernel_rfl) (fun _ _ _ h => h) (Or.inl ⟨by kernel_rfl, ?zby1⟩) (by assumption) ?zbr1
                case zby1 => (intro w hSw; (try dsimp only at hSw); go_simp <;> with_reducible rfl)
                try simp only [Act.put, List.getElem_toArray, List.getElem_cons_zero, List.getElem_cons_succ, List.setIfInBounds_toArray, List.set_cons_zero, List.set_cons_succ]
                refine wpAnyH_take (i := 2) (oi := _) (v := ?zb2) rfl (by kernel_rfl) (by kernel_rfl) (by kernel_rfl) (fun _ _ _ h => h) (Or.inl ⟨by kernel_rfl, ?zby2⟩) (by assumption) ?zbr2
                case zby2 => (intro w hSw; (try dsimp only at hSw); go_simp <;> with_reducible rfl)
                try simp only [Act.put, List.getElem_toArray, List.getElem_cons_zero, List.getElem_cons_succ, List.setIfInBounds_toArray, List.set_cons_zero, List.set_cons_succ]
                refine wpAnyH_take (i := 3) (oi := _) (v := ?zb3) rfl (by kernel_rfl) (by kernel_rfl) (by kernel_rfl) (fun _ _ _ h => h) (Or.inl ⟨by kernel_rfl, ?zby3⟩) (by assumption) ?zbr3
                case zby3 => (intro w hSw; (try dsimp only at hSw); go_simp <;> with_reducible rfl)
                try simp only [Act.put, List.getElem_toArray, List.getElem_cons_zero, List.getElem_cons_succ, List.setIfInBounds_toArray, List.set_cons_zero, List.set_cons_succ]
                refine wpAnyH_ready (rs := [4]) (by kernel_rfl) (by simp) ?_
                refine AllReadyH.cons (o := _) rfl (fun K hK => ?_) AllReadyH.nil
                go_simp
                refine hK.out _ _ ?_ (fun hHeld4 => ?_)
                · first | with_reducible exact ⟨e0, e1, e2, e3, e4, e5, e6, e7, n0, n1, n2⟩ | exact SK.out | go_keep
                clear hK K hHeld
                try simp only [Act.put, List.getElem_toArray, List.getElem_cons_zero, List.getElem_cons_succ, List.setIfInBounds_toArray, List.set_cons_zero, List.set_cons_succ]
                refine wpAnyH_done (by kernel_rfl) ?_ _
                dsimp only [tailQ]
                simp only [List.drop_succ_cons, List.drop_zero, List.take_succ_cons, List.take_zero, List.getElem_cons_succ, List.getElem_cons_zero, List.set_cons_zero, List.set_cons_succ]
                clear SK
                clear z0' y0'
                clear z1' y1'
                clear z2' y2'
                clear z3' y3'
                clear z4' y4'
                clear z5' y5'
                clear z6' y6'
                clear z7' y7'
                obtain ⟨WP, hWP⟩ : ∃ WP, (put8 WE w.heap.size (.int .i64 x0) (.int .i64 x1) (.int .i64 x2) (.int .i64 x3) (.int .i64 x4) (.int .u64 (x5 : Int)) (.slice va vn vc) (.slice pa pn pc)).drew = WP := ⟨_, rfl⟩
                have HL8 : lnB WP (w.heap.size + 1) (⟨#[]⟩ : ByteArray) 0 false := by rw [← hWP]; exact heap_drewQ.trans ((put8_other (by omega)).trans HF.out.st.rl)
                have HWP := Lib.hid hWP
                unfold put8 at hWP
                rw [hWP]
                clear hWP
                have m0' := cell_of_heap HL8 (k := 0) rfl
                have o0' := free_of_heap (k := 0) HL8
                have m1' := cell_of_heap HL8 (k := 1) rfl
                have o1' := free_of_heap (k := 1) HL8
                have m2' := cell_of_heap HL8 (k := 2) rfl
                have o2' := free_of_heap (k := 2) HL8
                clear e0 e1 e2 e3 e4 e5 e6 e7 n0 n1 n2
                go_wp2_with fail
                suffices key : ∀ Wf, Wf = (put3 WP (w.heap.size + 1) (.string (strB L)) (.int .i64 (j27 : Int)) (.bool true)) → bodyPost Try.prog Try.f13 (RefP L w) Exit.ret _ Wf from key _ rfl
                intro Wf hWf
                rw [← HWP.out] at hWf
                have O7w : Wf.ownsRow (xe + 1) 23 1 (.slice va vn vc) acc.length (acc.map (fun z : Nat => Value.int .u64 (z : Int))) := by rw [hWf]; exact put3_own (owns_drew (put8_own OF7.out (own_not OF7.out HF.out.st.rc (by decide)))) (own_not OF7.out HF.out.st.rl (by decide))
                have O8w : Wf.ownsRow (xe + 1) 3 1 (.slice pa pn pc) acc2.length (acc2.map (fun z : Int => Value.int .i64 z)) := by rw [hWf]; exact put3_own (owns_drew (put8_own OF8.out (own_not OF8.out HF.out.st.rc (by decide)))) (own_not OF8.out HF.out.st.rl (by decide))
                have hE : evB Wf w.heap.size (.int .i64 x0) (.int .i64 x1) (.int .i64 x2) (.int .i64 x3) (.int .i64 x4) (.int .u64 (x5 : Int)) (.slice va vn vc) (.slice pa pn pc) := by rw [hWf]; exact (put3_other (by omega)).trans (heap_drewQ.trans (put8_heap HF.out.st.rc))
                have hN : lnB Wf (w.heap.size + 1) (strB L) j27 true := by rw [hWf]; exact put3_lnU (heap_drewQ.trans ((put8_other (by omega)).trans HF.out.st.rl))
                have hBf : Below w.heap.size w Wf := by rw [hWf]; exact put3_below (below_drew (put8_below HF.out.st.bl (Nat.le_refl w.heap.size))) (Nat.le_succ w.heap.size)
                have k0' := cell_of_heap hE (k := 0) rfl
                have k1' := cell_of_heap hE (k := 1) rfl
                have k2' := cell_of_heap hE (k := 2) rfl
                have k3' := cell_of_heap hE (k := 3) rfl
                have k4' := cell_of_heap hE (k := 4) rfl
                have k5' := cell_of_heap hE (k := 5) rfl
                have k6' := cell_of_heap hE (k := 6) rfl
                have k7' := cell_of_heap hE (k := 7) rfl
                have t0' := cell_of_heap hN (k := 0) rfl
                have t1' := cell_of_heap hN (k := 1) rfl
                have t2' := cell_of_heap hN (k := 2) rfl
                refine bodyPost_ret (v := .tuple #[.agg #[.int .i64 x0, .int .i64 x1, .int .i64 x2, .int .i64 x3, .int .i64 x4, .int .u64 (x5 : Int), .slice va vn vc, .slice pa pn pc], .agg #[.string (strB L), .int .i64 (j27 : Int), .bool true]]) (by simp [results, Try.results13, go_sem, k0', k1', k2', k3', k4', k5', k6', k7', t0', t1', t2']) rfl ?_
                obtain ⟨e7, g7, a1, a2, a3, a4, a5⟩ := row_parts O7w
                obtain ⟨e8, g8, d1, d2, d3, d4, d5⟩ := row_parts O8w
                unfold RefP
                rw [EX.out, EN.out, show (!okP L) = true by rw [HB.out]; rfl]
                dsimp only
                rw [HJL.out]
                refine ⟨hBf, ⟨va, g7, 0, vc, pa, g8, 0, pc⟩, by rw [e7, e8], a1, a3, a4, a5, d1, d3, d4, d5⟩
              · have djl : ¬ j27 < (strB L).size := by rw [strB_size]; exact hjl
                have HB : Hid ((!okP L) = b27) := Lib.hid (by unfold okP; rw [EN.out]; dsimp only; rw [decide_eq_false (fun h => hjl (HLT.out.1 h)), Bool.or_false, Bool.not_not])
                clear hjl
                go_upto_region 30 with fail
                obtain ⟨WE, hWE⟩ : ∃ WE, w27 = WE := ⟨_, rfl⟩
                have HF := H27
                have OF7 := O7F
                have OF8 := O8F
                try rw [hWE] at HF OF7 OF8
                try rw [hWE]
                clear hWE
                have e0 : WE.cell? ⟨xe, 0, none⟩ = some (.int .i64 x0) := cell_of_heap HF.out.ev (k := 0) rfl
                have e1 : WE.cell? ⟨xe, 1, none⟩ = some (.int .i64 x1) := cell_of_heap HF.out.ev (k := 1) rfl
                have e2 : WE.cell? ⟨xe, 2, none⟩ = some (.int .i64 x2) := cell_of_heap HF.out.ev (k := 2) rfl
                have e3 : WE.cell? ⟨xe, 3, none⟩ = some (.int .i64 x3) := cell_of_heap HF.out.ev (k := 3) rfl
                have e4 : WE.cell? ⟨xe, 4, none⟩ = some (.int .i64 x4) := cell_of_heap HF.out.ev (k := 4) rfl
                have e5 : WE.cell? ⟨xe, 5, none⟩ = some (.int .u64 (x5 : Int)) := cell_of_heap HF.out.ev (k := 5) rfl
                have e6 : WE.cell? ⟨xe, 6, none⟩ = some (.slice va vn vc) := cell_of_heap HF.out.ev (k := 6) rfl
                have e7 : WE.cell? ⟨xe, 7, none⟩ = some (.slice pa pn pc) := cell_of_heap HF.out.ev (k := 7) rfl
                have n0 : WE.cell? ⟨w.heap.size + 2, 0, none⟩ = some (.string (strB L)) := cell_of_heap HF.out.st.rd (k := 0) rfl
                have n1 : WE.cell? ⟨w.heap.size + 2, 1, none⟩ = some (.int .i64 (j27 : Int)) := cell_of_heap HF.out.st.rd (k := 1) rfl
                have n2 : WE.cell? ⟨w.heap.size + 2, 2, none⟩ = some (.bool b27) := cell_of_heap HF.out.st.rd (k := 2) rfl
                have z0' := cell_of_heap HF.out.st.rc (k := 0) rfl
                have y0' := free_of_heap (k := 0) HF.out.st.rc
                have z1' := cell_of_heap HF.out.st.rc (k := 1) rfl
                have y1' := free_of_heap (k := 1) HF.out.st.rc
                have z2' := cell_of_heap HF.out.st.rc (k := 2) rfl
                have y2' := free_of_heap (k := 2) HF.out.st.rc
                have z3' := cell_of_heap HF.out.st.rc (k := 3) rfl
                have y3' := free_of_heap (k := 3) HF.out.st.rc
                have z4' := cell_of_heap HF.out.st.rc (k := 4) rfl
                have y4' := free_of_heap (k := 4) HF.out.st.rc
                have z5' := cell_of_heap HF.out.st.rc (k := 5) rfl
                have y5' := free_of_heap (k := 5) HF.out.st.rc
                have z6' := cell_of_heap HF.out.st.rc (k := 6) rfl
                have y6' := free_of_heap (k := 6) HF.out.st.rc
                have z7' := cell_of_heap HF.out.st.rc (k := 7) rfl
                have y7' := free_of_heap (k := 7) HF.out.st.rc
                have SK0 : (fun w' => w'.cell? ⟨xe, 0, none⟩ = some (.int .i64 x0) ∧ w'.cell? ⟨xe, 1, none⟩ = some (.int .i64 x1) ∧ w'.cell? ⟨xe, 2, none⟩ = some (.int .i64 x2) ∧ w'.cell? ⟨xe, 3, none⟩ = some (.int .i64 x3) ∧ w'.cell? ⟨xe, 4, none⟩ = some (.int .i64 x4) ∧ w'.cell? ⟨xe, 5, none⟩ = some (.int .u64 (x5 : Int)) ∧ w'.cell? ⟨xe, 6, none⟩ = some (.slice va vn vc) ∧ w'.cell? ⟨xe, 7, none⟩ = some (.slice pa pn pc) ∧ w'.cell? ⟨w.heap.size + 2, 0, none⟩ = some (.string (strB L)) ∧ w'.cell? ⟨w.heap.size + 2, 1, none⟩ = some (.int .i64 (j27 : Int)) ∧ w'.cell? ⟨w.heap.size + 2, 2, none⟩ = some (.bool b27)) (put8 WE w.heap.size (.int .i64 x0) (.int .i64 x1) (.int .i64 x2) (.int .i64 x3) (.int .i64 x4) (.int .u64 (x5 : Int)) (.slice va vn vc) (.slice pa pn pc)).drew := ⟨cell_of_heap (heap_drewQ.trans ((put8_other (by have := HF.out.xl; omega)).trans HF.out.ev)) rfl, cell_of_heap (heap_drewQ.trans ((put8_other (by have := HF.out.xl; omega)).trans HF.out.ev)) rfl, cell_of_heap (heap_drewQ.trans ((put8_other (by have := HF.out.xl; omega)).trans HF.out.ev)) rfl, cell_of_heap (heap_drewQ.trans ((put8_other (by have := HF.out.xl; omega)).trans HF.out.ev)) rfl, cell_of_heap (heap_drewQ.trans ((put8_other (by have := HF.out.xl; omega)).trans HF.out.ev)) rfl, cell_of_heap (heap_drewQ.trans ((put8_other (by have := HF.out.xl; omega)).trans HF.out.ev)) rfl, cell_of_heap (heap_drewQ.trans ((put8_other (by have := HF.out.xl; omega)).trans HF.out.ev)) rfl, cell_of_heap (heap_drewQ.trans ((put8_other (by have := HF.out.xl; omega)).trans HF.out.ev)) rfl, cell_of_heap (heap_drewQ.trans ((put8_other (by omega)).trans HF.out.st.rd)) rfl, cell_of_heap (heap_drewQ.trans ((put8_other (by omega)).trans HF.out.st.rd)) rfl, cell_of_heap (heap_drewQ.trans ((put8_other (by omega)).trans HF.out.st.rd)) rfl⟩
                unfold put8 at SK0
                have SK := Lib.hid SK0
                clear SK0
                refine wp_region_tail (S := (fun w' => w'.cell? ⟨xe, 0, none⟩ = some (.int .i64 x0) ∧ w'.cell? ⟨xe, 1, none⟩ = some (.int .i64 x1) ∧ w'.cell? ⟨xe, 2, none⟩ = some (.int .i64 x2) ∧ w'.cell? ⟨xe, 3, none⟩ = some (.int .i64 x3) ∧ w'.cell? ⟨xe, 4, none⟩ = some (.int .i64 x4) ∧ w'.cell? ⟨xe, 5, none⟩ = some (.int .u64 (x5 : Int)) ∧ w'.cell? ⟨xe, 6, none⟩ = some (.slice va vn vc) ∧ w'.cell? ⟨xe, 7, none⟩ = some (.slice pa pn pc) ∧ w'.cell? ⟨w.heap.size + 2, 0, none⟩ = some (.string (strB L)) ∧ w'.cell? ⟨w.heap.size + 2, 1, none⟩ = some (.int .i64 (j27 : Int)) ∧ w'.cell? ⟨w.heap.size + 2, 2, none⟩ = some (.bool b27))) 5 (by kernel_rfl) (by kernel_rfl) ?_ (fun hHeld => ?_)
                · first | with_reducible exact ⟨e0, e1, e2, e3, e4, e5, e6, e7, n0, n1, n2⟩ | go_keep
                simp only [List.take_succ_cons, List.take_zero]
                refine wpAnyH_take (i := 0) (oi := _) (v := ?zc0) rfl (by kernel_rfl) (by kernel_rfl) (by kernel_rfl) (fun _ _ _ h => h) (Or.inl ⟨by kernel_rfl, ?zcy0⟩) (by assumption) ?zcr0
                case zcy0 => (intro w hSw; (try dsimp only at hSw); go_simp <;> with_reducible rfl)
                try simp only [Act.put, List.getElem_toArray, List.getElem_cons_zero, List.getElem_cons_succ, List.setIfInBounds_toArray, List.set_cons_zero, List.set_cons_succ]
                refine wpAnyH_take (i := 1) (oi := _) (v := ?zc1) rfl (by kernel_rfl) (by kernel_rfl) (by kernel_rfl) (fun _ _ _ h => h) (Or.inl ⟨by kernel_rfl, ?zcy1⟩) (by assumption) ?zcr1
                case zcy1 => (intro w hSw; (try dsimp only at hSw); go_simp <;> with_reducible rfl)
                try simp only [Act.put, List.getElem_toArray, List.getElem_cons_zero, List.getElem_cons_succ, List.setIfInBounds_toArray, List.set_cons_zero, List.set_cons_succ]
                refine wpAnyH_take (i := 2) (oi := _) (v := ?zc2) rfl (by kernel_rfl) (by kernel_rfl) (by kernel_rfl) (fun _ _ _ h => h) (Or.inl ⟨by kernel_rfl, ?zcy2⟩) (by assumption) ?zcr2
                case zcy2 => (intro w hSw; (try dsimp only at hSw); go_simp <;> with_reducible rfl)
                try simp only [Act.put, List.getElem_toArray, List.getElem_cons_zero, List.getElem_cons_succ, List.setIfInBounds_toArray, List.set_cons_zero, List.set_cons_succ]
                refine wpAnyH_take (i := 3) (oi := _) (v := ?zc3) rfl (by kernel_rfl) (by kernel_rfl) (by kernel_rfl) (fun _ _ _ h => h) (Or.inl ⟨by kernel_rfl, ?zcy3⟩) (by assumption) ?zcr3
                case zcy3 => (intro w hSw; (try dsimp only at hSw); go_simp <;> with_reducible rfl)
                try simp only [Act.put, List.getElem_toArray, List.getElem_cons_zero, List.getElem_cons_succ, List.setIfInBounds_toArray, List.set_cons_zero, List.set_cons_succ]
                refine wpAnyH_ready (rs := [4]) (by kernel_rfl) (by simp) ?_
                refine AllReadyH.cons (o := _) rfl (fun K hK => ?_) AllReadyH.nil
                go_simp
                refine hK.out _ _ ?_ (fun hHeld4 => ?_)
                · first | with_reducible exact ⟨e0, e1, e2, e3, e4, e5, e6, e7, n0, n1, n2⟩ | exact SK.out | go_keep
                clear hK K hHeld
                try simp only [Act.put, List.getElem_toArray, List.getElem_cons_zero, List.getElem_cons_succ, List.setIfInBounds_toArray, List.set_cons_zero, List.set_cons_succ]
                refine wpAnyH_done (by kernel_rfl) ?_ _
                dsimp only [tailQ]
                simp only [List.drop_succ_cons, List.drop_zero, List.take_succ_cons, List.take_zero, List.getElem_cons_succ, List.getElem_cons_zero, List.set_cons_zero, List.set_cons_succ]
                clear SK
                clear z0' y0'
                clear z1' y1'
                clear z2' y2'
                clear z3' y3'
                clear z4' y4'
                clear z5' y5'
                clear z6' y6'
                clear z7' y7'
                obtain ⟨WP, hWP⟩ : ∃ WP, (put8 WE w.heap.size (.int .i64 x0) (.int .i64 x1) (.int .i64 x2) (.int .i64 x3) (.int .i64 x4) (.int .u64 (x5 : Int)) (.slice va vn vc) (.slice pa pn pc)).drew = WP := ⟨_, rfl⟩
                have HL8 : lnB WP (w.heap.size + 1) (⟨#[]⟩ : ByteArray) 0 false := by rw [← hWP]; exact heap_drewQ.trans ((put8_other (by omega)).trans HF.out.st.rl)
                have HWP := Lib.hid hWP
                unfold put8 at hWP
                rw [hWP]
                clear hWP
                have m0' := cell_of_heap HL8 (k := 0) rfl
                have o0' := free_of_heap (k := 0) HL8
                have m1' := cell_of_heap HL8 (k := 1) rfl
                have o1' := free_of_heap (k := 1) HL8
                have m2' := cell_of_heap HL8 (k := 2) rfl
                have o2' := free_of_heap (k := 2) HL8
                clear e0 e1 e2 e3 e4 e5 e6 e7 n0 n1 n2
                go_wp2_with fail
                suffices key : ∀ Wf, Wf = (put3 WP (w.heap.size + 1) (.string (strB L)) (.int .i64 (j27 : Int)) (.bool b27)) → bodyPost Try.prog Try.f13 (RefP L w) Exit.ret _ Wf from key _ rfl
                intro Wf hWf
                rw [← HWP.out] at hWf
                have O7w : Wf.ownsRow (xe + 1) 23 1 (.slice va vn vc) acc.length (acc.map (fun z : Nat => Value.int .u64 (z : Int))) := by rw [hWf]; exact put3_own (owns_drew (put8_own OF7.out (own_not OF7.out HF.out.st.rc (by decide)))) (own_not OF7.out HF.out.st.rl (by decide))
                have O8w : Wf.ownsRow (xe + 1) 3 1 (.slice pa pn pc) acc2.length (acc2.map (fun z : Int => Value.int .i64 z)) := by rw [hWf]; exact put3_own (owns_drew (put8_own OF8.out (own_not OF8.out HF.out.st.rc (by decide)))) (own_not OF8.out HF.out.st.rl (by decide))
                have hE : evB Wf w.heap.size (.int .i64 x0) (.int .i64 x1) (.int .i64 x2) (.int .i64 x3) (.int .i64 x4) (.int .u64 (x5 : Int)) (.slice va vn vc) (.slice pa pn pc) := by rw [hWf]; exact (put3_other (by omega)).trans (heap_drewQ.trans (put8_heap HF.out.st.rc))
                have hN : lnB Wf (w.heap.size + 1) (strB L) j27 b27 := by rw [hWf]; exact put3_lnU (heap_drewQ.trans ((put8_other (by omega)).trans HF.out.st.rl))
                have hBf : Below w.heap.size w Wf := by rw [hWf]; exact put3_below (below_drew (put8_below HF.out.st.bl (Nat.le_refl w.heap.size))) (Nat.le_succ w.heap.size)
                have k0' := cell_of_heap hE (k := 0) rfl
                have k1' := cell_of_heap hE (k := 1) rfl
                have k2' := cell_of_heap hE (k := 2) rfl
                have k3' := cell_of_heap hE (k := 3) rfl
                have k4' := cell_of_heap hE (k := 4) rfl
                have k5' := cell_of_heap hE (k := 5) rfl
                have k6' := cell_of_heap hE (k := 6) rfl
                have k7' := cell_of_heap hE (k := 7) rfl
                have t0' := cell_of_heap hN (k := 0) rfl
                have t1' := cell_of_heap hN (k := 1) rfl
                have t2' := cell_of_heap hN (k := 2) rfl
                refine bodyPost_ret (v := .tuple #[.agg #[.int .i64 x0, .int .i64 x1, .int .i64 x2, .int .i64 x3, .int .i64 x4, .int .u64 (x5 : Int), .slice va vn vc, .slice pa pn pc], .agg #[.string (strB L), .int .i64 (j27 : Int), .bool b27]]) (by simp [results, Try.results13, go_sem, k0', k1', k2', k3', k4', k5', k6', k7', t0', t1', t2']) rfl ?_
                obtain ⟨e7, g7, a1, a2, a3, a4, a5⟩ := row_parts O7w
                obtain ⟨e8, g8, d1, d2, d3, d4, d5⟩ := row_parts O8w
                unfold RefP
                rw [EX.out, EN.out, show (!okP L) = b27 by rw [HB.out]]
                dsimp only
                rw [HJL.out]
                refine ⟨hBf, ⟨va, g7, 0, vc, pa, g8, 0, pc⟩, by rw [e7, e8], a1, a3, a4, a5, d1, d3, d4, d5⟩
            | false =>
              cases bb with
              | true =>
                have HER8 : Hid (R8 = (acc2, (L.drop j, true))) := Lib.hid (by
                  rw [← hp.out]
                  cases f with
                  | zero => rfl
                  | succ f => rw [loopR, if_pos (Or.inr rfl)])
                clear h93 hp hfu
                have D270 : Hid (L.drop j = L.drop j) := Lib.hid rfl
                have hsg := HSGC.out 93 j true wr (by decide) hst.out.st.rd hj
                rw [D270.out] at hsg
                obtain ⟨q, hq⟩ : ∃ q, passP 93 ((L.drop j), true) = q := ⟨_, rfl⟩
                rw [hq] at hsg
                obtain ⟨l27, b27⟩ := q
                have Q27 := Lib.hid hq
                have HC := Lib.hid hsg
                clear hsg hq
                go_wp2_with fail
                refine HC.out.mono ?_
                rintro e w27 ⟨rfl, hb, j27, hj27, hr, hd⟩
                dsimp only at hr hd
                have H27 := Lib.hid (hst.out.call hb hr)
                have B27 := Lib.hid hb
                have D27 := Lib.hid hd
                clear hb hr hd HC
                have O7F := Lib.hid (B27.out.own h7o.out (by have := hst.out.xl; omega))
                have O8F := Lib.hid (B27.out.own hown.out (by have := hst.out.xl; omega))
                have E8 : Hid (s8R L = (acc2, (l27, b27))) := Lib.hid (by
                  unfold s8R
                  rw [E7.out]
                  dsimp only
                  rw [Q19.out]
                  unfold listR
                  rw [Q20.out]
                  dsimp only
                  rw [HR8.out, HER8.out]
                  dsimp only
                  rw [Q27.out])
                have EX : Hid (evR L = ⟨x0, x1, x2, x3, x4, x5, acc, acc2⟩) := Lib.hid (by
                  obtain ⟨y0, y1, y2, y3, y4⟩ := HXF.out
                  unfold evR
                  rw [y0, y1, y2, y3, y4, E6.out, E7.out, E8.out])
                have EN : Hid (endP L = (l27, b27)) := Lib.hid (by
                  have := (s8_eq L).1
                  rw [E8.out] at this
                  exact this.symm)
                have HJL : Hid (L.length - l27.length = j27) := Lib.hid (by rw [← D27.out, List.length_drop]; omega)
                have HLT : Hid ((0 < l27.length) ↔ j27 < L.length) := Lib.hid (by rw [← D27.out, List.length_drop]; omega)
                have q1 := cell_of_heap H27.out.st.rd (k := 1) rfl
                have q2 := cell_of_heap H27.out.st.rd (k := 2) rfl
                have p2 := free_of_heap (k := 2) H27.out.st.rd
                clear hst hown hlen z2 h7o
                by_cases hjl : j27 < L.length
                · have djl : j27 < (strB L).size := by rw [strB_size]; exact hjl
                  have HB : Hid (okP L = false) := Lib.hid (by unfold okP; rw [EN.out]; dsimp only; rw [decide_eq_true (HLT.out.2 hjl), Bool.or_true]; rfl)
                  have HG := Lib.hid (H27.out.setBad)
                  have O7G := Lib.hid (own_set (b := w.heap.size + 2) (k := 2) (u := .bool true) O7F.out (own_not O7F.out H27.out.st.rd (by decide)))
                  have O8G := Lib.hid (own_set (b := w.heap.size + 2) (k := 2) (u := .bool true) O8F.out (own_not O8F.out H27.out.st.rd (by decide)))
                  clear hjl
                  go_upto_region 30 with fail
                  obtain ⟨WE, hWE⟩ : ∃ WE, (w27.setCell ⟨w.heap.size + 2, 2, none⟩ (.bool true)) = WE := ⟨_, rfl⟩
                  have HF := HG
                  have OF7 := O7G
                  have OF8 := O8G
                  try rw [hWE] at HF OF7 OF8
                  try rw [hWE]
                  clear hWE
                  have e0 : WE.cell? ⟨xe, 0, none⟩ = some (.int .i64 x0) := cell_of_heap HF.out.ev (k := 0) rfl
                  have e1 : WE.cell? ⟨xe, 1, none⟩ = some (.int .i64 x1) := cell_of_heap HF.out.ev (k := 1) rfl
                  have e2 : WE.cell? ⟨xe, 2, none⟩ = some (.int .i64 x2) := cell_of_heap HF.out.ev (k := 2) rfl
                  have e3 : WE.cell? ⟨xe, 3, none⟩ = some (.int .i64 x3) := cell_of_heap HF.out.ev (k := 3) rfl
                  have e4 : WE.cell? ⟨xe, 4, none⟩ = some (.int .i64 x4) := cell_of_heap HF.out.ev (k := 4) rfl
                  have e5 : WE.cell? ⟨xe, 5, none⟩ = some (.int .u64 (x5 : Int)) := cell_of_heap HF.out.ev (k := 5) rfl
                  have e6 : WE.cell? ⟨xe, 6, none⟩ = some (.slice va vn vc) := cell_of_heap HF.out.ev (k := 6) rfl
                  have e7 : WE.cell? ⟨xe, 7, none⟩ = some (.slice pa pn pc) := cell_of_heap HF.out.ev (k := 7) rfl
                  have n0 : WE.cell? ⟨w.heap.size + 2, 0, none⟩ = some (.string (strB L)) := cell_of_heap HF.out.st.rd (k := 0) rfl
                  have n1 : WE.cell? ⟨w.heap.size + 2, 1, none⟩ = some (.int .i64 (j27 : Int)) := cell_of_heap HF.out.st.rd (k := 1) rfl
                  have n2 : WE.cell? ⟨w.heap.size + 2, 2, none⟩ = some (.bool true) := cell_of_heap HF.out.st.rd (k := 2) rfl
                  have z0' := cell_of_heap HF.out.st.rc (k := 0) rfl
                  have y0' := free_of_heap (k := 0) HF.out.st.rc
                  have z1' := cell_of_heap HF.out.st.rc (k := 1) rfl
                  have y1' := free_of_heap (k := 1) HF.out.st.rc
                  have z2' := cell_of_heap HF.out.st.rc (k := 2) rfl
                  have y2' := free_of_heap (k := 2) HF.out.st.rc
                  have z3' := cell_of_heap HF.out.st.rc (k := 3) rfl
                  have y3' := free_of_heap (k := 3) HF.out.st.rc
                  have z4' := cell_of_heap HF.out.st.rc (k := 4) rfl
                  have y4' := free_of_heap (k := 4) HF.out.st.rc
                  have z5' := cell_of_heap HF.out.st.rc (k := 5) rfl
                  have y5' := free_of_heap (k := 5) HF.out.st.rc
                  have z6' := cell_of_heap HF.out.st.rc (k := 6) rfl
                  have y6' := free_of_heap (k := 6) HF.out.st.rc
                  have z7' := cell_of_heap HF.out.st.rc (k := 7) rfl
                  have y7' := free_of_heap (k := 7) HF.out.st.rc
                  have SK0 : (fun w' => w'.cell? ⟨xe, 0, none⟩ = some (.int .i64 x0) ∧ w'.cell? ⟨xe, 1, none⟩ = some (.int .i64 x1) ∧ w'.cell? ⟨xe, 2, none⟩ = some (.int .i64 x2) ∧ w'.cell? ⟨xe, 3, none⟩ = some (.int .i64 x3) ∧ w'.cell? ⟨xe, 4, none⟩ = some (.int .i64 x4) ∧ w'.cell? ⟨xe, 5, none⟩ = some (.int .u64 (x5 : Int)) ∧ w'.cell? ⟨xe, 6, none⟩ = some (.slice va vn vc) ∧ w'.cell? ⟨xe, 7, none⟩ = some (.slice pa pn pc) ∧ w'.cell? ⟨w.heap.size + 2, 0, none⟩ = some (.string (strB L)) ∧ w'.cell? ⟨w.heap.size + 2, 1, none⟩ = some (.int .i64 (j27 : Int)) ∧ w'.cell? ⟨w.heap.size + 2, 2, none⟩ = some (.bool true)) (put8 WE w.heap.size (.int .i64 x0) (.int .i64 x1) (.int .i64 x2) (.int .i64 x3) (.int .i64 x4) (.int .u64 (x5 : Int)) (.slice va vn vc) (.slice pa pn pc)).drew := ⟨cell_of_heap (heap_drewQ.trans ((put8_other (by have := HF.out.xl; omega)).trans HF.out.ev)) rfl, cell_of_heap (heap_drewQ.trans ((put8_other (by have := HF.out.xl; omega)).trans HF.out.ev)) rfl, cell_of_heap (heap_drewQ.trans ((put8_other (by have := HF.out.xl; omega)).trans HF.out.ev)) rfl, cell_of_heap (heap_drewQ.trans ((put8_other (by have := HF.out.xl; omega)).trans HF.out.ev)) rfl, cell_of_heap (heap_drewQ.trans ((put8_other (by have := HF.out.xl; omega)).trans HF.out.ev)) rfl, cell_of_heap (heap_drewQ.trans ((put8_other (by have := HF.out.xl; omega)).trans HF.out.ev)) rfl, cell_of_heap (heap_drewQ.trans ((put8_other (by have := HF.out.xl; omega)).trans HF.out.ev)) rfl, cell_of_heap (heap_drewQ.trans ((put8_other (by have := HF.out.xl; omega)).trans HF.out.ev)) rfl, cell_of_heap (heap_drewQ.trans ((put8_other (by omega)).trans HF.out.st.rd)) rfl, cell_of_heap (heap_drewQ.trans ((put8_other (by omega)).trans HF.out.st.rd)) rfl, cell_of_heap (heap_drewQ.trans ((put8_other (by omega)).trans HF.out.st.rd)) rfl⟩
                  unfold put8 at SK0
                  have SK := Lib.hid SK0
                  clear SK0
                  refine wp_region_tail (S := (fun w' => w'.cell? ⟨xe, 0, none⟩ = some (.int .i64 x0) ∧ w'.cell? ⟨xe, 1, none⟩ = some (.int .i64 x1) ∧ w'.cell? ⟨xe, 2, none⟩ = some (.int .i64 x2) ∧ w'.cell? ⟨xe, 3, none⟩ = some (.int .i64 x3) ∧ w'.cell? ⟨xe, 4, none⟩ = some (.int .i64 x4) ∧ w'.cell? ⟨xe, 5, none⟩ = some (.int .u64 (x5 : Int)) ∧ w'.cell? ⟨xe, 6, none⟩ = some (.slice va vn vc) ∧ w'.cell? ⟨xe, 7, none⟩ = some (.slice pa pn pc) ∧ w'.cell? ⟨w.heap.size + 2, 0, none⟩ = some (.string (strB L)) ∧ w'.cell? ⟨w.heap.size + 2, 1, none⟩ = some (.int .i64 (j27 : Int)) ∧ w'.cell? ⟨w.heap.size + 2, 2, none⟩ = some (.bool true))) 5 (by kernel_rfl) (by kernel_rfl) ?_ (fun hHeld => ?_)
                  · first | with_reducible exact ⟨e0, e1, e2, e3, e4, e5, e6, e7, n0, n1, n2⟩ | go_keep
                  simp only [List.take_succ_cons, List.take_zero]
                  refine wpAnyH_take (i := 0) (oi := _) (v := ?zd0) rfl (by kernel_rfl) (by kernel_rfl) (by kernel_rfl) (fun _ _ _ h => h) (Or.inl ⟨by kernel_rfl, ?zdy0⟩) (by assumption) ?zdr0
                  case zdy0 => (intro w hSw; (try dsimp only at hSw); go_simp <;> with_reducible rfl)
                  try simp only [Act.put, List.getElem_toArray, List.getElem_cons_zero, List.getElem_cons_succ, List.setIfInBounds_toArray, List.set_cons_zero, List.set_cons_succ]
                  refine wpAnyH_take (i := 1) (oi := _) (v := ?zd1) rfl (by kernel_rfl) (by kernel_rfl) (by kernel_rfl) (fun _ _ _ h => h) (Or.inl ⟨by kernel_rfl, ?zdy1⟩) (by assumption) ?zdr1
                  case zdy1 => (intro w hSw; (try dsimp only at hSw); go_simp <;> with_reducible rfl)
                  try simp only [Act.put, List.getElem_toArray, List.getElem_cons_zero, List.getElem_cons_succ, List.setIfInBounds_toArray, List.set_cons_zero, List.set_cons_succ]
                  refine wpAnyH_take (i := 2) (oi := _) (v := ?zd2) rfl (by kernel_rfl) (by kernel_rfl) (by kernel_rfl) (fun _ _ _ h => h) (Or.inl ⟨by kernel_rfl, ?zdy2⟩) (by assumption) ?zdr2
                  case zdy2 => (intro w hSw; (try dsimp only at hSw); go_simp <;> with_reducible rfl)
                  try simp only [Act.put, List.getElem_toArray, List.getElem_cons_zero, List.getElem_cons_succ, List.setIfInBounds_toArray, List.set_cons_zero, List.set_cons_succ]
                  refine wpAnyH_take (i := 3) (oi := _) (v := ?zd3) rfl (by kernel_rfl) (by kernel_rfl) (by kernel_rfl) (fun _ _ _ h => h) (Or.inl ⟨by kernel_rfl, ?zdy3⟩) (by assumption) ?zdr3
                  case zdy3 => (intro w hSw; (try dsimp only at hSw); go_simp <;> with_reducible rfl)
                  try simp only [Act.put, List.getElem_toArray, List.getElem_cons_zero, List.getElem_cons_succ, List.setIfInBounds_toArray, List.set_cons_zero, List.set_cons_succ]
                  refine wpAnyH_ready (rs := [4]) (by kernel_rfl) (by simp) ?_
                  refine AllReadyH.cons (o := _) rfl (fun K hK => ?_) AllReadyH.nil
                  go_simp
                  refine hK.out _ _ ?_ (fun hHeld4 => ?_)
                  · first | with_reducible exact ⟨e0, e1, e2, e3, e4, e5, e6, e7, n0, n1, n2⟩ | exact SK.out | go_keep
                  clear hK K hHeld
                  try simp only [Act.put, List.getElem_toArray, List.getElem_cons_zero, List.getElem_cons_succ, List.setIfInBounds_toArray, List.set_cons_zero, List.set_cons_succ]
                  refine wpAnyH_done (by kernel_rfl) ?_ _
                  dsimp only [tailQ]
                  simp only [List.drop_succ_cons, List.drop_zero, List.take_succ_cons, List.take_zero, List.getElem_cons_succ, List.getElem_cons_zero, List.set_cons_zero, List.set_cons_succ]
                  clear SK
                  clear z0' y0'
                  clear z1' y1'
                  clear z2' y2'
                  clear z3' y3'
                  clear z4' y4'
                  clear z5' y5'
                  clear z6' y6'
                  clear z7' y7'
                  obtain ⟨WP, hWP⟩ : ∃ WP, (put8 WE w.heap.size (.int .i64 x0) (.int .i64 x1) (.int .i64 x2) (.int .i64 x3) (.int .i64 x4) (.int .u64 (x5 : Int)) (.slice va vn vc) (.slice pa pn pc)).drew = WP := ⟨_, rfl⟩
                  have HL8 : lnB WP (w.heap.size + 1) (⟨#[]⟩ : ByteArray) 0 false := by rw [← hWP]; exact heap_drewQ.trans ((put8_other (by omega)).trans HF.out.st.rl)
                  have HWP := Lib.hid hWP
                  unfold put8 at hWP
                  rw [hWP]
                  clear hWP
                  have m0' := cell_of_heap HL8 (k := 0) rfl
                  have o0' := free_of_heap (k := 0) HL8
                  have m1' := cell_of_heap HL8 (k := 1) rfl
                  have o1' := free_of_heap (k := 1) HL8
                  have m2' := cell_of_heap HL8 (k := 2) rfl
                  have o2' := free_of_heap (k := 2) HL8
                  clear e0 e1 e2 e3 e4 e5 e6 e7 n0 n1 n2
                  go_wp2_with fail
                  suffices key : ∀ Wf, Wf = (put3 WP (w.heap.size + 1) (.string (strB L)) (.int .i64 (j27 : Int)) (.bool true)) → bodyPost Try.prog Try.f13 (RefP L w) Exit.ret _ Wf from key _ rfl
                  intro Wf hWf
                  rw [← HWP.out] at hWf
                  have O7w : Wf.ownsRow (xe + 1) 23 1 (.slice va vn vc) acc.length (acc.map (fun z : Nat => Value.int .u64 (z : Int))) := by rw [hWf]; exact put3_own (owns_drew (put8_own OF7.out (own_not OF7.out HF.out.st.rc (by decide)))) (own_not OF7.out HF.out.st.rl (by decide))
                  have O8w : Wf.ownsRow (xe + 1) 3 1 (.slice pa pn pc) acc2.length (acc2.map (fun z : Int => Value.int .i64 z)) := by rw [hWf]; exact put3_own (owns_drew (put8_own OF8.out (own_not OF8.out HF.out.st.rc (by decide)))) (own_not OF8.out HF.out.st.rl (by decide))
                  have hE : evB Wf w.heap.size (.int .i64 x0) (.int .i64 x1) (.int .i64 x2) (.int .i64 x3) (.int .i64 x4) (.int .u64 (x5 : Int)) (.slice va vn vc) (.slice pa pn pc) := by rw [hWf]; exact (put3_other (by omega)).trans (heap_drewQ.trans (put8_heap HF.out.st.rc))
                  have hN : lnB Wf (w.heap.size + 1) (strB L) j27 true := by rw [hWf]; exact put3_lnU (heap_drewQ.trans ((put8_other (by omega)).trans HF.out.st.rl))
                  have hBf : Below w.heap.size w Wf := by rw [hWf]; exact put3_below (below_drew (put8_below HF.out.st.bl (Nat.le_refl w.heap.size))) (Nat.le_succ w.heap.size)
                  have k0' := cell_of_heap hE (k := 0) rfl
                  have k1' := cell_of_heap hE (k := 1) rfl
                  have k2' := cell_of_heap hE (k := 2) rfl
                  have k3' := cell_of_heap hE (k := 3) rfl
                  have k4' := cell_of_heap hE (k := 4) rfl
                  have k5' := cell_of_heap hE (k := 5) rfl
                  have k6' := cell_of_heap hE (k := 6) rfl
                  have k7' := cell_of_heap hE (k := 7) rfl
                  have t0' := cell_of_heap hN (k := 0) rfl
                  have t1' := cell_of_heap hN (k := 1) rfl
                  have t2' := cell_of_heap hN (k := 2) rfl
                  refine bodyPost_ret (v := .tuple #[.agg #[.int .i64 x0, .int .i64 x1, .int .i64 x2, .int .i64 x3, .int .i64 x4, .int .u64 (x5 : Int), .slice va vn vc, .slice pa pn pc], .agg #[.string (strB L), .int .i64 (j27 : Int), .bool true]]) (by simp [results, Try.results13, go_sem, k0', k1', k2', k3', k4', k5', k6', k7', t0', t1', t2']) rfl ?_
                  obtain ⟨e7, g7, a1, a2, a3, a4, a5⟩ := row_parts O7w
                  obtain ⟨e8, g8, d1, d2, d3, d4, d5⟩ := row_parts O8w
                  unfold RefP
                  rw [EX.out, EN.out, show (!okP L) = true by rw [HB.out]; rfl]
                  dsimp only
                  rw [HJL.out]
                  refine ⟨hBf, ⟨va, g7, 0, vc, pa, g8, 0, pc⟩, by rw [e7, e8], a1, a3, a4, a5, d1, d3, d4, d5⟩
                · have djl : ¬ j27 < (strB L).size := by rw [strB_size]; exact hjl
                  have HB : Hid ((!okP L) = b27) := Lib.hid (by unfold okP; rw [EN.out]; dsimp only; rw [decide_eq_false (fun h => hjl (HLT.out.1 h)), Bool.or_false, Bool.not_not])
                  clear hjl
                  go_upto_region 30 with fail
                  obtain ⟨WE, hWE⟩ : ∃ WE, w27 = WE := ⟨_, rfl⟩
                  have HF := H27
                  have OF7 := O7F
                  have OF8 := O8F
                  try rw [hWE] at HF OF7 OF8
                  try rw [hWE]
                  clear hWE
                  have e0 : WE.cell? ⟨xe, 0, none⟩ = some (.int .i64 x0) := cell_of_heap HF.out.ev (k := 0) rfl
                  have e1 : WE.cell? ⟨xe, 1, none⟩ = some (.int .i64 x1) := cell_of_heap HF.out.ev (k := 1) rfl
                  have e2 : WE.cell? ⟨xe, 2, none⟩ = some (.int .i64 x2) := cell_of_heap HF.out.ev (k := 2) rfl
                  have e3 : WE.cell? ⟨xe, 3, none⟩ = some (.int .i64 x3) := cell_of_heap HF.out.ev (k := 3) rfl
                  have e4 : WE.cell? ⟨xe, 4, none⟩ = some (.int .i64 x4) := cell_of_heap HF.out.ev (k := 4) rfl
                  have e5 : WE.cell? ⟨xe, 5, none⟩ = some (.int .u64 (x5 : Int)) := cell_of_heap HF.out.ev (k := 5) rfl
                  have e6 : WE.cell? ⟨xe, 6, none⟩ = some (.slice va vn vc) := cell_of_heap HF.out.ev (k := 6) rfl
                  have e7 : WE.cell? ⟨xe, 7, none⟩ = some (.slice pa pn pc) := cell_of_heap HF.out.ev (k := 7) rfl
                  have n0 : WE.cell? ⟨w.heap.size + 2, 0, none⟩ = some (.string (strB L)) := cell_of_heap HF.out.st.rd (k := 0) rfl
                  have n1 : WE.cell? ⟨w.heap.size + 2, 1, none⟩ = some (.int .i64 (j27 : Int)) := cell_of_heap HF.out.st.rd (k := 1) rfl
                  have n2 : WE.cell? ⟨w.heap.size + 2, 2, none⟩ = some (.bool b27) := cell_of_heap HF.out.st.rd (k := 2) rfl
                  have z0' := cell_of_heap HF.out.st.rc (k := 0) rfl
                  have y0' := free_of_heap (k := 0) HF.out.st.rc
                  have z1' := cell_of_heap HF.out.st.rc (k := 1) rfl
                  have y1' := free_of_heap (k := 1) HF.out.st.rc
                  have z2' := cell_of_heap HF.out.st.rc (k := 2) rfl
                  have y2' := free_of_heap (k := 2) HF.out.st.rc
                  have z3' := cell_of_heap HF.out.st.rc (k := 3) rfl
                  have y3' := free_of_heap (k := 3) HF.out.st.rc
                  have z4' := cell_of_heap HF.out.st.rc (k := 4) rfl
                  have y4' := free_of_heap (k := 4) HF.out.st.rc
                  have z5' := cell_of_heap HF.out.st.rc (k := 5) rfl
                  have y5' := free_of_heap (k := 5) HF.out.st.rc
                  have z6' := cell_of_heap HF.out.st.rc (k := 6) rfl
                  have y6' := free_of_heap (k := 6) HF.out.st.rc
                  have z7' := cell_of_heap HF.out.st.rc (k := 7) rfl
                  have y7' := free_of_heap (k := 7) HF.out.st.rc
                  have SK0 : (fun w' => w'.cell? ⟨xe, 0, none⟩ = some (.int .i64 x0) ∧ w'.cell? ⟨xe, 1, none⟩ = some (.int .i64 x1) ∧ w'.cell? ⟨xe, 2, none⟩ = some (.int .i64 x2) ∧ w'.cell? ⟨xe, 3, none⟩ = some (.int .i64 x3) ∧ w'.cell? ⟨xe, 4, none⟩ = some (.int .i64 x4) ∧ w'.cell? ⟨xe, 5, none⟩ = some (.int .u64 (x5 : Int)) ∧ w'.cell? ⟨xe, 6, none⟩ = some (.slice va vn vc) ∧ w'.cell? ⟨xe, 7, none⟩ = some (.slice pa pn pc) ∧ w'.cell? ⟨w.heap.size + 2, 0, none⟩ = some (.string (strB L)) ∧ w'.cell? ⟨w.heap.size + 2, 1, none⟩ = some (.int .i64 (j27 : Int)) ∧ w'.cell? ⟨w.heap.size + 2, 2, none⟩ = some (.bool b27)) (put8 WE w.heap.size (.int .i64 x0) (.int .i64 x1) (.int .i64 x2) (.int .i64 x3) (.int .i64 x4) (.int .u64 (x5 : Int)) (.slice va vn vc) (.slice pa pn pc)).drew := ⟨cell_of_heap (heap_drewQ.trans ((put8_other (by have := HF.out.xl; omega)).trans HF.out.ev)) rfl, cell_of_heap (heap_drewQ.trans ((put8_other (by have := HF.out.xl; omega)).trans HF.out.ev)) rfl, cell_of_heap (heap_drewQ.trans ((put8_other (by have := HF.out.xl; omega)).trans HF.out.ev)) rfl, cell_of_heap (heap_drewQ.trans ((put8_other (by have := HF.out.xl; omega)).trans HF.out.ev)) rfl, cell_of_heap (heap_drewQ.trans ((put8_other (by have := HF.out.xl; omega)).trans HF.out.ev)) rfl, cell_of_heap (heap_drewQ.trans ((put8_other (by have := HF.out.xl; omega)).trans HF.out.ev)) rfl, cell_of_heap (heap_drewQ.trans ((put8_other (by have := HF.out.xl; omega)).trans HF.out.ev)) rfl, cell_of_heap (heap_drewQ.trans ((put8_other (by have := HF.out.xl; omega)).trans HF.out.ev)) rfl, cell_of_heap (heap_drewQ.trans ((put8_other (by omega)).trans HF.out.st.rd)) rfl, cell_of_heap (heap_drewQ.trans ((put8_other (by omega)).trans HF.out.st.rd)) rfl, cell_of_heap (heap_drewQ.trans ((put8_other (by omega)).trans HF.out.st.rd)) rfl⟩
                  unfold put8 at SK0
                  have SK := Lib.hid SK0
                  clear SK0
                  refine wp_region_tail (S := (fun w' => w'.cell? ⟨xe, 0, none⟩ = some (.int .i64 x0) ∧ w'.cell? ⟨xe, 1, none⟩ = some (.int .i64 x1) ∧ w'.cell? ⟨xe, 2, none⟩ = some (.int .i64 x2) ∧ w'.cell? ⟨xe, 3, none⟩ = some (.int .i64 x3) ∧ w'.cell? ⟨xe, 4, none⟩ = some (.int .i64 x4) ∧ w'.cell? ⟨xe, 5, none⟩ = some (.int .u64 (x5 : Int)) ∧ w'.cell? ⟨xe, 6, none⟩ = some (.slice va vn vc) ∧ w'.cell? ⟨xe, 7, none⟩ = some (.slice pa pn pc) ∧ w'.cell? ⟨w.heap.size + 2, 0, none⟩ = some (.string (strB L)) ∧ w'.cell? ⟨w.heap.size + 2, 1, none⟩ = some (.int .i64 (j27 : Int)) ∧ w'.cell? ⟨w.heap.size + 2, 2, none⟩ = some (.bool b27))) 5 (by kernel_rfl) (by kernel_rfl) ?_ (fun hHeld => ?_)
                  · first | with_reducible exact ⟨e0, e1, e2, e3, e4, e5, e6, e7, n0, n1, n2⟩ | go_keep
                  simp only [List.take_succ_cons, List.take_zero]
                  refine wpAnyH_take (i := 0) (oi := _) (v := ?ze0) rfl (by kernel_rfl) (by kernel_rfl) (by kernel_rfl) (fun _ _ _ h => h) (Or.inl ⟨by kernel_rfl, ?zey0⟩) (by assumption) ?zer0
                  case zey0 => (intro w hSw; (try dsimp only at hSw); go_simp <;> with_reducible rfl)
                  try simp only [Act.put, List.getElem_toArray, List.getElem_cons_zero, List.getElem_cons_succ, List.setIfInBounds_toArray, List.set_cons_zero, List.set_cons_succ]
                  refine wpAnyH_take (i := 1) (oi := _) (v := ?ze1) rfl (by kernel_rfl) (by kernel_rfl) (by kernel_rfl) (fun _ _ _ h => h) (Or.inl ⟨by kernel_rfl, ?zey1⟩) (by assumption) ?zer1
                  case zey1 => (intro w hSw; (try dsimp only at hSw); go_simp <;> with_reducible rfl)
                  try simp only [Act.put, List.getElem_toArray, List.getElem_cons_zero, List.getElem_cons_succ, List.setIfInBounds_toArray, List.set_cons_zero, List.set_cons_succ]
                  refine wpAnyH_take (i := 2) (oi := _) (v := ?ze2) rfl (by kernel_rfl) (by kernel_rfl) (by kernel_rfl) (fun _ _ _ h => h) (Or.inl ⟨by kernel_rfl, ?zey2⟩) (by assumption) ?zer2
                  case zey2 => (intro w hSw; (try dsimp only at hSw); go_simp <;> with_reducible rfl)
                  try simp only [Act.put, List.getElem_toArray, List.getElem_cons_zero, List.getElem_cons_succ, List.setIfInBounds_toArray, List.set_cons_zero, List.set_cons_succ]
                  refine wpAnyH_take (i := 3) (oi := _) (v := ?ze3) rfl (by kernel_rfl) (by kernel_rfl) (by kernel_rfl) (fun _ _ _ h => h) (Or.inl ⟨by kernel_rfl, ?zey3⟩) (by assumption) ?zer3
                  case zey3 => (intro w hSw; (try dsimp only at hSw); go_simp <;> with_reducible rfl)
                  try simp only [Act.put, List.getElem_toArray, List.getElem_cons_zero, List.getElem_cons_succ, List.setIfInBounds_toArray, List.set_cons_zero, List.set_cons_succ]
                  refine wpAnyH_ready (rs := [4]) (by kernel_rfl) (by simp) ?_
                  refine AllReadyH.cons (o := _) rfl (fun K hK => ?_) AllReadyH.nil
                  go_simp
                  refine hK.out _ _ ?_ (fun hHeld4 => ?_)
                  · first | with_reducible exact ⟨e0, e1, e2, e3, e4, e5, e6, e7, n0, n1, n2⟩ | exact SK.out | go_keep
                  clear hK K hHeld
                  try simp only [Act.put, List.getElem_toArray, List.getElem_cons_zero, List.getElem_cons_succ, List.setIfInBounds_toArray, List.set_cons_zero, List.set_cons_succ]
                  refine wpAnyH_done (by kernel_rfl) ?_ _
                  dsimp only [tailQ]
                  simp only [List.drop_succ_cons, List.drop_zero, List.take_succ_cons, List.take_zero, List.getElem_cons_succ, List.getElem_cons_zero, List.set_cons_zero, List.set_cons_succ]
                  clear SK
                  clear z0' y0'
                  clear z1' y1'
                  clear z2' y2'
                  clear z3' y3'
                  clear z4' y4'
                  clear z5' y5'
                  clear z6' y6'
                  clear z7' y7'
                  obtain ⟨WP, hWP⟩ : ∃ WP, (put8 WE w.heap.size (.int .i64 x0) (.int .i64 x1) (.int .i64 x2) (.int .i64 x3) (.int .i64 x4) (.int .u64 (x5 : Int)) (.slice va vn vc) (.slice pa pn pc)).drew = WP := ⟨_, rfl⟩
                  have HL8 : lnB WP (w.heap.size + 1) (⟨#[]⟩ : ByteArray) 0 false := by rw [← hWP]; exact heap_drewQ.trans ((put8_other (by omega)).trans HF.out.st.rl)
                  have HWP := Lib.hid hWP
                  unfold put8 at hWP
                  rw [hWP]
                  clear hWP
                  have m0' := cell_of_heap HL8 (k := 0) rfl
                  have o0' := free_of_heap (k := 0) HL8
                  have m1' := cell_of_heap HL8 (k := 1) rfl
                  have o1' := free_of_heap (k := 1) HL8
                  have m2' := cell_of_heap HL8 (k := 2) rfl
                  have o2' := free_of_heap (k := 2) HL8
                  clear e0 e1 e2 e3 e4 e5 e6 e7 n0 n1 n2
                  go_wp2_with fail
                  suffices key : ∀ Wf, Wf = (put3 WP (w.heap.size + 1) (.string (strB L)) (.int .i64 (j27 : Int)) (.bool b27)) → bodyPost Try.prog Try.f13 (RefP L w) Exit.ret _ Wf from key _ rfl
                  intro Wf hWf
                  rw [← HWP.out] at hWf
                  have O7w : Wf.ownsRow (xe + 1) 23 1 (.slice va vn vc) acc.length (acc.map (fun z : Nat => Value.int .u64 (z : Int))) := by rw [hWf]; exact put3_own (owns_drew (put8_own OF7.out (own_not OF7.out HF.out.st.rc (by decide)))) (own_not OF7.out HF.out.st.rl (by decide))
                  have O8w : Wf.ownsRow (xe + 1) 3 1 (.slice pa pn pc) acc2.length (acc2.map (fun z : Int => Value.int .i64 z)) := by rw [hWf]; exact put3_own (owns_drew (put8_own OF8.out (own_not OF8.out HF.out.st.rc (by decide)))) (own_not OF8.out HF.out.st.rl (by decide))
                  have hE : evB Wf w.heap.size (.int .i64 x0) (.int .i64 x1) (.int .i64 x2) (.int .i64 x3) (.int .i64 x4) (.int .u64 (x5 : Int)) (.slice va vn vc) (.slice pa pn pc) := by rw [hWf]; exact (put3_other (by omega)).trans (heap_drewQ.trans (put8_heap HF.out.st.rc))
                  have hN : lnB Wf (w.heap.size + 1) (strB L) j27 b27 := by rw [hWf]; exact put3_lnU (heap_drewQ.trans ((put8_other (by omega)).trans HF.out.st.rl))
                  have hBf : Below w.heap.size w Wf := by rw [hWf]; exact put3_below (below_drew (put8_below HF.out.st.bl (Nat.le_refl w.heap.size))) (Nat.le_succ w.heap.size)
                  have k0' := cell_of_heap hE (k := 0) rfl
                  have k1' := cell_of_heap hE (k := 1) rfl
                  have k2' := cell_of_heap hE (k := 2) rfl
                  have k3' := cell_of_heap hE (k := 3) rfl
                  have k4' := cell_of_heap hE (k := 4) rfl
                  have k5' := cell_of_heap hE (k := 5) rfl
                  have k6' := cell_of_heap hE (k := 6) rfl
                  have k7' := cell_of_heap hE (k := 7) rfl
                  have t0' := cell_of_heap hN (k := 0) rfl
                  have t1' := cell_of_heap hN (k := 1) rfl
                  have t2' := cell_of_heap hN (k := 2) rfl
                  refine bodyPost_ret (v := .tuple #[.agg #[.int .i64 x0, .int .i64 x1, .int .i64 x2, .int .i64 x3, .int .i64 x4, .int .u64 (x5 : Int), .slice va vn vc, .slice pa pn pc], .agg #[.string (strB L), .int .i64 (j27 : Int), .bool b27]]) (by simp [results, Try.results13, go_sem, k0', k1', k2', k3', k4', k5', k6', k7', t0', t1', t2']) rfl ?_
                  obtain ⟨e7, g7, a1, a2, a3, a4, a5⟩ := row_parts O7w
                  obtain ⟨e8, g8, d1, d2, d3, d4, d5⟩ := row_parts O8w
                  unfold RefP
                  rw [EX.out, EN.out, show (!okP L) = b27 by rw [HB.out]]
                  dsimp only
                  rw [HJL.out]
                  refine ⟨hBf, ⟨va, g7, 0, vc, pa, g8, 0, pc⟩, by rw [e7, e8], a1, a3, a4, a5, d1, d3, d4, d5⟩
              | false =>
                obtain ⟨g, rfl⟩ : ∃ g, f = g + 1 := by
                  rcases hfu.out with h | h
                  · cases h
                  · exact ⟨f - 1, by omega⟩
                have HFU : Hid ((L.drop j).length < g + 1) := Lib.hid (by
                  rcases hfu.out with h | h
                  · cases h
                  · exact h)
                have hp2 := hp.out
                rw [loopR, if_neg (by rw [h93]; simp)] at hp2
                have HP2 := Lib.hid hp2
                have g1 := cell_of_heap hst.out.ev (k := 7) rfl
                have hvn : pn = acc2.length := (row_parts hown.out).1
                clear h93 hp hfu hp2
                by_cases hacc : 0 < acc2.length
                · have dl : (0 : Int) < (pn : Int) := by omega
                  have HSEP : Hid (sepR acc2 (L.drop j, false) = passP 32 (L.drop j, false)) := Lib.hid (by unfold sepR; rw [if_pos hacc])
                  clear hacc hvn
                  have DS0 : Hid (L.drop j = L.drop j) := Lib.hid rfl
                  have hsg := HSGC.out 32 j false wr (by decide) hst.out.st.rd hj
                  rw [DS0.out] at hsg
                  obtain ⟨q, hq⟩ : ∃ q, passP 32 ((L.drop j), false) = q := ⟨_, rfl⟩
                  rw [hq] at hsg
                  obtain ⟨lS, bS⟩ := q
                  have QS := Lib.hid hq
                  have HC := Lib.hid hsg
                  clear hsg hq
                  go_wp2_with fail
                  refine HC.out.mono ?_
                  rintro e wS ⟨rfl, hb, jS, hjS, hr, hd⟩
                  dsimp only at hr hd
                  have HS := Lib.hid (hst.out.call hb hr)
                  have BS := Lib.hid hb
                  have DS := Lib.hid hd
                  clear hb hr hd HC
                  have HPS : Hid (sepR acc2 (L.drop j, false) = (lS, bS)) := Lib.hid (by rw [HSEP.out, QS.out])
                  have HOS := Lib.hid (BS.out.own hown.out (by have := hst.out.xl; omega))
                  have H7S := Lib.hid (BS.out.own h7o.out (by have := hst.out.xl; omega))
                  have hnx := HRI.out jS bS wS.drew HS.out.drew.st.rd hjS
                  rw [DS.out] at hnx
                  obtain ⟨q, hq⟩ : ∃ q, intR (lS, bS) = q := ⟨_, rfl⟩
                  have hless := intR_ok.less lS
                  have hlen3 := intR_len (lS, bS)
                  rw [hq] at hnx
                  obtain ⟨x, l3, b3⟩ := q
                  have Q3 := Lib.hid hq
                  have HCN := Lib.hid hnx
                  have g1 := cell_of_heap HS.out.ev (k := 7) rfl
                  clear hnx hq hless hlen3
                  go_upto_region 26 with fail
                  refine wp_region_tail (S := (fun w' => w'.cell? ⟨xe, 7, none⟩ = some (.slice pa pn pc))) 7 (by kernel_rfl) (by kernel_rfl) ?_ (fun hHeld => ?_)
                  · first | with_reducible exact g1 | go_keep
                  simp only [List.take_succ_cons, List.take_zero]
                  refine wpAnyH_take (i := 0) (oi := _) (v := ?vb0) rfl (by kernel_rfl) (by kernel_rfl) (by kernel_rfl) (fun _ _ _ h => h) (Or.inl ⟨by kernel_rfl, ?vby0⟩) (by assumption) ?vbr0
                  case vby0 => (intro w hSw; (try dsimp only at hSw); go_simp <;> with_reducible rfl)
                  try simp only [Act.put, List.getElem_toArray, List.getElem_cons_zero, List.getElem_cons_succ, List.setIfInBounds_toArray, List.set_cons_zero, List.set_cons_succ]
                  refine wpAnyH_take (i := 1) (oi := _) (v := ?vb1) rfl (by kernel_rfl) (by kernel_rfl) (by kernel_rfl) (fun _ _ _ h => h) (Or.inl ⟨by kernel_rfl, ?vby1⟩) (by assumption) ?vbr1
                  case vby1 => (intro w hSw; (try dsimp only at hSw); go_simp <;> with_reducible rfl)
                  try simp only [Act.put, List.getElem_toArray, List.getElem_cons_zero, List.getElem_cons_succ, List.setIfInBounds_toArray, List.set_cons_zero, List.set_cons_succ]
                  refine wpAnyH_take (i := 2) (oi := _) (v := ?vb2) rfl (by kernel_rfl) (by kernel_rfl) (by kernel_rfl) (fun _ _ _ h => h) (Or.inl ⟨by kernel_rfl, ?vby2⟩) (by assumption) ?vbr2
                  case vby2 => (intro w hSw; (try dsimp only at hSw); go_simp <;> with_reducible rfl)
                  try simp only [Act.put, List.getElem_toArray, List.getElem_cons_zero, List.getElem_cons_succ, List.setIfInBounds_toArray, List.set_cons_zero, List.set_cons_succ]
                  refine wpAnyH_ready (rs := [3]) (by kernel_rfl) (by simp) ?_
                  refine AllReadyH.cons (o := _) rfl (fun K hK => ?_) AllReadyH.nil
                  go_simp
                  go_at_call 24
                  (with_reducible refine HCN.out.mono ?_)
                  rintro e w5 ⟨rfl, hb, j5, hj5, hr, hd⟩
                  dsimp only at hr hd
                  have H5 := Lib.hid (HS.out.drew.call hb hr)
                  have O5 := Lib.hid (hb.own (owns_below HOS.out (below_drew (Below.refl _ _))) (by have := HS.out.xl; omega))
                  have D5 := Lib.hid hd
                  have O75 := Lib.hid (hb.own (owns_below H7S.out (below_drew (Below.refl _ _))) (by have := H5.out.xl; omega))
                  have g2 := cell_of_heap H5.out.ev (k := 7) rfl
                  clear hb hr hd g1
                  have g1 := g2
                  clear g2
                  refine hK.out _ _ ?_ (fun hHeld3 => ?_)
                  · first | with_reducible exact g1 | go_keep
                  clear hK K hHeld
                  try simp only [Act.put, List.getElem_toArray, List.getElem_cons_zero, List.getElem_cons_succ, List.setIfInBounds_toArray, List.set_cons_zero, List.set_cons_succ]
                  obtain ⟨MM, hMM⟩ : ∃ M, acc2.map (fun z : Int => Value.int .i64 z) = M := ⟨_, rfl⟩
                  have HMM := Lib.hid hMM
                  have hvl := (row_parts O5.out).1
                  have HVL := Lib.hid hvl
                  have HVN : Hid (pn ≤ 4294967296) := Lib.hid (by have := hlen.out; omega)
                  have o5 := O5.out
                  rw [hMM, ← hvl] at o5
                  have O5' := Lib.hid o5
                  clear hMM hvl o5
                  refine wpAnyH_ready (rs := [4]) (by kernel_rfl) (by simp) ?_
                  refine AllReadyH.cons (o := _) rfl (fun K hK => ?_) AllReadyH.nil
                  go_simp
                  have u1 := (World.cell?_alloc_past (w := w5) (.cells #[.int .i64 x] 3) _ _ (World.block_lt_of_cell? w5 _ g1)).trans g1
                  refine hK.out _ _ ?_ (fun hHeld4 => ?_)
                  · first | with_reducible exact g1 | exact u1 | go_keep
                  clear hK K hHeld3
                  try simp only [Act.put, List.getElem_toArray, List.getElem_cons_zero, List.getElem_cons_succ, List.setIfInBounds_toArray, List.set_cons_zero, List.set_cons_succ]
                  refine wpAnyH_ready (rs := [5]) (by kernel_rfl) (by simp) ?_
                  refine AllReadyH.cons (o := _) rfl (fun K hK => ?_) AllReadyH.nil
                  refine step_append_own _ _ 27 rfl (xe + 1) 3 iI (.int .i64 0) 1 8 Try.underlying27 ia ib ic id rfl (by decide) (by decide) _ pn MM rfl O5'.out [.int .i64 x] rfl rfl rfl HVN.out (by have := H5.out.lt; omega) ?_
                  intro v6 w6 ho6 hb6 hk6
                  obtain ⟨wa, wn, wc, rfl⟩ := isSlice_of ho6
                  have H6 := Lib.hid (H5.out.grow hb6)
                  have O6 : Hid (w6.ownsRow (xe + 1) 3 1 (.slice wa wn wc) (acc2 ++ [x]).length ((acc2 ++ [x]).map (fun z : Int => Value.int .i64 z))) := Lib.hid (by
                    rw [List.map_append, HMM.out, List.length_append, ← HVL.out]
                    exact ho6)
                  have O76 := Lib.hid (hk6.row O75.out (by decide))
                  have k1 := cell_of_heap H6.out.ev (k := 7) rfl
                  clear ho6 hb6 hk6 u1 g1
                  have g1 := k1
                  clear k1
                  refine hK.out _ _ ?_ (fun hHeld5 => ?_)
                  · first | with_reducible exact g1 | go_keep
                  clear hK K hHeld4
                  try simp only [Act.put, List.getElem_toArray, List.getElem_cons_zero, List.getElem_cons_succ, List.setIfInBounds_toArray, List.set_cons_zero, List.set_cons_succ]
                  refine wpAnyH_take (i := 6) (oi := _) (v := ?tvb6) rfl (by kernel_rfl) (by kernel_rfl) (by kernel_rfl) (fun _ _ _ h => h) (Or.inl ⟨by kernel_rfl, ?tvby6⟩) (by assumption) ?tvbr6
                  case tvby6 => (intro w hSw; (try dsimp only at hSw); go_simp <;> with_reducible rfl)
                  try simp only [Act.put, List.getElem_toArray, List.getElem_cons_zero, List.getElem_cons_succ, List.setIfInBounds_toArray, List.set_cons_zero, List.set_cons_succ]
                  refine wpAnyH_done (by kernel_rfl) ?_ _
                  dsimp only [tailQ]
                  simp only [List.drop_succ_cons, List.drop_zero, List.take_succ_cons, List.take_zero, List.getElem_cons_succ, List.getElem_cons_zero, List.set_cons_zero, List.set_cons_succ]
                  have y6 := free_of_heap (k := 7) H6.out.ev
                  have H7 := Lib.hid (H6.out.set7 (.slice wa wn wc))
                  have O7 := Lib.hid (own_set (b := xe) (k := 7) (u := .slice wa wn wc) O6.out (own_not O6.out H6.out.ev (by decide)))
                  have O77 := Lib.hid (own_set (b := xe) (k := 7) (u := .slice wa wn wc) O76.out (own_not O76.out H6.out.ev (by decide)))
                  have his := HISC.out j5 b3 (w6.setCell ⟨xe, 7, none⟩ (.slice wa wn wc)) H7.out.st.rd hj5
                  have HC := Lib.hid his
                  clear his
                  go_wp2_with fail
                  refine HC.out.mono ?_
                  rintro e wi ⟨rfl, ki, rfl⟩
                  have H8' := Lib.hid (H7.out.drewN ki)
                  have O8' := Lib.hid (owns_drewN O7.out ki)
                  have O78 := Lib.hid (owns_drewN O77.out ki)
                  have HGO : Hid ((b3 = true ∨ j < j5) ∧ j ≤ j5) := Lib.hid (by
                    have h1 := intR_ok.go intR_len Q3.out
                    have h2 : (lS).length ≤ (L.drop j).length := by first | exact Nat.le_refl _ | (have := pass_le 32 (L.drop j, false); rw [QS.out] at this; exact this)
                    have h3 := D5.out
                    rw [← h3] at h1
                    simp only [List.length_drop] at h1 h2
                    exact ⟨h1.1.imp (fun h => h) (fun h => by omega), by omega⟩)
                  have HLP : Hid (loopR intR g (acc2 ++ [x]) (L.drop j5, b3) = R8) := Lib.hid (by
                    have := HP2.out
                    rw [HPS.out, Q3.out] at this
                    rw [D5.out]
                    exact this)
                  go_wp2_with fail
                  go_roundw
                  case rel => exact ⟨g, j5, b3, wa, wn, wc, acc2 ++ [x], rfl, hj5, Lib.hid (by have := hlen.out; simp; omega), H8', O8', Lib.hid (by
                    have h1 := HGO.out.1
                    have h2 := HFU.out
                    simp only [List.length_drop] at h2 ⊢
                    exact h1.imp (fun h => h) (fun h => by omega)), O78, HLP⟩
                  case measure =>
                    have h1 := H8'.out.st.rd.atOf
                    have h2 := H8'.out.st.rd.stOf
                    have h3 := hst.out.st.rd.atOf
                    have h4 := hst.out.st.rd.stOf
                    have h5 := HGO.out
                    rw [if_neg (by simp)] at h4
                    rw [h1, h2, h3, h4]
                    cases hb : b3 with
                    | true => simp; omega
                    | false =>
                      have : j < j5 := by
                        rcases h5.1 with h | h
                        · rw [hb] at h; cases h
                        · exact h
                      simp; omega
                · have dl : ¬ (0 : Int) < (pn : Int) := by omega
                  have HPS : Hid (sepR acc2 (L.drop j, false) = (L.drop j, false)) := Lib.hid (by unfold sepR; rw [if_neg hacc])
                  have D0 : Hid (L.drop j = L.drop j) := Lib.hid rfl
                  clear hacc hvn
                  have hnx := HRI.out j false wr.drew hst.out.drew.st.rd hj
                  rw [D0.out] at hnx
                  obtain ⟨q, hq⟩ : ∃ q, intR ((L.drop j), false) = q := ⟨_, rfl⟩
                  have hless := intR_ok.less (L.drop j)
                  have hlen3 := intR_len ((L.drop j), false)
                  rw [hq] at hnx
                  obtain ⟨x, l3, b3⟩ := q
                  have Q3 := Lib.hid hq
                  have HCN := Lib.hid hnx
                  have g1 := cell_of_heap hst.out.ev (k := 7) rfl
                  clear hnx hq hless hlen3
                  go_upto_region 26 with fail
                  refine wp_region_tail (S := (fun w' => w'.cell? ⟨xe, 7, none⟩ = some (.slice pa pn pc))) 7 (by kernel_rfl) (by kernel_rfl) ?_ (fun hHeld => ?_)
                  · first | with_reducible exact g1 | go_keep
                  simp only [List.take_succ_cons, List.take_zero]
                  refine wpAnyH_take (i := 0) (oi := _) (v := ?vc0) rfl (by kernel_rfl) (by kernel_rfl) (by kernel_rfl) (fun _ _ _ h => h) (Or.inl ⟨by kernel_rfl, ?vcy0⟩) (by assumption) ?vcr0
                  case vcy0 => (intro w hSw; (try dsimp only at hSw); go_simp <;> with_reducible rfl)
                  try simp only [Act.put, List.getElem_toArray, List.getElem_cons_zero, List.getElem_cons_succ, List.setIfInBounds_toArray, List.set_cons_zero, List.set_cons_succ]
                  refine wpAnyH_take (i := 1) (oi := _) (v := ?vc1) rfl (by kernel_rfl) (by kernel_rfl) (by kernel_rfl) (fun _ _ _ h => h) (Or.inl ⟨by kernel_rfl, ?vcy1⟩) (by assumption) ?vcr1
                  case vcy1 => (intro w hSw; (try dsimp only at hSw); go_simp <;> with_reducible rfl)
                  try simp only [Act.put, List.getElem_toArray, List.getElem_cons_zero, List.getElem_cons_succ, List.setIfInBounds_toArray, List.set_cons_zero, List.set_cons_succ]
                  refine wpAnyH_take (i := 2) (oi := _) (v := ?vc2) rfl (by kernel_rfl) (by kernel_rfl) (by kernel_rfl) (fun _ _ _ h => h) (Or.inl ⟨by kernel_rfl, ?vcy2⟩) (by assumption) ?vcr2
                  case vcy2 => (intro w hSw; (try dsimp only at hSw); go_simp <;> with_reducible rfl)
                  try simp only [Act.put, List.getElem_toArray, List.getElem_cons_zero, List.getElem_cons_succ, List.setIfInBounds_toArray, List.set_cons_zero, List.set_cons_succ]
                  refine wpAnyH_ready (rs := [3]) (by kernel_rfl) (by simp) ?_
                  refine AllReadyH.cons (o := _) rfl (fun K hK => ?_) AllReadyH.nil
                  go_simp
                  go_at_call 24
                  (with_reducible refine HCN.out.mono ?_)
                  rintro e w5 ⟨rfl, hb, j5, hj5, hr, hd⟩
                  dsimp only at hr hd
                  have H5 := Lib.hid (hst.out.drew.call hb hr)
                  have O5 := Lib.hid (hb.own (owns_below hown.out (below_drew (Below.refl _ _))) (by have := hst.out.xl; omega))
                  have D5 := Lib.hid hd
                  have O75 := Lib.hid (hb.own (owns_below h7o.out (below_drew (Below.refl _ _))) (by have := H5.out.xl; omega))
                  have g2 := cell_of_heap H5.out.ev (k := 7) rfl
                  clear hb hr hd g1
                  have g1 := g2
                  clear g2
                  refine hK.out _ _ ?_ (fun hHeld3 => ?_)
                  · first | with_reducible exact g1 | go_keep
                  clear hK K hHeld
                  try simp only [Act.put, List.getElem_toArray, List.getElem_cons_zero, List.getElem_cons_succ, List.setIfInBounds_toArray, List.set_cons_zero, List.set_cons_succ]
                  obtain ⟨MM, hMM⟩ : ∃ M, acc2.map (fun z : Int => Value.int .i64 z) = M := ⟨_, rfl⟩
                  have HMM := Lib.hid hMM
                  have hvl := (row_parts O5.out).1
                  have HVL := Lib.hid hvl
                  have HVN : Hid (pn ≤ 4294967296) := Lib.hid (by have := hlen.out; omega)
                  have o5 := O5.out
                  rw [hMM, ← hvl] at o5
                  have O5' := Lib.hid o5
                  clear hMM hvl o5
                  refine wpAnyH_ready (rs := [4]) (by kernel_rfl) (by simp) ?_
                  refine AllReadyH.cons (o := _) rfl (fun K hK => ?_) AllReadyH.nil
                  go_simp
                  have u1 := (World.cell?_alloc_past (w := w5) (.cells #[.int .i64 x] 3) _ _ (World.block_lt_of_cell? w5 _ g1)).trans g1
                  refine hK.out _ _ ?_ (fun hHeld4 => ?_)
                  · first | with_reducible exact g1 | exact u1 | go_keep
                  clear hK K hHeld3
                  try simp only [Act.put, List.getElem_toArray, List.getElem_cons_zero, List.getElem_cons_succ, List.setIfInBounds_toArray, List.set_cons_zero, List.set_cons_succ]
                  refine wpAnyH_ready (rs := [5]) (by kernel_rfl) (by simp) ?_
                  refine AllReadyH.cons (o := _) rfl (fun K hK => ?_) AllReadyH.nil
                  refine step_append_own _ _ 27 rfl (xe + 1) 3 iI (.int .i64 0) 1 8 Try.underlying27 ia ib ic id rfl (by decide) (by decide) _ pn MM rfl O5'.out [.int .i64 x] rfl rfl rfl HVN.out (by have := H5.out.lt; omega) ?_
                  intro v6 w6 ho6 hb6 hk6
                  obtain ⟨wa, wn, wc, rfl⟩ := isSlice_of ho6
                  have H6 := Lib.hid (H5.out.grow hb6)
                  have O6 : Hid (w6.ownsRow (xe + 1) 3 1 (.slice wa wn wc) (acc2 ++ [x]).length ((acc2 ++ [x]).map (fun z : Int => Value.int .i64 z))) := Lib.hid (by
                    rw [List.map_append, HMM.out, List.length_append, ← HVL.out]
                    exact ho6)
                  have O76 := Lib.hid (hk6.row O75.out (by decide))
                  have k1 := cell_of_heap H6.out.ev (k := 7) rfl
                  clear ho6 hb6 hk6 u1 g1
                  have g1 := k1
                  clear k1
                  refine hK.out _ _ ?_ (fun hHeld5 => ?_)
                  · first | with_reducible exact g1 | go_keep
                  clear hK K hHeld4
                  try simp only [Act.put, List.getElem_toArray, List.getElem_cons_zero, List.getElem_cons_succ, List.setIfInBounds_toArray, List.set_cons_zero, List.set_cons_succ]
                  refine wpAnyH_take (i := 6) (oi := _) (v := ?tvc6) rfl (by kernel_rfl) (by kernel_rfl) (by kernel_rfl) (fun _ _ _ h => h) (Or.inl ⟨by kernel_rfl, ?tvcy6⟩) (by assumption) ?tvcr6
                  case tvcy6 => (intro w hSw; (try dsimp only at hSw); go_simp <;> with_reducible rfl)
                  try simp only [Act.put, List.getElem_toArray, List.getElem_cons_zero, List.getElem_cons_succ, List.setIfInBounds_toArray, List.set_cons_zero, List.set_cons_succ]
                  refine wpAnyH_done (by kernel_rfl) ?_ _
                  dsimp only [tailQ]
                  simp only [List.drop_succ_cons, List.drop_zero, List.take_succ_cons, List.take_zero, List.getElem_cons_succ, List.getElem_cons_zero, List.set_cons_zero, List.set_cons_succ]
                  have y6 := free_of_heap (k := 7) H6.out.ev
                  have H7 := Lib.hid (H6.out.set7 (.slice wa wn wc))
                  have O7 := Lib.hid (own_set (b := xe) (k := 7) (u := .slice wa wn wc) O6.out (own_not O6.out H6.out.ev (by decide)))
                  have O77 := Lib.hid (own_set (b := xe) (k := 7) (u := .slice wa wn wc) O76.out (own_not O76.out H6.out.ev (by decide)))
                  have his := HISC.out j5 b3 (w6.setCell ⟨xe, 7, none⟩ (.slice wa wn wc)) H7.out.st.rd hj5
                  have HC := Lib.hid his
                  clear his
                  go_wp2_with fail
                  refine HC.out.mono ?_
                  rintro e wi ⟨rfl, ki, rfl⟩
                  have H8' := Lib.hid (H7.out.drewN ki)
                  have O8' := Lib.hid (owns_drewN O7.out ki)
                  have O78 := Lib.hid (owns_drewN O77.out ki)
                  have HGO : Hid ((b3 = true ∨ j < j5) ∧ j ≤ j5) := Lib.hid (by
                    have h1 := intR_ok.go intR_len Q3.out
                    have h2 : ((L.drop j)).length ≤ (L.drop j).length := by first | exact Nat.le_refl _ | (have := pass_le 32 (L.drop j, false); rw [QS.out] at this; exact this)
                    have h3 := D5.out
                    rw [← h3] at h1
                    simp only [List.length_drop] at h1 h2
                    exact ⟨h1.1.imp (fun h => h) (fun h => by omega), by omega⟩)
                  have HLP : Hid (loopR intR g (acc2 ++ [x]) (L.drop j5, b3) = R8) := Lib.hid (by
                    have := HP2.out
                    rw [HPS.out, Q3.out] at this
                    rw [D5.out]
                    exact this)
                  go_wp2_with fail
                  go_roundw
                  case rel => exact ⟨g, j5, b3, wa, wn, wc, acc2 ++ [x], rfl, hj5, Lib.hid (by have := hlen.out; simp; omega), H8', O8', Lib.hid (by
                    have h1 := HGO.out.1
                    have h2 := HFU.out
                    simp only [List.length_drop] at h2 ⊢
                    exact h1.imp (fun h => h) (fun h => by omega)), O78, HLP⟩
                  case measure =>
                    have h1 := H8'.out.st.rd.atOf
                    have h2 := H8'.out.st.rd.stOf
                    have h3 := hst.out.st.rd.atOf
                    have h4 := hst.out.st.rd.stOf
                    have h5 := HGO.out
                    rw [if_neg (by simp)] at h4
                    rw [h1, h2, h3, h4]
                    cases hb : b3 with
                    | true => simp; omega
                    | false =>
                      have : j < j5 := by
                        rcases h5.1 with h | h
                        · rw [hb] at h; cases h
                        · exact h
                      simp; omega
        | false =>
          cases bb with
          | true =>
            have HER7 : Hid (R7 = (acc, (L.drop j, true))) := Lib.hid (by
              rw [← hp.out]
              cases f with
              | zero => rfl
              | succ f => rw [loopR, if_pos (Or.inr rfl)])
            clear h93 hp hfu
            have D180 : Hid (L.drop j = L.drop j) := Lib.hid rfl
            have hsg := HSGC.out 93 j true wr (by decide) hst.out.st.rd hj
            rw [D180.out] at hsg
            obtain ⟨q, hq⟩ : ∃ q, passP 93 ((L.drop j), true) = q := ⟨_, rfl⟩
            rw [hq] at hsg
            obtain ⟨l18, b18⟩ := q
            have Q18 := Lib.hid hq
            have HC := Lib.hid hsg
            clear hsg hq
            go_wp2_with fail
            refine HC.out.mono ?_
            rintro e w18 ⟨rfl, hb, j18, hj18, hr, hd⟩
            dsimp only at hr hd
            have H18 := Lib.hid (hst.out.call hb hr)
            have B18 := Lib.hid hb
            have D18 := Lib.hid hd
            clear hb hr hd HC
            have E7 : Hid (s7R L = (acc, (l18, b18))) := Lib.hid (by
              unfold s7R
              rw [E6.out]
              dsimp only
              rw [Q10.out]
              unfold listR
              rw [Q11.out]
              dsimp only
              rw [HR7.out, HER7.out]
              dsimp only
              rw [Q18.out])
            have O18 := Lib.hid (B18.out.own hown.out (by have := hst.out.xl; omega))
            have D190 := D18
            have hsg := HSGC.out 32 j18 b18 w18 (by decide) H18.out.st.rd hj18
            rw [D190.out] at hsg
            obtain ⟨q, hq⟩ : ∃ q, passP 32 (l18, b18) = q := ⟨_, rfl⟩
            rw [hq] at hsg
            obtain ⟨l19, b19⟩ := q
            have Q19 := Lib.hid hq
            have HC := Lib.hid hsg
            clear hsg hq
            go_wp2_with fail
            refine HC.out.mono ?_
            rintro e w19 ⟨rfl, hb, j19, hj19, hr, hd⟩
            dsimp only at hr hd
            have H19 := Lib.hid (H18.out.call hb hr)
            have B19 := Lib.hid hb
            have D19 := Lib.hid hd
            clear hb hr hd HC
            have O19 := Lib.hid (B19.out.own O18.out (by have := H18.out.xl; omega))
            have D200 := D19
            have hsg := HSGC.out 91 j19 b19 w19 (by decide) H19.out.st.rd hj19
            rw [D200.out] at hsg
            obtain ⟨q, hq⟩ : ∃ q, passP 91 (l19, b19) = q := ⟨_, rfl⟩
            rw [hq] at hsg
            obtain ⟨l20, b20⟩ := q
            have Q20 := Lib.hid hq
            have HC := Lib.hid hsg
            clear hsg hq
            go_wp2_with fail
            refine HC.out.mono ?_
            rintro e w20 ⟨rfl, hb, j20, hj20, hr, hd⟩
            dsimp only at hr hd
            have H20 := Lib.hid (H19.out.call hb hr)
            have B20 := Lib.hid hb
            have D20 := Lib.hid hd
            clear hb hr hd HC
            have O20 := Lib.hid (B20.out.own O19.out (by have := H19.out.xl; omega))
            clear hst hown hlen z2
            obtain ⟨R8, hR8⟩ : ∃ R, loopR intR (l20.length + 1) [] (l20, b20) = R := ⟨_, rfl⟩
            have HR8 := Lib.hid hR8
            clear hR8
            have hl0 : l20.length ≤ L.length := by rw [← D20.out, List.length_drop]; omega
            have HL0 := Lib.hid hl0
            have his := HISC.out j20 b20 w20 H20.out.st.rd hj20
            rw [D20.out] at his
            obtain ⟨ag, hag⟩ : ∃ ag, isC 93 (l20, b20) = ag := ⟨_, rfl⟩
            rw [hag] at his
            have HAG := Lib.hid hag
            have HC := Lib.hid his
            clear his hag hl0
            go_wp2_with fail
            refine HC.out.mono ?_
            rintro e wi ⟨rfl, ki, rfl⟩
            have HI0 := Lib.hid (H20.out.drewN ki)
            have OI7 := Lib.hid (owns_drewN O20.out ki)
            generalize World.drewN w20 ki = wi at HI0 OI7 ⊢
            clear HC
            go_wp2_with fail
            go_loopw [8] (fun u wr => ∃ (f j : Nat) (bb : Bool) (pa : Option Addr) (pn pc : Nat) (acc2 : List Int), u = .bool (!isC 93 (L.drop j, bb)) ∧ j ≤ L.length ∧ Hid (acc2.length + f ≤ L.length + 1) ∧ Hid (RgS w L xe x0 x1 x2 x3 x4 (.int .u64 (x5 : Int)) (.slice va vn vc) (.slice pa pn pc) wr j bb) ∧ Hid (wr.ownsRow (xe + 1) 3 1 (.slice pa pn pc) acc2.length (acc2.map (fun z : Int => Value.int .i64 z))) ∧ Hid (bb = true ∨ (L.drop j).length < f) ∧ Hid (wr.ownsRow (xe + 1) 23 1 (.slice va vn vc) acc.length (acc.map (fun z : Nat => Value.int .u64 (z : Int)))) ∧ Hid (loopR intR f acc2 (L.drop j, bb) = R8)) (fun _ wr => 2 * (L.length - atOf (w.heap.size + 2) wr) + stOf (w.heap.size + 2) wr)
            case atStart => exact ⟨l20.length + 1, j20, b20, none, 0, 0, [], by rw [D20.out, HAG.out], hj20, Lib.hid (by have := HL0.out; simp; omega), HI0, Lib.hid ⟨rfl, .inl ⟨rfl, rfl⟩⟩, Lib.hid (Or.inr (by rw [D20.out]; omega)), OI7, Lib.hid (by rw [D20.out]; exact HR8.out)⟩
            case round =>
              obtain ⟨f, j, bb, pa, pn, pc, acc2, rfl, hj, hlen, hst, hown, hfu, h7o, hp⟩ := hrel
              have z2 := cell_of_heap hst.out.st.rd (k := 2) rfl
              cases h93 : isC 93 (L.drop j, bb) with
              | true =>
                have HER8 : Hid (R8 = (acc2, (L.drop j, bb))) := Lib.hid (by rw [← hp.out]; exact loopR_stop h93 f acc2)
                clear h93 hp hfu
                have D270 : Hid (L.drop j = L.drop j) := Lib.hid rfl
                have hsg := HSGC.out 93 j bb wr (by decide) hst.out.st.rd hj
                rw [D270.out] at hsg
                obtain ⟨q, hq⟩ : ∃ q, passP 93 ((L.drop j), bb) = q := ⟨_, rfl⟩
                rw [hq] at hsg
                obtain ⟨l27, b27⟩ := q
                have Q27 := Lib.hid hq
                have HC := Lib.hid hsg
                clear hsg hq
                go_wp2_with fail
                refine HC.out.mono ?_
                rintro e w27 ⟨rfl, hb, j27, hj27, hr, hd⟩
                dsimp only at hr hd
                have H27 := Lib.hid (hst.out.call hb hr)
                have B27 := Lib.hid hb
                have D27 := Lib.hid hd
                clear hb hr hd HC
                have O7F := Lib.hid (B27.out.own h7o.out (by have := hst.out.xl; omega))
                have O8F := Lib.hid (B27.out.own hown.out (by have := hst.out.xl; omega))
                have E8 : Hid (s8R L = (acc2, (l27, b27))) := Lib.hid (by
                  unfold s8R
                  rw [E7.out]
                  dsimp only
                  rw [Q19.out]
                  unfold listR
                  rw [Q20.out]
                  dsimp only
                  rw [HR8.out, HER8.out]
                  dsimp only
                  rw [Q27.out])
                have EX : Hid (evR L = ⟨x0, x1, x2, x3, x4, x5, acc, acc2⟩) := Lib.hid (by
                  obtain ⟨y0, y1, y2, y3, y4⟩ := HXF.out
                  unfold evR
                  rw [y0, y1, y2, y3, y4, E6.out, E7.out, E8.out])
                have EN : Hid (endP L = (l27, b27)) := Lib.hid (by
                  have := (s8_eq L).1
                  rw [E8.out] at this
                  exact this.symm)
                have HJL : Hid (L.length - l27.length = j27) := Lib.hid (by rw [← D27.out, List.length_drop]; omega)
                have HLT : Hid ((0 < l27.length) ↔ j27 < L.length) := Lib.hid (by rw [← D27.out, List.length_drop]; omega)
                have q1 := cell_of_heap H27.out.st.rd (k := 1) rfl
                have q2 := cell_of_heap H27.out.st.rd (k := 2) rfl
                have p2 := free_of_heap (k := 2) H27.out.st.rd
                clear hst hown hlen z2 h7o
                by_cases hjl : j27 < L.length
                · have djl : j27 < (strB L).size := by rw [strB_size]; exact hjl
                  have HB : Hid (okP L = false) := Lib.hid (by unfold okP; rw [EN.out]; dsimp only; rw [decide_eq_true (HLT.out.2 hjl), Bool.or_true]; rfl)
                  have HG := Lib.hid (H27.out.setBad)
                  have O7G := Lib.hid (own_set (b := w.heap.size + 2) (k := 2) (u := .bool true) O7F.out (own_not O7F.out H27.out.st.rd (by decide)))
                  have O8G := Lib.hid (own_set (b := w.heap.size + 2) (k := 2) (u := .bool true) O8F.out (own_not O8F.out H27.out.st.rd (by decide)))
                  clear hjl
                  go_upto_region 30 with fail
                  obtain ⟨WE, hWE⟩ : ∃ WE, (w27.setCell ⟨w.heap.size + 2, 2, none⟩ (.bool true)) = WE := ⟨_, rfl⟩
                  have HF := HG
                  have OF7 := O7G
                  have OF8 := O8G
                  try rw [hWE] at HF OF7 OF8
                  try rw [hWE]
                  clear hWE
                  have e0 : WE.cell? ⟨xe, 0, none⟩ = some (.int .i64 x0) := cell_of_heap HF.out.ev (k := 0) rfl
                  have e1 : WE.cell? ⟨xe, 1, none⟩ = some (.int .i64 x1) := cell_of_heap HF.out.ev (k := 1) rfl
                  have e2 : WE.cell? ⟨xe, 2, none⟩ = some (.int .i64 x2) := cell_of_heap HF.out.ev (k := 2) rfl
                  have e3 : WE.cell? ⟨xe, 3, none⟩ = some (.int .i64 x3) := cell_of_heap HF.out.ev (k := 3) rfl
                  have e4 : WE.cell? ⟨xe, 4, none⟩ = some (.int .i64 x4) := cell_of_heap HF.out.ev (k := 4) rfl
                  have e5 : WE.cell? ⟨xe, 5, none⟩ = some (.int .u64 (x5 : Int)) := cell_of_heap HF.out.ev (k := 5) rfl
                  have e6 : WE.cell? ⟨xe, 6, none⟩ = some (.slice va vn vc) := cell_of_heap HF.out.ev (k := 6) rfl
                  have e7 : WE.cell? ⟨xe, 7, none⟩ = some (.slice pa pn pc) := cell_of_heap HF.out.ev (k := 7) rfl
                  have n0 : WE.cell? ⟨w.heap.size + 2, 0, none⟩ = some (.string (strB L)) := cell_of_heap HF.out.st.rd (k := 0) rfl
                  have n1 : WE.cell? ⟨w.heap.size + 2, 1, none⟩ = some (.int .i64 (j27 : Int)) := cell_of_heap HF.out.st.rd (k := 1) rfl
                  have n2 : WE.cell? ⟨w.heap.size + 2, 2, none⟩ = some (.bool true) := cell_of_heap HF.out.st.rd (k := 2) rfl
                  have z0' := cell_of_heap HF.out.st.rc (k := 0) rfl
                  have y0' := free_of_heap (k := 0) HF.out.st.rc
                  have z1' := cell_of_heap HF.out.st.rc (k := 1) rfl
                  have y1' := free_of_heap (k := 1) HF.out.st.rc
                  have z2' := cell_of_heap HF.out.st.rc (k := 2) rfl
                  have y2' := free_of_heap (k := 2) HF.out.st.rc
                  have z3' := cell_of_heap HF.out.st.rc (k := 3) rfl
                  have y3' := free_of_heap (k := 3) HF.out.st.rc
                  have z4' := cell_of_heap HF.out.st.rc (k := 4) rfl
                  have y4' := free_of_heap (k := 4) HF.out.st.rc
                  have z5' := cell_of_heap HF.out.st.rc (k := 5) rfl
                  have y5' := free_of_heap (k := 5) HF.out.st.rc
                  have z6' := cell_of_heap HF.out.st.rc (k := 6) rfl
                  have y6' := free_of_heap (k := 6) HF.out.st.rc
                  have z7' := cell_of_heap HF.out.st.rc (k := 7) rfl
                  have y7' := free_of_heap (k := 7) HF.out.st.rc
                  have SK0 : (fun w' => w'.cell? ⟨xe, 0, none⟩ = some (.int .i64 x0) ∧ w'.cell? ⟨xe, 1, none⟩ = some (.int .i64 x1) ∧ w'.cell? ⟨xe, 2, none⟩ = some (.int .i64 x2) ∧ w'.cell? ⟨xe, 3, none⟩ = some (.int .i64 x3) ∧ w'.cell? ⟨xe, 4, none⟩ = some (.int .i64 x4) ∧ w'.cell? ⟨xe, 5, none⟩ = some (.int .u64 (x5 : Int)) ∧ w'.cell? ⟨xe, 6, none⟩ = some (.slice va vn vc) ∧ w'.cell? ⟨xe, 7, none⟩ = some (.slice pa pn pc) ∧ w'.cell? ⟨w.heap.size + 2, 0, none⟩ = some (.string (strB L)) ∧ w'.cell? ⟨w.heap.size + 2, 1, none⟩ = some (.int .i64 (j27 : Int)) ∧ w'.cell? ⟨w.heap.size + 2, 2, none⟩ = some (.bool true)) (put8 WE w.heap.size (.int .i64 x0) (.int .i64 x1) (.int .i64 x2) (.int .i64 x3) (.int .i64 x4) (.int .u64 (x5 : Int)) (.slice va vn vc) (.slice pa pn pc)).drew := ⟨cell_of_heap (heap_drewQ.trans ((put8_other (by have := HF.out.xl; omega)).trans HF.out.ev)) rfl, cell_of_heap (heap_drewQ.trans ((put8_other (by have := HF.out.xl; omega)).trans HF.out.ev)) rfl, cell_of_heap (heap_drewQ.trans ((put8_other (by have := HF.out.xl; omega)).trans HF.out.ev)) rfl, cell_of_heap (heap_drewQ.trans ((put8_other (by have := HF.out.xl; omega)).trans HF.out.ev)) rfl, cell_of_heap (heap_drewQ.trans ((put8_other (by have := HF.out.xl; omega)).trans HF.out.ev)) rfl, cell_of_heap (heap_drewQ.trans ((put8_other (by have := HF.out.xl; omega)).trans HF.out.ev)) rfl, cell_of_heap (heap_drewQ.trans ((put8_other (by have := HF.out.xl; omega)).trans HF.out.ev)) rfl, cell_of_heap (heap_drewQ.trans ((put8_other (by have := HF.out.xl; omega)).trans HF.out.ev)) rfl, cell_of_heap (heap_drewQ.trans ((put8_other (by omega)).trans HF.out.st.rd)) rfl, cell_of_heap (heap_drewQ.trans ((put8_other (by omega)).trans HF.out.st.rd)) rfl, cell_of_heap (heap_drewQ.trans ((put8_other (by omega)).trans HF.out.st.rd)) rfl⟩
                  unfold put8 at SK0
                  have SK := Lib.hid SK0
                  clear SK0
                  refine wp_region_tail (S := (fun w' => w'.cell? ⟨xe, 0, none⟩ = some (.int .i64 x0) ∧ w'.cell? ⟨xe, 1, none⟩ = some (.int .i64 x1) ∧ w'.cell? ⟨xe, 2, none⟩ = some (.int .i64 x2) ∧ w'.cell? ⟨xe, 3, none⟩ = some (.int .i64 x3) ∧ w'.cell? ⟨xe, 4, none⟩ = some (.int .i64 x4) ∧ w'.cell? ⟨xe, 5, none⟩ = some (.int .u64 (x5 : Int)) ∧ w'.cell? ⟨xe, 6, none⟩ = some (.slice va vn vc) ∧ w'.cell? ⟨xe, 7, none⟩ = some (.slice pa pn pc) ∧ w'.cell? ⟨w.heap.size + 2, 0, none⟩ = some (.string (strB L)) ∧ w'.cell? ⟨w.heap.size + 2, 1, none⟩ = some (.int .i64 (j27 : Int)) ∧ w'.cell? ⟨w.heap.size + 2, 2, none⟩ = some (.bool true))) 5 (by kernel_rfl) (by kernel_rfl) ?_ (fun hHeld => ?_)
                  · first | with_reducible exact ⟨e0, e1, e2, e3, e4, e5, e6, e7, n0, n1, n2⟩ | go_keep
                  simp only [List.take_succ_cons, List.take_zero]
                  refine wpAnyH_take (i := 0) (oi := _) (v := ?zf0) rfl (by kernel_rfl) (by kernel_rfl) (by kernel_rfl) (fun _ _ _ h => h) (Or.inl ⟨by kernel_rfl, ?zfy0⟩) (by assumption) ?zfr0
                  case zfy0 => (intro w hSw; (try dsimp only at hSw); go_simp <;> with_reducible rfl)
                  try simp only [Act.put, List.getElem_toArray, List.getElem_cons_zero, List.getElem_cons_succ, List.setIfInBounds_toArray, List.set_cons_zero, List.set_cons_succ]
                  refine wpAnyH_take (i := 1) (oi := _) (v := ?zf1) rfl (by kernel_rfl) (by kernel_rfl) (by kernel_rfl) (fun _ _ _ h => h) (Or.inl ⟨by kernel_rfl, ?zfy1⟩) (by assumption) ?zfr1
                  case zfy1 => (intro w hSw; (try dsimp only at hSw); go_simp <;> with_reducible rfl)
                  try simp only [Act.put, List.getElem_toArray, List.getElem_cons_zero, List.getElem_cons_succ, List.setIfInBounds_toArray, List.set_cons_zero, List.set_cons_succ]
                  refine wpAnyH_take (i := 2) (oi := _) (v := ?zf2) rfl (by kernel_rfl) (by kernel_rfl) (by kernel_rfl) (fun _ _ _ h => h) (Or.inl ⟨by kernel_rfl, ?zfy2⟩) (by assumption) ?zfr2
                  case zfy2 => (intro w hSw; (try dsimp only at hSw); go_simp <;> with_reducible rfl)
                  try simp only [Act.put, List.getElem_toArray, List.getElem_cons_zero, List.getElem_cons_succ, List.setIfInBounds_toArray, List.set_cons_zero, List.set_cons_succ]
                  refine wpAnyH_take (i := 3) (oi := _) (v := ?zf3) rfl (by kernel_rfl) (by kernel_rfl) (by kernel_rfl) (fun _ _ _ h => h) (Or.inl ⟨by kernel_rfl, ?zfy3⟩) (by assumption) ?zfr3
                  case zfy3 => (intro w hSw; (try dsimp only at hSw); go_simp <;> with_reducible rfl)
                  try simp only [Act.put, List.getElem_toArray, List.getElem_cons_zero, List.getElem_cons_succ, List.setIfInBounds_toArray, List.set_cons_zero, List.set_cons_succ]
                  refine wpAnyH_ready (rs := [4]) (by kernel_rfl) (by simp) ?_
                  refine AllReadyH.cons (o := _) rfl (fun K hK => ?_) AllReadyH.nil
                  go_simp
                  refine hK.out _ _ ?_ (fun hHeld4 => ?_)
                  · first | with_reducible exact ⟨e0, e1, e2, e3, e4, e5, e6, e7, n0, n1, n2⟩ | exact SK.out | go_keep
                  clear hK K hHeld
                  try simp only [Act.put, List.getElem_toArray, List.getElem_cons_zero, List.getElem_cons_succ, List.setIfInBounds_toArray, List.set_cons_zero, List.set_cons_succ]
                  refine wpAnyH_done (by kernel_rfl) ?_ _
                  dsimp only [tailQ]
                  simp only [List.drop_succ_cons, List.drop_zero, List.take_succ_cons, List.take_zero, List.getElem_cons_succ, List.getElem_cons_zero, List.set_cons_zero, List.set_cons_succ]
                  clear SK
                  clear z0' y0'
                  clear z1' y1'
                  clear z2' y2'
                  clear z3' y3'
                  clear z4' y4'
                  clear z5' y5'
                  clear z6' y6'
                  clear z7' y7'
                  obtain ⟨WP, hWP⟩ : ∃ WP, (put8 WE w.heap.size (.int .i64 x0) (.int .i64 x1) (.int .i64 x2) (.int .i64 x3) (.int .i64 x4) (.int .u64 (x5 : Int)) (.slice va vn vc) (.slice pa pn pc)).drew = WP := ⟨_, rfl⟩
                  have HL8 : lnB WP (w.heap.size + 1) (⟨#[]⟩ : ByteArray) 0 false := by rw [← hWP]; exact heap_drewQ.trans ((put8_other (by omega)).trans HF.out.st.rl)
                  have HWP := Lib.hid hWP
                  unfold put8 at hWP
                  rw [hWP]
                  clear hWP
                  have m0' := cell_of_heap HL8 (k := 0) rfl
                  have o0' := free_of_heap (k := 0) HL8
                  have m1' := cell_of_heap HL8 (k := 1) rfl
                  have o1' := free_of_heap (k := 1) HL8
                  have m2' := cell_of_heap HL8 (k := 2) rfl
                  have o2' := free_of_heap (k := 2) HL8
                  clear e0 e1 e2 e3 e4 e5 e6 e7 n0 n1 n2
                  go_wp2_with fail
                  suffices key : ∀ Wf, Wf = (put3 WP (w.heap.size + 1) (.string (strB L)) (.int .i64 (j27 : Int)) (.bool true)) → bodyPost Try.prog Try.f13 (RefP L w) Exit.ret _ Wf from key _ rfl
                  intro Wf hWf
                  rw [← HWP.out] at hWf
                  have O7w : Wf.ownsRow (xe + 1) 23 1 (.slice va vn vc) acc.length (acc.map (fun z : Nat => Value.int .u64 (z : Int))) := by rw [hWf]; exact put3_own (owns_drew (put8_own OF7.out (own_not OF7.out HF.out.st.rc (by decide)))) (own_not OF7.out HF.out.st.rl (by decide))
                  have O8w : Wf.ownsRow (xe + 1) 3 1 (.slice pa pn pc) acc2.length (acc2.map (fun z : Int => Value.int .i64 z)) := by rw [hWf]; exact put3_own (owns_drew (put8_own OF8.out (own_not OF8.out HF.out.st.rc (by decide)))) (own_not OF8.out HF.out.st.rl (by decide))
                  have hE : evB Wf w.heap.size (.int .i64 x0) (.int .i64 x1) (.int .i64 x2) (.int .i64 x3) (.int .i64 x4) (.int .u64 (x5 : Int)) (.slice va vn vc) (.slice pa pn pc) := by rw [hWf]; exact (put3_other (by omega)).trans (heap_drewQ.trans (put8_heap HF.out.st.rc))
                  have hN : lnB Wf (w.heap.size + 1) (strB L) j27 true := by rw [hWf]; exact put3_lnU (heap_drewQ.trans ((put8_other (by omega)).trans HF.out.st.rl))
                  have hBf : Below w.heap.size w Wf := by rw [hWf]; exact put3_below (below_drew (put8_below HF.out.st.bl (Nat.le_refl w.heap.size))) (Nat.le_succ w.heap.size)
                  have k0' := cell_of_heap hE (k := 0) rfl
                  have k1' := cell_of_heap hE (k := 1) rfl
                  have k2' := cell_of_heap hE (k := 2) rfl
                  have k3' := cell_of_heap hE (k := 3) rfl
                  have k4' := cell_of_heap hE (k := 4) rfl
                  have k5' := cell_of_heap hE (k := 5) rfl
                  have k6' := cell_of_heap hE (k := 6) rfl
                  have k7' := cell_of_heap hE (k := 7) rfl
                  have t0' := cell_of_heap hN (k := 0) rfl
                  have t1' := cell_of_heap hN (k := 1) rfl
                  have t2' := cell_of_heap hN (k := 2) rfl
                  refine bodyPost_ret (v := .tuple #[.agg #[.int .i64 x0, .int .i64 x1, .int .i64 x2, .int .i64 x3, .int .i64 x4, .int .u64 (x5 : Int), .slice va vn vc, .slice pa pn pc], .agg #[.string (strB L), .int .i64 (j27 : Int), .bool true]]) (by simp [results, Try.results13, go_sem, k0', k1', k2', k3', k4', k5', k6', k7', t0', t1', t2']) rfl ?_
                  obtain ⟨e7, g7, a1, a2, a3, a4, a5⟩ := row_parts O7w
                  obtain ⟨e8, g8, d1, d2, d3, d4, d5⟩ := row_parts O8w
                  unfold RefP
                  rw [EX.out, EN.out, show (!okP L) = true by rw [HB.out]; rfl]
                  dsimp only
                  rw [HJL.out]
                  refine ⟨hBf, ⟨va, g7, 0, vc, pa, g8, 0, pc⟩, by rw [e7, e8], a1, a3, a4, a5, d1, d3, d4, d5⟩
                · have djl : ¬ j27 < (strB L).size := by rw [strB_size]; exact hjl
                  have HB : Hid ((!okP L) = b27) := Lib.hid (by unfold okP; rw [EN.out]; dsimp only; rw [decide_eq_false (fun h => hjl (HLT.out.1 h)), Bool.or_false, Bool.not_not])
                  clear hjl
                  go_upto_region 30 with fail
                  obtain ⟨WE, hWE⟩ : ∃ WE, w27 = WE := ⟨_, rfl⟩
                  have HF := H27
                  have OF7 := O7F
                  have OF8 := O8F
                  try rw [hWE] at HF OF7 OF8
                  try rw [hWE]
                  clear hWE
                  have e0 : WE.cell? ⟨xe, 0, none⟩ = some (.int .i64 x0) := cell_of_heap HF.out.ev (k := 0) rfl
                  have e1 : WE.cell? ⟨xe, 1, none⟩ = some (.int .i64 x1) := cell_of_heap HF.out.ev (k := 1) rfl
                  have e2 : WE.cell? ⟨xe, 2, none⟩ = some (.int .i64 x2) := cell_of_heap HF.out.ev (k := 2) rfl
                  have e3 : WE.cell? ⟨xe, 3, none⟩ = some (.int .i64 x3) := cell_of_heap HF.out.ev (k := 3) rfl
                  have e4 : WE.cell? ⟨xe, 4, none⟩ = some (.int .i64 x4) := cell_of_heap HF.out.ev (k := 4) rfl
                  have e5 : WE.cell? ⟨xe, 5, none⟩ = some (.int .u64 (x5 : Int)) := cell_of_heap HF.out.ev (k := 5) rfl
                  have e6 : WE.cell? ⟨xe, 6, none⟩ = some (.slice va vn vc) := cell_of_heap HF.out.ev (k := 6) rfl
                  have e7 : WE.cell? ⟨xe, 7, none⟩ = some (.slice pa pn pc) := cell_of_heap HF.out.ev (k := 7) rfl
                  have n0 : WE.cell? ⟨w.heap.size + 2, 0, none⟩ = some (.string (strB L)) := cell_of_heap HF.out.st.rd (k := 0) rfl
                  have n1 : WE.cell? ⟨w.heap.size + 2, 1, none⟩ = some (.int .i64 (j27 : Int)) := cell_of_heap HF.out.st.rd (k := 1) rfl
                  have n2 : WE.cell? ⟨w.heap.size + 2, 2, none⟩ = some (.bool b27) := cell_of_heap HF.out.st.rd (k := 2) rfl
                  have z0' := cell_of_heap HF.out.st.rc (k := 0) rfl
                  have y0' := free_of_heap (k := 0) HF.out.st.rc
                  have z1' := cell_of_heap HF.out.st.rc (k := 1) rfl
                  have y1' := free_of_heap (k := 1) HF.out.st.rc
                  have z2' := cell_of_heap HF.out.st.rc (k := 2) rfl
                  have y2' := free_of_heap (k := 2) HF.out.st.rc
                  have z3' := cell_of_heap HF.out.st.rc (k := 3) rfl
                  have y3' := free_of_heap (k := 3) HF.out.st.rc
                  have z4' := cell_of_heap HF.out.st.rc (k := 4) rfl
                  have y4' := free_of_heap (k := 4) HF.out.st.rc
                  have z5' := cell_of_heap HF.out.st.rc (k := 5) rfl
                  have y5' := free_of_heap (k := 5) HF.out.st.rc
                  have z6' := cell_of_heap HF.out.st.rc (k := 6) rfl
                  have y6' := free_of_heap (k := 6) HF.out.st.rc
                  have z7' := cell_of_heap HF.out.st.rc (k := 7) rfl
                  have y7' := free_of_heap (k := 7) HF.out.st.rc
                  have SK0 : (fun w' => w'.cell? ⟨xe, 0, none⟩ = some (.int .i64 x0) ∧ w'.cell? ⟨xe, 1, none⟩ = some (.int .i64 x1) ∧ w'.cell? ⟨xe, 2, none⟩ = some (.int .i64 x2) ∧ w'.cell? ⟨xe, 3, none⟩ = some (.int .i64 x3) ∧ w'.cell? ⟨xe, 4, none⟩ = some (.int .i64 x4) ∧ w'.cell? ⟨xe, 5, none⟩ = some (.int .u64 (x5 : Int)) ∧ w'.cell? ⟨xe, 6, none⟩ = some (.slice va vn vc) ∧ w'.cell? ⟨xe, 7, none⟩ = some (.slice pa pn pc) ∧ w'.cell? ⟨w.heap.size + 2, 0, none⟩ = some (.string (strB L)) ∧ w'.cell? ⟨w.heap.size + 2, 1, none⟩ = some (.int .i64 (j27 : Int)) ∧ w'.cell? ⟨w.heap.size + 2, 2, none⟩ = some (.bool b27)) (put8 WE w.heap.size (.int .i64 x0) (.int .i64 x1) (.int .i64 x2) (.int .i64 x3) (.int .i64 x4) (.int .u64 (x5 : Int)) (.slice va vn vc) (.slice pa pn pc)).drew := ⟨cell_of_heap (heap_drewQ.trans ((put8_other (by have := HF.out.xl; omega)).trans HF.out.ev)) rfl, cell_of_heap (heap_drewQ.trans ((put8_other (by have := HF.out.xl; omega)).trans HF.out.ev)) rfl, cell_of_heap (heap_drewQ.trans ((put8_other (by have := HF.out.xl; omega)).trans HF.out.ev)) rfl, cell_of_heap (heap_drewQ.trans ((put8_other (by have := HF.out.xl; omega)).trans HF.out.ev)) rfl, cell_of_heap (heap_drewQ.trans ((put8_other (by have := HF.out.xl; omega)).trans HF.out.ev)) rfl, cell_of_heap (heap_drewQ.trans ((put8_other (by have := HF.out.xl; omega)).trans HF.out.ev)) rfl, cell_of_heap (heap_drewQ.trans ((put8_other (by have := HF.out.xl; omega)).trans HF.out.ev)) rfl, cell_of_heap (heap_drewQ.trans ((put8_other (by have := HF.out.xl; omega)).trans HF.out.ev)) rfl, cell_of_heap (heap_drewQ.trans ((put8_other (by omega)).trans HF.out.st.rd)) rfl, cell_of_heap (heap_drewQ.trans ((put8_other (by omega)).trans HF.out.st.rd)) rfl, cell_of_heap (heap_drewQ.trans ((put8_other (by omega)).trans HF.out.st.rd)) rfl⟩
                  unfold put8 at SK0
                  have SK := Lib.hid SK0
                  clear SK0
                  refine wp_region_tail (S := (fun w' => w'.cell? ⟨xe, 0, none⟩ = some (.int .i64 x0) ∧ w'.cell? ⟨xe, 1, none⟩ = some (.int .i64 x1) ∧ w'.cell? ⟨xe, 2, none⟩ = some (.int .i64 x2) ∧ w'.cell? ⟨xe, 3, none⟩ = some (.int .i64 x3) ∧ w'.cell? ⟨xe, 4, none⟩ = some (.int .i64 x4) ∧ w'.cell? ⟨xe, 5, none⟩ = some (.int .u64 (x5 : Int)) ∧ w'.cell? ⟨xe, 6, none⟩ = some (.slice va vn vc) ∧ w'.cell? ⟨xe, 7, none⟩ = some (.slice pa pn pc) ∧ w'.cell? ⟨w.heap.size + 2, 0, none⟩ = some (.string (strB L)) ∧ w'.cell? ⟨w.heap.size + 2, 1, none⟩ = some (.int .i64 (j27 : Int)) ∧ w'.cell? ⟨w.heap.size + 2, 2, none⟩ = some (.bool b27))) 5 (by kernel_rfl) (by kernel_rfl) ?_ (fun hHeld => ?_)
                  · first | with_reducible exact ⟨e0, e1, e2, e3, e4, e5, e6, e7, n0, n1, n2⟩ | go_keep
                  simp only [List.take_succ_cons, List.take_zero]
                  refine wpAnyH_take (i := 0) (oi := _) (v := ?zg0) rfl (by kernel_rfl) (by kernel_rfl) (by kernel_rfl) (fun _ _ _ h => h) (Or.inl ⟨by kernel_rfl, ?zgy0⟩) (by assumption) ?zgr0
                  case zgy0 => (intro w hSw; (try dsimp only at hSw); go_simp <;> with_reducible rfl)
                  try simp only [Act.put, List.getElem_toArray, List.getElem_cons_zero, List.getElem_cons_succ, List.setIfInBounds_toArray, List.set_cons_zero, List.set_cons_succ]
                  refine wpAnyH_take (i := 1) (oi := _) (v := ?zg1) rfl (by kernel_rfl) (by kernel_rfl) (by kernel_rfl) (fun _ _ _ h => h) (Or.inl ⟨by kernel_rfl, ?zgy1⟩) (by assumption) ?zgr1
                  case zgy1 => (intro w hSw; (try dsimp only at hSw); go_simp <;> with_reducible rfl)
                  try simp only [Act.put, List.getElem_toArray, List.getElem_cons_zero, List.getElem_cons_succ, List.setIfInBounds_toArray, List.set_cons_zero, List.set_cons_succ]
                  refine wpAnyH_take (i := 2) (oi := _) (v := ?zg2) rfl (by kernel_rfl) (by kernel_rfl) (by kernel_rfl) (fun _ _ _ h => h) (Or.inl ⟨by kernel_rfl, ?zgy2⟩) (by assumption) ?zgr2
                  case zgy2 => (intro w hSw; (try dsimp only at hSw); go_simp <;> with_reducible rfl)
                  try simp only [Act.put, List.getElem_toArray, List.getElem_cons_zero, List.getElem_cons_succ, List.setIfInBounds_toArray, List.set_cons_zero, List.set_cons_succ]
                  refine wpAnyH_take (i := 3) (oi := _) (v := ?zg3) rfl (by kernel_rfl) (by kernel_rfl) (by kernel_rfl) (fun _ _ _ h => h) (Or.inl ⟨by kernel_rfl, ?zgy3⟩) (by assumption) ?zgr3
                  case zgy3 => (intro w hSw; (try dsimp only at hSw); go_simp <;> with_reducible rfl)
                  try simp only [Act.put, List.getElem_toArray, List.getElem_cons_zero, List.getElem_cons_succ, List.setIfInBounds_toArray, List.set_cons_zero, List.set_cons_succ]
                  refine wpAnyH_ready (rs := [4]) (by kernel_rfl) (by simp) ?_
                  refine AllReadyH.cons (o := _) rfl (fun K hK => ?_) AllReadyH.nil
                  go_simp
                  refine hK.out _ _ ?_ (fun hHeld4 => ?_)
                  · first | with_reducible exact ⟨e0, e1, e2, e3, e4, e5, e6, e7, n0, n1, n2⟩ | exact SK.out | go_keep
                  clear hK K hHeld
                  try simp only [Act.put, List.getElem_toArray, List.getElem_cons_zero, List.getElem_cons_succ, List.setIfInBounds_toArray, List.set_cons_zero, List.set_cons_succ]
                  refine wpAnyH_done (by kernel_rfl) ?_ _
                  dsimp only [tailQ]
                  simp only [List.drop_succ_cons, List.drop_zero, List.take_succ_cons, List.take_zero, List.getElem_cons_succ, List.getElem_cons_zero, List.set_cons_zero, List.set_cons_succ]
                  clear SK
                  clear z0' y0'
                  clear z1' y1'
                  clear z2' y2'
                  clear z3' y3'
                  clear z4' y4'
                  clear z5' y5'
                  clear z6' y6'
                  clear z7' y7'
                  obtain ⟨WP, hWP⟩ : ∃ WP, (put8 WE w.heap.size (.int .i64 x0) (.int .i64 x1) (.int .i64 x2) (.int .i64 x3) (.int .i64 x4) (.int .u64 (x5 : Int)) (.slice va vn vc) (.slice pa pn pc)).drew = WP := ⟨_, rfl⟩
                  have HL8 : lnB WP (w.heap.size + 1) (⟨#[]⟩ : ByteArray) 0 false := by rw [← hWP]; exact heap_drewQ.trans ((put8_other (by omega)).trans HF.out.st.rl)
                  have HWP := Lib.hid hWP
                  unfold put8 at hWP
                  rw [hWP]
                  clear hWP
                  have m0' := cell_of_heap HL8 (k := 0) rfl
                  have o0' := free_of_heap (k := 0) HL8
                  have m1' := cell_of_heap HL8 (k := 1) rfl
                  have o1' := free_of_heap (k := 1) HL8
                  have m2' := cell_of_heap HL8 (k := 2) rfl
                  have o2' := free_of_heap (k := 2) HL8
                  clear e0 e1 e2 e3 e4 e5 e6 e7 n0 n1 n2
                  go_wp2_with fail
                  suffices key : ∀ Wf, Wf = (put3 WP (w.heap.size + 1) (.string (strB L)) (.int .i64 (j27 : Int)) (.bool b27)) → bodyPost Try.prog Try.f13 (RefP L w) Exit.ret _ Wf from key _ rfl
                  intro Wf hWf
                  rw [← HWP.out] at hWf
                  have O7w : Wf.ownsRow (xe + 1) 23 1 (.slice va vn vc) acc.length (acc.map (fun z : Nat => Value.int .u64 (z : Int))) := by rw [hWf]; exact put3_own (owns_drew (put8_own OF7.out (own_not OF7.out HF.out.st.rc (by decide)))) (own_not OF7.out HF.out.st.rl (by decide))
                  have O8w : Wf.ownsRow (xe + 1) 3 1 (.slice pa pn pc) acc2.length (acc2.map (fun z : Int => Value.int .i64 z)) := by rw [hWf]; exact put3_own (owns_drew (put8_own OF8.out (own_not OF8.out HF.out.st.rc (by decide)))) (own_not OF8.out HF.out.st.rl (by decide))
                  have hE : evB Wf w.heap.size (.int .i64 x0) (.int .i64 x1) (.int .i64 x2) (.int .i64 x3) (.int .i64 x4) (.int .u64 (x5 : Int)) (.slice va vn vc) (.slice pa pn pc) := by rw [hWf]; exact (put3_other (by omega)).trans (heap_drewQ.trans (put8_heap HF.out.st.rc))
                  have hN : lnB Wf (w.heap.size + 1) (strB L) j27 b27 := by rw [hWf]; exact put3_lnU (heap_drewQ.trans ((put8_other (by omega)).trans HF.out.st.rl))
                  have hBf : Below w.heap.size w Wf := by rw [hWf]; exact put3_below (below_drew (put8_below HF.out.st.bl (Nat.le_refl w.heap.size))) (Nat.le_succ w.heap.size)
                  have k0' := cell_of_heap hE (k := 0) rfl
                  have k1' := cell_of_heap hE (k := 1) rfl
                  have k2' := cell_of_heap hE (k := 2) rfl
                  have k3' := cell_of_heap hE (k := 3) rfl
                  have k4' := cell_of_heap hE (k := 4) rfl
                  have k5' := cell_of_heap hE (k := 5) rfl
                  have k6' := cell_of_heap hE (k := 6) rfl
                  have k7' := cell_of_heap hE (k := 7) rfl
                  have t0' := cell_of_heap hN (k := 0) rfl
                  have t1' := cell_of_heap hN (k := 1) rfl
                  have t2' := cell_of_heap hN (k := 2) rfl
                  refine bodyPost_ret (v := .tuple #[.agg #[.int .i64 x0, .int .i64 x1, .int .i64 x2, .int .i64 x3, .int .i64 x4, .int .u64 (x5 : Int), .slice va vn vc, .slice pa pn pc], .agg #[.string (strB L), .int .i64 (j27 : Int), .bool b27]]) (by simp [results, Try.results13, go_sem, k0', k1', k2', k3', k4', k5', k6', k7', t0', t1', t2']) rfl ?_
                  obtain ⟨e7, g7, a1, a2, a3, a4, a5⟩ := row_parts O7w
                  obtain ⟨e8, g8, d1, d2, d3, d4, d5⟩ := row_parts O8w
                  unfold RefP
                  rw [EX.out, EN.out, show (!okP L) = b27 by rw [HB.out]]
                  dsimp only
                  rw [HJL.out]
                  refine ⟨hBf, ⟨va, g7, 0, vc, pa, g8, 0, pc⟩, by rw [e7, e8], a1, a3, a4, a5, d1, d3, d4, d5⟩
              | false =>
                cases bb with
                | true =>
                  have HER8 : Hid (R8 = (acc2, (L.drop j, true))) := Lib.hid (by
                    rw [← hp.out]
                    cases f with
                    | zero => rfl
                    | succ f => rw [loopR, if_pos (Or.inr rfl)])
                  clear h93 hp hfu
                  have D270 : Hid (L.drop j = L.drop j) := Lib.hid rfl
                  have hsg := HSGC.out 93 j true wr (by decide) hst.out.st.rd hj
                  rw [D270.out] at hsg
                  obtain ⟨q, hq⟩ : ∃ q, passP 93 ((L.drop j), true) = q := ⟨_, rfl⟩
                  rw [hq] at hsg
                  obtain ⟨l27, b27⟩ := q
                  have Q27 := Lib.hid hq
                  have HC := Lib.hid hsg
                  clear hsg hq
                  go_wp2_with fail
                  refine HC.out.mono ?_
                  rintro e w27 ⟨rfl, hb, j27, hj27, hr, hd⟩
                  dsimp only at hr hd
                  have H27 := Lib.hid (hst.out.call hb hr)
                  have B27 := Lib.hid hb
                  have D27 := Lib.hid hd
                  clear hb hr hd HC
                  have O7F := Lib.hid (B27.out.own h7o.out (by have := hst.out.xl; omega))
                  have O8F := Lib.hid (B27.out.own hown.out (by have := hst.out.xl; omega))
                  have E8 : Hid (s8R L = (acc2, (l27, b27))) := Lib.hid (by
                    unfold s8R
                    rw [E7.out]
                    dsimp only
                    rw [Q19.out]
                    unfold listR
                    rw [Q20.out]
                    dsimp only
                    rw [HR8.out, HER8.out]
                    dsimp only
                    rw [Q27.out])
                  have EX : Hid (evR L = ⟨x0, x1, x2, x3, x4, x5, acc, acc2⟩) := Lib.hid (by
                    obtain ⟨y0, y1, y2, y3, y4⟩ := HXF.out
                    unfold evR
                    rw [y0, y1, y2, y3, y4, E6.out, E7.out, E8.out])
                  have EN : Hid (endP L = (l27, b27)) := Lib.hid (by
                    have := (s8_eq L).1
                    rw [E8.out] at this
                    exact this.symm)
                  have HJL : Hid (L.length - l27.length = j27) := Lib.hid (by rw [← D27.out, List.length_drop]; omega)
                  have HLT : Hid ((0 < l27.length) ↔ j27 < L.length) := Lib.hid (by rw [← D27.out, List.length_drop]; omega)
                  have q1 := cell_of_heap H27.out.st.rd (k := 1) rfl
                  have q2 := cell_of_heap H27.out.st.rd (k := 2) rfl
                  have p2 := free_of_heap (k := 2) H27.out.st.rd
                  clear hst hown hlen z2 h7o
                  by_cases hjl : j27 < L.length
                  · have djl : j27 < (strB L).size := by rw [strB_size]; exact hjl
                    have HB : Hid (okP L = false) := Lib.hid (by unfold okP; rw [EN.out]; dsimp only; rw [decide_eq_true (HLT.out.2 hjl), Bool.or_true]; rfl)
                    have HG := Lib.hid (H27.out.setBad)
                    have O7G := Lib.hid (own_set (b := w.heap.size + 2) (k := 2) (u := .bool true) O7F.out (own_not O7F.out H27.out.st.rd (by decide)))
                    have O8G := Lib.hid (own_set (b := w.heap.size + 2) (k := 2) (u := .bool true) O8F.out (own_not O8F.out H27.out.st.rd (by decide)))
                    clear hjl
                    go_upto_region 30 with fail
                    obtain ⟨WE, hWE⟩ : ∃ WE, (w27.setCell ⟨w.heap.size + 2, 2, none⟩ (.bool true)) = WE := ⟨_, rfl⟩
                    have HF := HG
                    have OF7 := O7G
                    have OF8 := O8G
                    try rw [hWE] at HF OF7 OF8
                    try rw [hWE]
                    clear hWE
                    have e0 : WE.cell? ⟨xe, 0, none⟩ = some (.int .i64 x0) := cell_of_heap HF.out.ev (k := 0) rfl
                    have e1 : WE.cell? ⟨xe, 1, none⟩ = some (.int .i64 x1) := cell_of_heap HF.out.ev (k := 1) rfl
                    have e2 : WE.cell? ⟨xe, 2, none⟩ = some (.int .i64 x2) := cell_of_heap HF.out.ev (k := 2) rfl
                    have e3 : WE.cell? ⟨xe, 3, none⟩ = some (.int .i64 x3) := cell_of_heap HF.out.ev (k := 3) rfl
                    have e4 : WE.cell? ⟨xe, 4, none⟩ = some (.int .i64 x4) := cell_of_heap HF.out.ev (k := 4) rfl
                    have e5 : WE.cell? ⟨xe, 5, none⟩ = some (.int .u64 (x5 : Int)) := cell_of_heap HF.out.ev (k := 5) rfl
                    have e6 : WE.cell? ⟨xe, 6, none⟩ = some (.slice va vn vc) := cell_of_heap HF.out.ev (k := 6) rfl
                    have e7 : WE.cell? ⟨xe, 7, none⟩ = some (.slice pa pn pc) := cell_of_heap HF.out.ev (k := 7) rfl
                    have n0 : WE.cell? ⟨w.heap.size + 2, 0, none⟩ = some (.string (strB L)) := cell_of_heap HF.out.st.rd (k := 0) rfl
                    have n1 : WE.cell? ⟨w.heap.size + 2, 1, none⟩ = some (.int .i64 (j27 : Int)) := cell_of_heap HF.out.st.rd (k := 1) rfl
                    have n2 : WE.cell? ⟨w.heap.size + 2, 2, none⟩ = some (.bool true) := cell_of_heap HF.out.st.rd (k := 2) rfl
                    have z0' := cell_of_heap HF.out.st.rc (k := 0) rfl
                    have y0' := free_of_heap (k := 0) HF.out.st.rc
                    have z1' := cell_of_heap HF.out.st.rc (k := 1) rfl
                    have y1' := free_of_heap (k := 1) HF.out.st.rc
                    have z2' := cell_of_heap HF.out.st.rc (k := 2) rfl
                    have y2' := free_of_heap (k := 2) HF.out.st.rc
                    have z3' := cell_of_heap HF.out.st.rc (k := 3) rfl
                    have y3' := free_of_heap (k := 3) HF.out.st.rc
                    have z4' := cell_of_heap HF.out.st.rc (k := 4) rfl
                    have y4' := free_of_heap (k := 4) HF.out.st.rc
                    have z5' := cell_of_heap HF.out.st.rc (k := 5) rfl
                    have y5' := free_of_heap (k := 5) HF.out.st.rc
                    have z6' := cell_of_heap HF.out.st.rc (k := 6) rfl
                    have y6' := free_of_heap (k := 6) HF.out.st.rc
                    have z7' := cell_of_heap HF.out.st.rc (k := 7) rfl
                    have y7' := free_of_heap (k := 7) HF.out.st.rc
                    have SK0 : (fun w' => w'.cell? ⟨xe, 0, none⟩ = some (.int .i64 x0) ∧ w'.cell? ⟨xe, 1, none⟩ = some (.int .i64 x1) ∧ w'.cell? ⟨xe, 2, none⟩ = some (.int .i64 x2) ∧ w'.cell? ⟨xe, 3, none⟩ = some (.int .i64 x3) ∧ w'.cell? ⟨xe, 4, none⟩ = some (.int .i64 x4) ∧ w'.cell? ⟨xe, 5, none⟩ = some (.int .u64 (x5 : Int)) ∧ w'.cell? ⟨xe, 6, none⟩ = some (.slice va vn vc) ∧ w'.cell? ⟨xe, 7, none⟩ = some (.slice pa pn pc) ∧ w'.cell? ⟨w.heap.size + 2, 0, none⟩ = some (.string (strB L)) ∧ w'.cell? ⟨w.heap.size + 2, 1, none⟩ = some (.int .i64 (j27 : Int)) ∧ w'.cell? ⟨w.heap.size + 2, 2, none⟩ = some (.bool true)) (put8 WE w.heap.size (.int .i64 x0) (.int .i64 x1) (.int .i64 x2) (.int .i64 x3) (.int .i64 x4) (.int .u64 (x5 : Int)) (.slice va vn vc) (.slice pa pn pc)).drew := ⟨cell_of_heap (heap_drewQ.trans ((put8_other (by have := HF.out.xl; omega)).trans HF.out.ev)) rfl, cell_of_heap (heap_drewQ.trans ((put8_other (by have := HF.out.xl; omega)).trans HF.out.ev)) rfl, cell_of_heap (heap_drewQ.trans ((put8_other (by have := HF.out.xl; omega)).trans HF.out.ev)) rfl, cell_of_heap (heap_drewQ.trans ((put8_other (by have := HF.out.xl; omega)).trans HF.out.ev)) rfl, cell_of_heap (heap_drewQ.trans ((put8_other (by have := HF.out.xl; omega)).trans HF.out.ev)) rfl, cell_of_heap (heap_drewQ.trans ((put8_other (by have := HF.out.xl; omega)).trans HF.out.ev)) rfl, cell_of_heap (heap_drewQ.trans ((put8_other (by have := HF.out.xl; omega)).trans HF.out.ev)) rfl, cell_of_heap (heap_drewQ.trans ((put8_other (by have := HF.out.xl; omega)).trans HF.out.ev)) rfl, cell_of_heap (heap_drewQ.trans ((put8_other (by omega)).trans HF.out.st.rd)) rfl, cell_of_heap (heap_drewQ.trans ((put8_other (by omega)).trans HF.out.st.rd)) rfl, cell_of_heap (heap_drewQ.trans ((put8_other (by omega)).trans HF.out.st.rd)) rfl⟩
                    unfold put8 at SK0
                    have SK := Lib.hid SK0
                    clear SK0
                    refine wp_region_tail (S := (fun w' => w'.cell? ⟨xe, 0, none⟩ = some (.int .i64 x0) ∧ w'.cell? ⟨xe, 1, none⟩ = some (.int .i64 x1) ∧ w'.cell? ⟨xe, 2, none⟩ = some (.int .i64 x2) ∧ w'.cell? ⟨xe, 3, none⟩ = some (.int .i64 x3) ∧ w'.cell? ⟨xe, 4, none⟩ = some (.int .i64 x4) ∧ w'.cell? ⟨xe, 5, none⟩ = some (.int .u64 (x5 : Int)) ∧ w'.cell? ⟨xe, 6, none⟩ = some (.slice va vn vc) ∧ w'.cell? ⟨xe, 7, none⟩ = some (.slice pa pn pc) ∧ w'.cell? ⟨w.heap.size + 2, 0, none⟩ = some (.string (strB L)) ∧ w'.cell? ⟨w.heap.size + 2, 1, none⟩ = some (.int .i64 (j27 : Int)) ∧ w'.cell? ⟨w.heap.size + 2, 2, none⟩ = some (.bool true))) 5 (by kernel_rfl) (by kernel_rfl) ?_ (fun hHeld => ?_)
                    · first | with_reducible exact ⟨e0, e1, e2, e3, e4, e5, e6, e7, n0, n1, n2⟩ | go_keep
                    simp only [List.take_succ_cons, List.take_zero]
                    refine wpAnyH_take (i := 0) (oi := _) (v := ?zh0) rfl (by kernel_rfl) (by kernel_rfl) (by kernel_rfl) (fun _ _ _ h => h) (Or.inl ⟨by kernel_rfl, ?zhy0⟩) (by assumption) ?zhr0
                    case zhy0 => (intro w hSw; (try dsimp only at hSw); go_simp <;> with_reducible rfl)
                    try simp only [Act.put, List.getElem_toArray, List.getElem_cons_zero, List.getElem_cons_succ, List.setIfInBounds_toArray, List.set_cons_zero, List.set_cons_succ]
                    refine wpAnyH_take (i := 1) (oi := _) (v := ?zh1) rfl (by kernel_rfl) (by kernel_rfl) (by kernel_rfl) (fun _ _ _ h => h) (Or.inl ⟨by kernel_rfl, ?zhy1⟩) (by assumption) ?zhr1
                    case zhy1 => (intro w hSw; (try dsimp only at hSw); go_simp <;> with_reducible rfl)
                    try simp only [Act.put, List.getElem_toArray, List.getElem_cons_zero, List.getElem_cons_succ, List.setIfInBounds_toArray, List.set_cons_zero, List.set_cons_succ]
                    refine wpAnyH_take (i := 2) (oi := _) (v := ?zh2) rfl (by kernel_rfl) (by kernel_rfl) (by kernel_rfl) (fun _ _ _ h => h) (Or.inl ⟨by kernel_rfl, ?zhy2⟩) (by assumption) ?zhr2
                    case zhy2 => (intro w hSw; (try dsimp only at hSw); go_simp <;> with_reducible rfl)
                    try simp only [Act.put, List.getElem_toArray, List.getElem_cons_zero, List.getElem_cons_succ, List.setIfInBounds_toArray, List.set_cons_zero, List.set_cons_succ]
                    refine wpAnyH_take (i := 3) (oi := _) (v := ?zh3) rfl (by kernel_rfl) (by kernel_rfl) (by kernel_rfl) (fun _ _ _ h => h) (Or.inl ⟨by kernel_rfl, ?zhy3⟩) (by assumption) ?zhr3
                    case zhy3 => (intro w hSw; (try dsimp only at hSw); go_simp <;> with_reducible rfl)
                    try simp only [Act.put, List.getElem_toArray, List.getElem_cons_zero, List.getElem_cons_succ, List.setIfInBounds_toArray, List.set_cons_zero, List.set_cons_succ]
                    refine wpAnyH_ready (rs := [4]) (by kernel_rfl) (by simp) ?_
                    refine AllReadyH.cons (o := _) rfl (fun K hK => ?_) AllReadyH.nil
                    go_simp
                    refine hK.out _ _ ?_ (fun hHeld4 => ?_)
                    · first | with_reducible exact ⟨e0, e1, e2, e3, e4, e5, e6, e7, n0, n1, n2⟩ | exact SK.out | go_keep
                    clear hK K hHeld
                    try simp only [Act.put, List.getElem_toArray, List.getElem_cons_zero, List.getElem_cons_succ, List.setIfInBounds_toArray, List.set_cons_zero, List.set_cons_succ]
                    refine wpAnyH_done (by kernel_rfl) ?_ _
                    dsimp only [tailQ]
                    simp only [List.drop_succ_cons, List.drop_zero, List.take_succ_cons, List.take_zero, List.getElem_cons_succ, List.getElem_cons_zero, List.set_cons_zero, List.set_cons_succ]
                    clear SK
                    clear z0' y0'
                    clear z1' y1'
                    clear z2' y2'
                    clear z3' y3'
                    clear z4' y4'
                    clear z5' y5'
                    clear z6' y6'
                    clear z7' y7'
                    obtain ⟨WP, hWP⟩ : ∃ WP, (put8 WE w.heap.size (.int .i64 x0) (.int .i64 x1) (.int .i64 x2) (.int .i64 x3) (.int .i64 x4) (.int .u64 (x5 : Int)) (.slice va vn vc) (.slice pa pn pc)).drew = WP := ⟨_, rfl⟩
                    have HL8 : lnB WP (w.heap.size + 1) (⟨#[]⟩ : ByteArray) 0 false := by rw [← hWP]; exact heap_drewQ.trans ((put8_other (by omega)).trans HF.out.st.rl)
                    have HWP := Lib.hid hWP
                    unfold put8 at hWP
                    rw [hWP]
                    clear hWP
                    have m0' := cell_of_heap HL8 (k := 0) rfl
                    have o0' := free_of_heap (k := 0) HL8
                    have m1' := cell_of_heap HL8 (k := 1) rfl
                    have o1' := free_of_heap (k := 1) HL8
                    have m2' := cell_of_heap HL8 (k := 2) rfl
                    have o2' := free_of_heap (k := 2) HL8
                    clear e0 e1 e2 e3 e4 e5 e6 e7 n0 n1 n2
                    go_wp2_with fail
                    suffices key : ∀ Wf, Wf = (put3 WP (w.heap.size + 1) (.string (strB L)) (.int .i64 (j27 : Int)) (.bool true)) → bodyPost Try.prog Try.f13 (RefP L w) Exit.ret _ Wf from key _ rfl
                    intro Wf hWf
                    rw [← HWP.out] at hWf
                    have O7w : Wf.ownsRow (xe + 1) 23 1 (.slice va vn vc) acc.length (acc.map (fun z : Nat => Value.int .u64 (z : Int))) := by rw [hWf]; exact put3_own (owns_drew (put8_own OF7.out (own_not OF7.out HF.out.st.rc (by decide)))) (own_not OF7.out HF.out.st.rl (by decide))
                    have O8w : Wf.ownsRow (xe + 1) 3 1 (.slice pa pn pc) acc2.length (acc2.map (fun z : Int => Value.int .i64 z)) := by rw [hWf]; exact put3_own (owns_drew (put8_own OF8.out (own_not OF8.out HF.out.st.rc (by decide)))) (own_not OF8.out HF.out.st.rl (by decide))
                    have hE : evB Wf w.heap.size (.int .i64 x0) (.int .i64 x1) (.int .i64 x2) (.int .i64 x3) (.int .i64 x4) (.int .u64 (x5 : Int)) (.slice va vn vc) (.slice pa pn pc) := by rw [hWf]; exact (put3_other (by omega)).trans (heap_drewQ.trans (put8_heap HF.out.st.rc))
                    have hN : lnB Wf (w.heap.size + 1) (strB L) j27 true := by rw [hWf]; exact put3_lnU (heap_drewQ.trans ((put8_other (by omega)).trans HF.out.st.rl))
                    have hBf : Below w.heap.size w Wf := by rw [hWf]; exact put3_below (below_drew (put8_below HF.out.st.bl (Nat.le_refl w.heap.size))) (Nat.le_succ w.heap.size)
                    have k0' := cell_of_heap hE (k := 0) rfl
                    have k1' := cell_of_heap hE (k := 1) rfl
                    have k2' := cell_of_heap hE (k := 2) rfl
                    have k3' := cell_of_heap hE (k := 3) rfl
                    have k4' := cell_of_heap hE (k := 4) rfl
                    have k5' := cell_of_heap hE (k := 5) rfl
                    have k6' := cell_of_heap hE (k := 6) rfl
                    have k7' := cell_of_heap hE (k := 7) rfl
                    have t0' := cell_of_heap hN (k := 0) rfl
                    have t1' := cell_of_heap hN (k := 1) rfl
                    have t2' := cell_of_heap hN (k := 2) rfl
                    refine bodyPost_ret (v := .tuple #[.agg #[.int .i64 x0, .int .i64 x1, .int .i64 x2, .int .i64 x3, .int .i64 x4, .int .u64 (x5 : Int), .slice va vn vc, .slice pa pn pc], .agg #[.string (strB L), .int .i64 (j27 : Int), .bool true]]) (by simp [results, Try.results13, go_sem, k0', k1', k2', k3', k4', k5', k6', k7', t0', t1', t2']) rfl ?_
                    obtain ⟨e7, g7, a1, a2, a3, a4, a5⟩ := row_parts O7w
                    obtain ⟨e8, g8, d1, d2, d3, d4, d5⟩ := row_parts O8w
                    unfold RefP
                    rw [EX.out, EN.out, show (!okP L) = true by rw [HB.out]; rfl]
                    dsimp only
                    rw [HJL.out]
                    refine ⟨hBf, ⟨va, g7, 0, vc, pa, g8, 0, pc⟩, by rw [e7, e8], a1, a3, a4, a5, d1, d3, d4, d5⟩
                  · have djl : ¬ j27 < (strB L).size := by rw [strB_size]; exact hjl
                    have HB : Hid ((!okP L) = b27) := Lib.hid (by unfold okP; rw [EN.out]; dsimp only; rw [decide_eq_false (fun h => hjl (HLT.out.1 h)), Bool.or_false, Bool.not_not])
                    clear hjl
                    go_upto_region 30 with fail
                    obtain ⟨WE, hWE⟩ : ∃ WE, w27 = WE := ⟨_, rfl⟩
                    have HF := H27
                    have OF7 := O7F
                    have OF8 := O8F
                    try rw [hWE] at HF OF7 OF8
                    try rw [hWE]
                    clear hWE
                    have e0 : WE.cell? ⟨xe, 0, none⟩ = some (.int .i64 x0) := cell_of_heap HF.out.ev (k := 0) rfl
                    have e1 : WE.cell? ⟨xe, 1, none⟩ = some (.int .i64 x1) := cell_of_heap HF.out.ev (k := 1) rfl
                    have e2 : WE.cell? ⟨xe, 2, none⟩ = some (.int .i64 x2) := cell_of_heap HF.out.ev (k := 2) rfl
                    have e3 : WE.cell? ⟨xe, 3, none⟩ = some (.int .i64 x3) := cell_of_heap HF.out.ev (k := 3) rfl
                    have e4 : WE.cell? ⟨xe, 4, none⟩ = some (.int .i64 x4) := cell_of_heap HF.out.ev (k := 4) rfl
                    have e5 : WE.cell? ⟨xe, 5, none⟩ = some (.int .u64 (x5 : Int)) := cell_of_heap HF.out.ev (k := 5) rfl
                    have e6 : WE.cell? ⟨xe, 6, none⟩ = some (.slice va vn vc) := cell_of_heap HF.out.ev (k := 6) rfl
                    have e7 : WE.cell? ⟨xe, 7, none⟩ = some (.slice pa pn pc) := cell_of_heap HF.out.ev (k := 7) rfl
                    have n0 : WE.cell? ⟨w.heap.size + 2, 0, none⟩ = some (.string (strB L)) := cell_of_heap HF.out.st.rd (k := 0) rfl
                    have n1 : WE.cell? ⟨w.heap.size + 2, 1, none⟩ = some (.int .i64 (j27 : Int)) := cell_of_heap HF.out.st.rd (k := 1) rfl
                    have n2 : WE.cell? ⟨w.heap.size + 2, 2, none⟩ = some (.bool b27) := cell_of_heap HF.out.st.rd (k := 2) rfl
                    have z0' := cell_of_heap HF.out.st.rc (k := 0) rfl
                    have y0' := free_of_heap (k := 0) HF.out.st.rc
                    have z1' := cell_of_heap HF.out.st.rc (k := 1) rfl
                    have y1' := free_of_heap (k := 1) HF.out.st.rc
                    have z2' := cell_of_heap HF.out.st.rc (k := 2) rfl
                    have y2' := free_of_heap (k := 2) HF.out.st.rc
                    have z3' := cell_of_heap HF.out.st.rc (k := 3) rfl
                    have y3' := free_of_heap (k := 3) HF.out.st.rc
                    have z4' := cell_of_heap HF.out.st.rc (k := 4) rfl
                    have y4' := free_of_heap (k := 4) HF.out.st.rc
                    have z5' := cell_of_heap HF.out.st.rc (k := 5) rfl
                    have y5' := free_of_heap (k := 5) HF.out.st.rc
                    have z6' := cell_of_heap HF.out.st.rc (k := 6) rfl
                    have y6' := free_of_heap (k := 6) HF.out.st.rc
                    have z7' := cell_of_heap HF.out.st.rc (k := 7) rfl
                    have y7' := free_of_heap (k := 7) HF.out.st.rc
                    have SK0 : (fun w' => w'.cell? ⟨xe, 0, none⟩ = some (.int .i64 x0) ∧ w'.cell? ⟨xe, 1, none⟩ = some (.int .i64 x1) ∧ w'.cell? ⟨xe, 2, none⟩ = some (.int .i64 x2) ∧ w'.cell? ⟨xe, 3, none⟩ = some (.int .i64 x3) ∧ w'.cell? ⟨xe, 4, none⟩ = some (.int .i64 x4) ∧ w'.cell? ⟨xe, 5, none⟩ = some (.int .u64 (x5 : Int)) ∧ w'.cell? ⟨xe, 6, none⟩ = some (.slice va vn vc) ∧ w'.cell? ⟨xe, 7, none⟩ = some (.slice pa pn pc) ∧ w'.cell? ⟨w.heap.size + 2, 0, none⟩ = some (.string (strB L)) ∧ w'.cell? ⟨w.heap.size + 2, 1, none⟩ = some (.int .i64 (j27 : Int)) ∧ w'.cell? ⟨w.heap.size + 2, 2, none⟩ = some (.bool b27)) (put8 WE w.heap.size (.int .i64 x0) (.int .i64 x1) (.int .i64 x2) (.int .i64 x3) (.int .i64 x4) (.int .u64 (x5 : Int)) (.slice va vn vc) (.slice pa pn pc)).drew := ⟨cell_of_heap (heap_drewQ.trans ((put8_other (by have := HF.out.xl; omega)).trans HF.out.ev)) rfl, cell_of_heap (heap_drewQ.trans ((put8_other (by have := HF.out.xl; omega)).trans HF.out.ev)) rfl, cell_of_heap (heap_drewQ.trans ((put8_other (by have := HF.out.xl; omega)).trans HF.out.ev)) rfl, cell_of_heap (heap_drewQ.trans ((put8_other (by have := HF.out.xl; omega)).trans HF.out.ev)) rfl, cell_of_heap (heap_drewQ.trans ((put8_other (by have := HF.out.xl; omega)).trans HF.out.ev)) rfl, cell_of_heap (heap_drewQ.trans ((put8_other (by have := HF.out.xl; omega)).trans HF.out.ev)) rfl, cell_of_heap (heap_drewQ.trans ((put8_other (by have := HF.out.xl; omega)).trans HF.out.ev)) rfl, cell_of_heap (heap_drewQ.trans ((put8_other (by have := HF.out.xl; omega)).trans HF.out.ev)) rfl, cell_of_heap (heap_drewQ.trans ((put8_other (by omega)).trans HF.out.st.rd)) rfl, cell_of_heap (heap_drewQ.trans ((put8_other (by omega)).trans HF.out.st.rd)) rfl, cell_of_heap (heap_drewQ.trans ((put8_other (by omega)).trans HF.out.st.rd)) rfl⟩
                    unfold put8 at SK0
                    have SK := Lib.hid SK0
                    clear SK0
                    refine wp_region_tail (S := (fun w' => w'.cell? ⟨xe, 0, none⟩ = some (.int .i64 x0) ∧ w'.cell? ⟨xe, 1, none⟩ = some (.int .i64 x1) ∧ w'.cell? ⟨xe, 2, none⟩ = some (.int .i64 x2) ∧ w'.cell? ⟨xe, 3, none⟩ = some (.int .i64 x3) ∧ w'.cell? ⟨xe, 4, none⟩ = some (.int .i64 x4) ∧ w'.cell? ⟨xe, 5, none⟩ = some (.int .u64 (x5 : Int)) ∧ w'.cell? ⟨xe, 6, none⟩ = some (.slice va vn vc) ∧ w'.cell? ⟨xe, 7, none⟩ = some (.slice pa pn pc) ∧ w'.cell? ⟨w.heap.size + 2, 0, none⟩ = some (.string (strB L)) ∧ w'.cell? ⟨w.heap.size + 2, 1, none⟩ = some (.int .i64 (j27 : Int)) ∧ w'.cell? ⟨w.heap.size + 2, 2, none⟩ = some (.bool b27))) 5 (by kernel_rfl) (by kernel_rfl) ?_ (fun hHeld => ?_)
                    · first | with_reducible exact ⟨e0, e1, e2, e3, e4, e5, e6, e7, n0, n1, n2⟩ | go_keep
                    simp only [List.take_succ_cons, List.take_zero]
                    refine wpAnyH_take (i := 0) (oi := _) (v := ?zi0) rfl (by kernel_rfl) (by kernel_rfl) (by kernel_rfl) (fun _ _ _ h => h) (Or.inl ⟨by kernel_rfl, ?ziy0⟩) (by assumption) ?zir0
                    case ziy0 => (intro w hSw; (try dsimp only at hSw); go_simp <;> with_reducible rfl)
                    try simp only [Act.put, List.getElem_toArray, List.getElem_cons_zero, List.getElem_cons_succ, List.setIfInBounds_toArray, List.set_cons_zero, List.set_cons_succ]
                    refine wpAnyH_take (i := 1) (oi := _) (v := ?zi1) rfl (by kernel_rfl) (by kernel_rfl) (by kernel_rfl) (fun _ _ _ h => h) (Or.inl ⟨by kernel_rfl, ?ziy1⟩) (by assumption) ?zir1
                    case ziy1 => (intro w hSw; (try dsimp only at hSw); go_simp <;> with_reducible rfl)
                    try simp only [Act.put, List.getElem_toArray, List.getElem_cons_zero, List.getElem_cons_succ, List.setIfInBounds_toArray, List.set_cons_zero, List.set_cons_succ]
                    refine wpAnyH_take (i := 2) (oi := _) (v := ?zi2) rfl (by kernel_rfl) (by kernel_rfl) (by kernel_rfl) (fun _ _ _ h => h) (Or.inl ⟨by kernel_rfl, ?ziy2⟩) (by assumption) ?zir2
                    case ziy2 => (intro w hSw; (try dsimp only at hSw); go_simp <;> with_reducible rfl)
                    try simp only [Act.put, List.getElem_toArray, List.getElem_cons_zero, List.getElem_cons_succ, List.setIfInBounds_toArray, List.set_cons_zero, List.set_cons_succ]
                    refine wpAnyH_take (i := 3) (oi := _) (v := ?zi3) rfl (by kernel_rfl) (by kernel_rfl) (by kernel_rfl) (fun _ _ _ h => h) (Or.inl ⟨by kernel_rfl, ?ziy3⟩) (by assumption) ?zir3
                    case ziy3 => (intro w hSw; (try dsimp only at hSw); go_simp <;> with_reducible rfl)
                    try simp only [Act.put, List.getElem_toArray, List.getElem_cons_zero, List.getElem_cons_succ, List.setIfInBounds_toArray, List.set_cons_zero, List.set_cons_succ]
                    refine wpAnyH_ready (rs := [4]) (by kernel_rfl) (by simp) ?_
                    refine AllReadyH.cons (o := _) rfl (fun K hK => ?_) AllReadyH.nil
                    go_simp
                    refine hK.out _ _ ?_ (fun hHeld4 => ?_)
                    · first | with_reducible exact ⟨e0, e1, e2, e3, e4, e5, e6, e7, n0, n1, n2⟩ | exact SK.out | go_keep
                    clear hK K hHeld
                    try simp only [Act.put, List.getElem_toArray, List.getElem_cons_zero, List.getElem_cons_succ, List.setIfInBounds_toArray, List.set_cons_zero, List.set_cons_succ]
                    refine wpAnyH_done (by kernel_rfl) ?_ _
                    dsimp only [tailQ]
                    simp only [List.drop_succ_cons, List.drop_zero, List.take_succ_cons, List.take_zero, List.getElem_cons_succ, List.getElem_cons_zero, List.set_cons_zero, List.set_cons_succ]
                    clear SK
                    clear z0' y0'
                    clear z1' y1'
                    clear z2' y2'
                    clear z3' y3'
                    clear z4' y4'
                    clear z5' y5'
                    clear z6' y6'
                    clear z7' y7'
                    obtain ⟨WP, hWP⟩ : ∃ WP, (put8 WE w.heap.size (.int .i64 x0) (.int .i64 x1) (.int .i64 x2) (.int .i64 x3) (.int .i64 x4) (.int .u64 (x5 : Int)) (.slice va vn vc) (.slice pa pn pc)).drew = WP := ⟨_, rfl⟩
                    have HL8 : lnB WP (w.heap.size + 1) (⟨#[]⟩ : ByteArray) 0 false := by rw [← hWP]; exact heap_drewQ.trans ((put8_other (by omega)).trans HF.out.st.rl)
                    have HWP := Lib.hid hWP
                    unfold put8 at hWP
                    rw [hWP]
                    clear hWP
                    have m0' := cell_of_heap HL8 (k := 0) rfl
                    have o0' := free_of_heap (k := 0) HL8
                    have m1' := cell_of_heap HL8 (k := 1) rfl
                    have o1' := free_of_heap (k := 1) HL8
                    have m2' := cell_of_heap HL8 (k := 2) rfl
                    have o2' := free_of_heap (k := 2) HL8
                    clear e0 e1 e2 e3 e4 e5 e6 e7 n0 n1 n2
                    go_wp2_with fail
                    suffices key : ∀ Wf, Wf = (put3 WP (w.heap.size + 1) (.string (strB L)) (.int .i64 (j27 : Int)) (.bool b27)) → bodyPost Try.prog Try.f13 (RefP L w) Exit.ret _ Wf from key _ rfl
                    intro Wf hWf
                    rw [← HWP.out] at hWf
                    have O7w : Wf.ownsRow (xe + 1) 23 1 (.slice va vn vc) acc.length (acc.map (fun z : Nat => Value.int .u64 (z : Int))) := by rw [hWf]; exact put3_own (owns_drew (put8_own OF7.out (own_not OF7.out HF.out.st.rc (by decide)))) (own_not OF7.out HF.out.st.rl (by decide))
                    have O8w : Wf.ownsRow (xe + 1) 3 1 (.slice pa pn pc) acc2.length (acc2.map (fun z : Int => Value.int .i64 z)) := by rw [hWf]; exact put3_own (owns_drew (put8_own OF8.out (own_not OF8.out HF.out.st.rc (by decide)))) (own_not OF8.out HF.out.st.rl (by decide))
                    have hE : evB Wf w.heap.size (.int .i64 x0) (.int .i64 x1) (.int .i64 x2) (.int .i64 x3) (.int .i64 x4) (.int .u64 (x5 : Int)) (.slice va vn vc) (.slice pa pn pc) := by rw [hWf]; exact (put3_other (by omega)).trans (heap_drewQ.trans (put8_heap HF.out.st.rc))
                    have hN : lnB Wf (w.heap.size + 1) (strB L) j27 b27 := by rw [hWf]; exact put3_lnU (heap_drewQ.trans ((put8_other (by omega)).trans HF.out.st.rl))
                    have hBf : Below w.heap.size w Wf := by rw [hWf]; exact put3_below (below_drew (put8_below HF.out.st.bl (Nat.le_refl w.heap.size))) (Nat.le_succ w.heap.size)
                    have k0' := cell_of_heap hE (k := 0) rfl
                    have k1' := cell_of_heap hE (k := 1) rfl
                    have k2' := cell_of_heap hE (k := 2) rfl
                    have k3' := cell_of_heap hE (k := 3) rfl
                    have k4' := cell_of_heap hE (k := 4) rfl
                    have k5' := cell_of_heap hE (k := 5) rfl
                    have k6' := cell_of_heap hE (k := 6) rfl
                    have k7' := cell_of_heap hE (k := 7) rfl
                    have t0' := cell_of_heap hN (k := 0) rfl
                    have t1' := cell_of_heap hN (k := 1) rfl
                    have t2' := cell_of_heap hN (k := 2) rfl
                    refine bodyPost_ret (v := .tuple #[.agg #[.int .i64 x0, .int .i64 x1, .int .i64 x2, .int .i64 x3, .int .i64 x4, .int .u64 (x5 : Int), .slice va vn vc, .slice pa pn pc], .agg #[.string (strB L), .int .i64 (j27 : Int), .bool b27]]) (by simp [results, Try.results13, go_sem, k0', k1', k2', k3', k4', k5', k6', k7', t0', t1', t2']) rfl ?_
                    obtain ⟨e7, g7, a1, a2, a3, a4, a5⟩ := row_parts O7w
                    obtain ⟨e8, g8, d1, d2, d3, d4, d5⟩ := row_parts O8w
                    unfold RefP
                    rw [EX.out, EN.out, show (!okP L) = b27 by rw [HB.out]]
                    dsimp only
                    rw [HJL.out]
                    refine ⟨hBf, ⟨va, g7, 0, vc, pa, g8, 0, pc⟩, by rw [e7, e8], a1, a3, a4, a5, d1, d3, d4, d5⟩
                | false =>
                  obtain ⟨g, rfl⟩ : ∃ g, f = g + 1 := by
                    rcases hfu.out with h | h
                    · cases h
                    · exact ⟨f - 1, by omega⟩
                  have HFU : Hid ((L.drop j).length < g + 1) := Lib.hid (by
                    rcases hfu.out with h | h
                    · cases h
                    · exact h)
                  have hp2 := hp.out
                  rw [loopR, if_neg (by rw [h93]; simp)] at hp2
                  have HP2 := Lib.hid hp2
                  have g1 := cell_of_heap hst.out.ev (k := 7) rfl
                  have hvn : pn = acc2.length := (row_parts hown.out).1
                  clear h93 hp hfu hp2
                  by_cases hacc : 0 < acc2.length
                  · have dl : (0 : Int) < (pn : Int) := by omega
                    have HSEP : Hid (sepR acc2 (L.drop j, false) = passP 32 (L.drop j, false)) := Lib.hid (by unfold sepR; rw [if_pos hacc])
                    clear hacc hvn
                    have DS0 : Hid (L.drop j = L.drop j) := Lib.hid rfl
                    have hsg := HSGC.out 32 j false wr (by decide) hst.out.st.rd hj
                    rw [DS0.out] at hsg
                    obtain ⟨q, hq⟩ : ∃ q, passP 32 ((L.drop j), false) = q := ⟨_, rfl⟩
                    rw [hq] at hsg
                    obtain ⟨lS, bS⟩ := q
                    have QS := Lib.hid hq
                    have HC := Lib.hid hsg
                    clear hsg hq
                    go_wp2_with fail
                    refine HC.out.mono ?_
                    rintro e wS ⟨rfl, hb, jS, hjS, hr, hd⟩
                    dsimp only at hr hd
                    have HS := Lib.hid (hst.out.call hb hr)
                    have BS := Lib.hid hb
                    have DS := Lib.hid hd
                    clear hb hr hd HC
                    have HPS : Hid (sepR acc2 (L.drop j, false) = (lS, bS)) := Lib.hid (by rw [HSEP.out, QS.out])
                    have HOS := Lib.hid (BS.out.own hown.out (by have := hst.out.xl; omega))
                    have H7S := Lib.hid (BS.out.own h7o.out (by have := hst.out.xl; omega))
                    have hnx := HRI.out jS bS wS.drew HS.out.drew.st.rd hjS
                    rw [DS.out] at hnx
                    obtain ⟨q, hq⟩ : ∃ q, intR (lS, bS) = q := ⟨_, rfl⟩
                    have hless := intR_ok.less lS
                    have hlen3 := intR_len (lS, bS)
                    rw [hq] at hnx
                    obtain ⟨x, l3, b3⟩ := q
                    have Q3 := Lib.hid hq
                    have HCN := Lib.hid hnx
                    have g1 := cell_of_heap HS.out.ev (k := 7) rfl
                    clear hnx hq hless hlen3
                    go_upto_region 26 with fail
                    refine wp_region_tail (S := (fun w' => w'.cell? ⟨xe, 7, none⟩ = some (.slice pa pn pc))) 7 (by kernel_rfl) (by kernel_rfl) ?_ (fun hHeld => ?_)
                    · first | with_reducible exact g1 | go_keep
                    simp only [List.take_succ_cons, List.take_zero]
                    refine wpAnyH_take (i := 0) (oi := _) (v := ?vd0) rfl (by kernel_rfl) (by kernel_rfl) (by kernel_rfl) (fun _ _ _ h => h) (Or.inl ⟨by kernel_rfl, ?vdy0⟩) (by assumption) ?vdr0
                    case vdy0 => (intro w hSw; (try dsimp only at hSw); go_simp <;> with_reducible rfl)
                    try simp only [Act.put, List.getElem_toArray, List.getElem_cons_zero, List.getElem_cons_succ, List.setIfInBounds_toArray, List.set_cons_zero, List.set_cons_succ]
                    refine wpAnyH_take (i := 1) (oi := _) (v := ?vd1) rfl (by kernel_rfl) (by kernel_rfl) (by kernel_rfl) (fun _ _ _ h => h) (Or.inl ⟨by kernel_rfl, ?vdy1⟩) (by assumption) ?vdr1
                    case vdy1 => (intro w hSw; (try dsimp only at hSw); go_simp <;> with_reducible rfl)
                    try simp only [Act.put, List.getElem_toArray, List.getElem_cons_zero, List.getElem_cons_succ, List.setIfInBounds_toArray, List.set_cons_zero, List.set_cons_succ]
                    refine wpAnyH_take (i := 2) (oi := _) (v := ?vd2) rfl (by kernel_rfl) (by kernel_rfl) (by kernel_rfl) (fun _ _ _ h => h) (Or.inl ⟨by kernel_rfl, ?vdy2⟩) (by assumption) ?vdr2
                    case vdy2 => (intro w hSw; (try dsimp only at hSw); go_simp <;> with_reducible rfl)
                    try simp only [Act.put, List.getElem_toArray, List.getElem_cons_zero, List.getElem_cons_succ, List.setIfInBounds_toArray, List.set_cons_zero, List.set_cons_succ]
                    refine wpAnyH_ready (rs := [3]) (by kernel_rfl) (by simp) ?_
                    refine AllReadyH.cons (o := _) rfl (fun K hK => ?_) AllReadyH.nil
                    go_simp
                    go_at_call 24
                    (with_reducible refine HCN.out.mono ?_)
                    rintro e w5 ⟨rfl, hb, j5, hj5, hr, hd⟩
                    dsimp only at hr hd
                    have H5 := Lib.hid (HS.out.drew.call hb hr)
                    have O5 := Lib.hid (hb.own (owns_below HOS.out (below_drew (Below.refl _ _))) (by have := HS.out.xl; omega))
                    have D5 := Lib.hid hd
                    have O75 := Lib.hid (hb.own (owns_below H7S.out (below_drew (Below.refl _ _))) (by have := H5.out.xl; omega))
                    have g2 := cell_of_heap H5.out.ev (k := 7) rfl
                    clear hb hr hd g1
                    have g1 := g2
                    clear g2
                    refine hK.out _ _ ?_ (fun hHeld3 => ?_)
                    · first | with_reducible exact g1 | go_keep
                    clear hK K hHeld
                    try simp only [Act.put, List.getElem_toArray, List.getElem_cons_zero, List.getElem_cons_succ, List.setIfInBounds_toArray, List.set_cons_zero, List.set_cons_succ]
                    obtain ⟨MM, hMM⟩ : ∃ M, acc2.map (fun z : Int => Value.int .i64 z) = M := ⟨_, rfl⟩
                    have HMM := Lib.hid hMM
                    have hvl := (row_parts O5.out).1
                    have HVL := Lib.hid hvl
                    have HVN : Hid (pn ≤ 4294967296) := Lib.hid (by have := hlen.out; omega)
                    have o5 := O5.out
                    rw [hMM, ← hvl] at o5
                    have O5' := Lib.hid o5
                    clear hMM hvl o5
                    refine wpAnyH_ready (rs := [4]) (by kernel_rfl) (by simp) ?_
                    refine AllReadyH.cons (o := _) rfl (fun K hK => ?_) AllReadyH.nil
                    go_simp
                    have u1 := (World.cell?_alloc_past (w := w5) (.cells #[.int .i64 x] 3) _ _ (World.block_lt_of_cell? w5 _ g1)).trans g1
                    refine hK.out _ _ ?_ (fun hHeld4 => ?_)
                    · first | with_reducible exact g1 | exact u1 | go_keep
                    clear hK K hHeld3
                    try simp only [Act.put, List.getElem_toArray, List.getElem_cons_zero, List.getElem_cons_succ, List.setIfInBounds_toArray, List.set_cons_zero, List.set_cons_succ]
                    refine wpAnyH_ready (rs := [5]) (by kernel_rfl) (by simp) ?_
                    refine AllReadyH.cons (o := _) rfl (fun K hK => ?_) AllReadyH.nil
                    refine step_append_own _ _ 27 rfl (xe + 1) 3 iI (.int .i64 0) 1 8 Try.underlying27 ia ib ic id rfl (by decide) (by decide) _ pn MM rfl O5'.out [.int .i64 x] rfl rfl rfl HVN.out (by have := H5.out.lt; omega) ?_
                    intro v6 w6 ho6 hb6 hk6
                    obtain ⟨wa, wn, wc, rfl⟩ := isSlice_of ho6
                    have H6 := Lib.hid (H5.out.grow hb6)
                    have O6 : Hid (w6.ownsRow (xe + 1) 3 1 (.slice wa wn wc) (acc2 ++ [x]).length ((acc2 ++ [x]).map (fun z : Int => Value.int .i64 z))) := Lib.hid (by
                      rw [List.map_append, HMM.out, List.length_append, ← HVL.out]
                      exact ho6)
                    have O76 := Lib.hid (hk6.row O75.out (by decide))
                    have k1 := cell_of_heap H6.out.ev (k := 7) rfl
                    clear ho6 hb6 hk6 u1 g1
                    have g1 := k1
                    clear k1
                    refine hK.out _ _ ?_ (fun hHeld5 => ?_)
                    · first | with_reducible exact g1 | go_keep
                    clear hK K hHeld4
                    try simp only [Act.put, List.getElem_toArray, List.getElem_cons_zero, List.getElem_cons_succ, List.setIfInBounds_toArray, List.set_cons_zero, List.set_cons_succ]
                    refine wpAnyH_take (i := 6) (oi := _) (v := ?tvd6) rfl (by kernel_rfl) (by kernel_rfl) (by kernel_rfl) (fun _ _ _ h => h) (Or.inl ⟨by kernel_rfl, ?tvdy6⟩) (by assumption) ?tvdr6
                    case tvdy6 => (intro w hSw; (try dsimp only at hSw); go_simp <;> with_reducible rfl)
                    try simp only [Act.put, List.getElem_toArray, List.getElem_cons_zero, List.getElem_cons_succ, List.setIfInBounds_toArray, List.set_cons_zero, List.set_cons_succ]
                    refine wpAnyH_done (by kernel_rfl) ?_ _
                    dsimp only [tailQ]
                    simp only [List.drop_succ_cons, List.drop_zero, List.take_succ_cons, List.take_zero, List.getElem_cons_succ, List.getElem_cons_zero, List.set_cons_zero, List.set_cons_succ]
                    have y6 := free_of_heap (k := 7) H6.out.ev
                    have H7 := Lib.hid (H6.out.set7 (.slice wa wn wc))
                    have O7 := Lib.hid (own_set (b := xe) (k := 7) (u := .slice wa wn wc) O6.out (own_not O6.out H6.out.ev (by decide)))
                    have O77 := Lib.hid (own_set (b := xe) (k := 7) (u := .slice wa wn wc) O76.out (own_not O76.out H6.out.ev (by decide)))
                    have his := HISC.out j5 b3 (w6.setCell ⟨xe, 7, none⟩ (.slice wa wn wc)) H7.out.st.rd hj5
                    have HC := Lib.hid his
                    clear his
                    go_wp2_with fail
                    refine HC.out.mono ?_
                    rintro e wi ⟨rfl, ki, rfl⟩
                    have H8' := Lib.hid (H7.out.drewN ki)
                    have O8' := Lib.hid (owns_drewN O7.out ki)
                    have O78 := Lib.hid (owns_drewN O77.out ki)
                    have HGO : Hid ((b3 = true ∨ j < j5) ∧ j ≤ j5) := Lib.hid (by
                      have h1 := intR_ok.go intR_len Q3.out
                      have h2 : (lS).length ≤ (L.drop j).length := by first | exact Nat.le_refl _ | (have := pass_le 32 (L.drop j, false); rw [QS.out] at this; exact this)
                      have h3 := D5.out
                      rw [← h3] at h1
                      simp only [List.length_drop] at h1 h2
                      exact ⟨h1.1.imp (fun h => h) (fun h => by omega), by omega⟩)
                    have HLP : Hid (loopR intR g (acc2 ++ [x]) (L.drop j5, b3) = R8) := Lib.hid (by
                      have := HP2.out
                      rw [HPS.out, Q3.out] at this
                      rw [D5.out]
                      exact this)
                    go_wp2_with fail
                    go_roundw
                    case rel => exact ⟨g, j5, b3, wa, wn, wc, acc2 ++ [x], rfl, hj5, Lib.hid (by have := hlen.out; simp; omega), H8', O8', Lib.hid (by
                      have h1 := HGO.out.1
                      have h2 := HFU.out
                      simp only [List.length_drop] at h2 ⊢
                      exact h1.imp (fun h => h) (fun h => by omega)), O78, HLP⟩
                    case measure =>
                      have h1 := H8'.out.st.rd.atOf
                      have h2 := H8'.out.st.rd.stOf
                      have h3 := hst.out.st.rd.atOf
                      have h4 := hst.out.st.rd.stOf
                      have h5 := HGO.out
                      rw [if_neg (by simp)] at h4
                      rw [h1, h2, h3, h4]
                      cases hb : b3 with
                      | true => simp; omega
                      | false =>
                        have : j < j5 := by
                          rcases h5.1 with h | h
                          · rw [hb] at h; cases h
                          · exact h
                        simp; omega
                  · have dl : ¬ (0 : Int) < (pn : Int) := by omega
                    have HPS : Hid (sepR acc2 (L.drop j, false) = (L.drop j, false)) := Lib.hid (by unfold sepR; rw [if_neg hacc])
                    have D0 : Hid (L.drop j = L.drop j) := Lib.hid rfl
                    clear hacc hvn
                    have hnx := HRI.out j false wr.drew hst.out.drew.st.rd hj
                    rw [D0.out] at hnx
                    obtain ⟨q, hq⟩ : ∃ q, intR ((L.drop j), false) = q := ⟨_, rfl⟩
                    have hless := intR_ok.less (L.drop j)
                    have hlen3 := intR_len ((L.drop j), false)
                    rw [hq] at hnx
                    obtain ⟨x, l3, b3⟩ := q
                    have Q3 := Lib.hid hq
                    have HCN := Lib.hid hnx
                    have g1 := cell_of_heap hst.out.ev (k := 7) rfl
                    clear hnx hq hless hlen3
                    go_upto_region 26 with fail
                    refine wp_region_tail (S := (fun w' => w'.cell? ⟨xe, 7, none⟩ = some (.slice pa pn pc))) 7 (by kernel_rfl) (by kernel_rfl) ?_ (fun hHeld => ?_)
                    · first | with_reducible exact g1 | go_keep
                    simp only [List.take_succ_cons, List.take_zero]
                    refine wpAnyH_take (i := 0) (oi := _) (v := ?ve0) rfl (by kernel_rfl) (by kernel_rfl) (by kernel_rfl) (fun _ _ _ h => h) (Or.inl ⟨by kernel_rfl, ?vey0⟩) (by assumption) ?ver0
                    case vey0 => (intro w hSw; (try dsimp only at hSw); go_simp <;> with_reducible rfl)
                    try simp only [Act.put, List.getElem_toArray, List.getElem_cons_zero, List.getElem_cons_succ, List.setIfInBounds_toArray, List.set_cons_zero, List.set_cons_succ]
                    refine wpAnyH_take (i := 1) (oi := _) (v := ?ve1) rfl (by kernel_rfl) (by kernel_rfl) (by kernel_rfl) (fun _ _ _ h => h) (Or.inl ⟨by kernel_rfl, ?vey1⟩) (by assumption) ?ver1
                    case vey1 => (intro w hSw; (try dsimp only at hSw); go_simp <;> with_reducible rfl)
                    try simp only [Act.put, List.getElem_toArray, List.getElem_cons_zero, List.getElem_cons_succ, List.setIfInBounds_toArray, List.set_cons_zero, List.set_cons_succ]
                    refine wpAnyH_take (i := 2) (oi := _) (v := ?ve2) rfl (by kernel_rfl) (by kernel_rfl) (by kernel_rfl) (fun _ _ _ h => h) (Or.inl ⟨by kernel_rfl, ?vey2⟩) (by assumption) ?ver2
                    case vey2 => (intro w hSw; (try dsimp only at hSw); go_simp <;> with_reducible rfl)
                    try simp only [Act.put, List.getElem_toArray, List.getElem_cons_zero, List.getElem_cons_succ, List.setIfInBounds_toArray, List.set_cons_zero, List.set_cons_succ]
                    refine wpAnyH_ready (rs := [3]) (by kernel_rfl) (by simp) ?_
                    refine AllReadyH.cons (o := _) rfl (fun K hK => ?_) AllReadyH.nil
                    go_simp
                    go_at_call 24
                    (with_reducible refine HCN.out.mono ?_)
                    rintro e w5 ⟨rfl, hb, j5, hj5, hr, hd⟩
                    dsimp only at hr hd
                    have H5 := Lib.hid (hst.out.drew.call hb hr)
                    have O5 := Lib.hid (hb.own (owns_below hown.out (below_drew (Below.refl _ _))) (by have := hst.out.xl; omega))
                    have D5 := Lib.hid hd
                    have O75 := Lib.hid (hb.own (owns_below h7o.out (below_drew (Below.refl _ _))) (by have := H5.out.xl; omega))
                    have g2 := cell_of_heap H5.out.ev (k := 7) rfl
                    clear hb hr hd g1
                    have g1 := g2
                    clear g2
                    refine hK.out _ _ ?_ (fun hHeld3 => ?_)
                    · first | with_reducible exact g1 | go_keep
                    clear hK K hHeld
                    try simp only [Act.put, List.getElem_toArray, List.getElem_cons_zero, List.getElem_cons_succ, List.setIfInBounds_toArray, List.set_cons_zero, List.set_cons_succ]
                    obtain ⟨MM, hMM⟩ : ∃ M, acc2.map (fun z : Int => Value.int .i64 z) = M := ⟨_, rfl⟩
                    have HMM := Lib.hid hMM
                    have hvl := (row_parts O5.out).1
                    have HVL := Lib.hid hvl
                    have HVN : Hid (pn ≤ 4294967296) := Lib.hid (by have := hlen.out; omega)
                    have o5 := O5.out
                    rw [hMM, ← hvl] at o5
                    have O5' := Lib.hid o5
                    clear hMM hvl o5
                    refine wpAnyH_ready (rs := [4]) (by kernel_rfl) (by simp) ?_
                    refine AllReadyH.cons (o := _) rfl (fun K hK => ?_) AllReadyH.nil
                    go_simp
                    have u1 := (World.cell?_alloc_past (w := w5) (.cells #[.int .i64 x] 3) _ _ (World.block_lt_of_cell? w5 _ g1)).trans g1
                    refine hK.out _ _ ?_ (fun hHeld4 => ?_)
                    · first | with_reducible exact g1 | exact u1 | go_keep
                    clear hK K hHeld3
                    try simp only [Act.put, List.getElem_toArray, List.getElem_cons_zero, List.getElem_cons_succ, List.setIfInBounds_toArray, List.set_cons_zero, List.set_cons_succ]
                    refine wpAnyH_ready (rs := [5]) (by kernel_rfl) (by simp) ?_
                    refine AllReadyH.cons (o := _) rfl (fun K hK => ?_) AllReadyH.nil
                    refine step_append_own _ _ 27 rfl (xe + 1) 3 iI (.int .i64 0) 1 8 Try.underlying27 ia ib ic id rfl (by decide) (by decide) _ pn MM rfl O5'.out [.int .i64 x] rfl rfl rfl HVN.out (by have := H5.out.lt; omega) ?_
                    intro v6 w6 ho6 hb6 hk6
                    obtain ⟨wa, wn, wc, rfl⟩ := isSlice_of ho6
                    have H6 := Lib.hid (H5.out.grow hb6)
                    have O6 : Hid (w6.ownsRow (xe + 1) 3 1 (.slice wa wn wc) (acc2 ++ [x]).length ((acc2 ++ [x]).map (fun z : Int => Value.int .i64 z))) := Lib.hid (by
                      rw [List.map_append, HMM.out, List.length_append, ← HVL.out]
                      exact ho6)
                    have O76 := Lib.hid (hk6.row O75.out (by decide))
                    have k1 := cell_of_heap H6.out.ev (k := 7) rfl
                    clear ho6 hb6 hk6 u1 g1
                    have g1 := k1
                    clear k1
                    refine hK.out _ _ ?_ (fun hHeld5 => ?_)
                    · first | with_reducible exact g1 | go_keep
                    clear hK K hHeld4
                    try simp only [Act.put, List.getElem_toArray, List.getElem_cons_zero, List.getElem_cons_succ, List.setIfInBounds_toArray, List.set_cons_zero, List.set_cons_succ]
                    refine wpAnyH_take (i := 6) (oi := _) (v := ?tve6) rfl (by kernel_rfl) (by kernel_rfl) (by kernel_rfl) (fun _ _ _ h => h) (Or.inl ⟨by kernel_rfl, ?tvey6⟩) (by assumption) ?tver6
                    case tvey6 => (intro w hSw; (try dsimp only at hSw); go_simp <;> with_reducible rfl)
                    try simp only [Act.put, List.getElem_toArray, List.getElem_cons_zero, List.getElem_cons_succ, List.setIfInBounds_toArray, List.set_cons_zero, List.set_cons_succ]
                    refine wpAnyH_done (by kernel_rfl) ?_ _
                    dsimp only [tailQ]
                    simp only [List.drop_succ_cons, List.drop_zero, List.take_succ_cons, List.take_zero, List.getElem_cons_succ, List.getElem_cons_zero, List.set_cons_zero, List.set_cons_succ]
                    have y6 := free_of_heap (k := 7) H6.out.ev
                    have H7 := Lib.hid (H6.out.set7 (.slice wa wn wc))
                    have O7 := Lib.hid (own_set (b := xe) (k := 7) (u := .slice wa wn wc) O6.out (own_not O6.out H6.out.ev (by decide)))
                    have O77 := Lib.hid (own_set (b := xe) (k := 7) (u := .slice wa wn wc) O76.out (own_not O76.out H6.out.ev (by decide)))
                    have his := HISC.out j5 b3 (w6.setCell ⟨xe, 7, none⟩ (.slice wa wn wc)) H7.out.st.rd hj5
                    have HC := Lib.hid his
                    clear his
                    go_wp2_with fail
                    refine HC.out.mono ?_
                    rintro e wi ⟨rfl, ki, rfl⟩
                    have H8' := Lib.hid (H7.out.drewN ki)
                    have O8' := Lib.hid (owns_drewN O7.out ki)
                    have O78 := Lib.hid (owns_drewN O77.out ki)
                    have HGO : Hid ((b3 = true ∨ j < j5) ∧ j ≤ j5) := Lib.hid (by
                      have h1 := intR_ok.go intR_len Q3.out
                      have h2 : ((L.drop j)).length ≤ (L.drop j).length := by first | exact Nat.le_refl _ | (have := pass_le 32 (L.drop j, false); rw [QS.out] at this; exact this)
                      have h3 := D5.out
                      rw [← h3] at h1
                      simp only [List.length_drop] at h1 h2
                      exact ⟨h1.1.imp (fun h => h) (fun h => by omega), by omega⟩)
                    have HLP : Hid (loopR intR g (acc2 ++ [x]) (L.drop j5, b3) = R8) := Lib.hid (by
                      have := HP2.out
                      rw [HPS.out, Q3.out] at this
                      rw [D5.out]
                      exact this)
                    go_wp2_with fail
                    go_roundw
                    case rel => exact ⟨g, j5, b3, wa, wn, wc, acc2 ++ [x], rfl, hj5, Lib.hid (by have := hlen.out; simp; omega), H8', O8', Lib.hid (by
                      have h1 := HGO.out.1
                      have h2 := HFU.out
                      simp only [List.length_drop] at h2 ⊢
                      exact h1.imp (fun h => h) (fun h => by omega)), O78, HLP⟩
                    case measure =>
                      have h1 := H8'.out.st.rd.atOf
                      have h2 := H8'.out.st.rd.stOf
                      have h3 := hst.out.st.rd.atOf
                      have h4 := hst.out.st.rd.stOf
                      have h5 := HGO.out
                      rw [if_neg (by simp)] at h4
                      rw [h1, h2, h3, h4]
                      cases hb : b3 with
                      | true => simp; omega
                      | false =>
                        have : j < j5 := by
                          rcases h5.1 with h | h
                          · rw [hb] at h; cases h
                          · exact h
                        simp; omega
          | false =>
            obtain ⟨g, rfl⟩ : ∃ g, f = g + 1 := by
              rcases hfu.out with h | h
              · cases h
              · exact ⟨f - 1, by omega⟩
            have HFU : Hid ((L.drop j).length < g + 1) := Lib.hid (by
              rcases hfu.out with h | h
              · cases h
              · exact h)
            have hp2 := hp.out
            rw [loopR, if_neg (by rw [h93]; simp)] at hp2
            have HP2 := Lib.hid hp2
            have g1 := cell_of_heap hst.out.ev (k := 6) rfl
            have hvn : vn = acc.length := (row_parts hown.out).1
            clear h93 hp hfu hp2
            by_cases hacc : 0 < acc.length
            · have dl : (0 : Int) < (vn : Int) := by omega
              have HSEP : Hid (sepR acc (L.drop j, false) = passP 32 (L.drop j, false)) := Lib.hid (by unfold sepR; rw [if_pos hacc])
              clear hacc hvn
              have DS0 : Hid (L.drop j = L.drop j) := Lib.hid rfl
              have hsg := HSGC.out 32 j false wr (by decide) hst.out.st.rd hj
              rw [DS0.out] at hsg
              obtain ⟨q, hq⟩ : ∃ q, passP 32 ((L.drop j), false) = q := ⟨_, rfl⟩
              rw [hq] at hsg
              obtain ⟨lS, bS⟩ := q
              have QS := Lib.hid hq
              have HC := Lib.hid hsg
              clear hsg hq
              go_wp2_with fail
              refine HC.out.mono ?_
              rintro e wS ⟨rfl, hb, jS, hjS, hr, hd⟩
              dsimp only at hr hd
              have HS := Lib.hid (hst.out.call hb hr)
              have BS := Lib.hid hb
              have DS := Lib.hid hd
              clear hb hr hd HC
              have HPS : Hid (sepR acc (L.drop j, false) = (lS, bS)) := Lib.hid (by rw [HSEP.out, QS.out])
              have HOS := Lib.hid (BS.out.own hown.out (by have := hst.out.xl; omega))
              have hnx := HDG.out jS bS wS.drew HS.out.drew.st.rd hjS
              rw [DS.out] at hnx
              obtain ⟨q, hq⟩ : ∃ q, wordR (lS, bS) = q := ⟨_, rfl⟩
              have hless := wordR_ok.less lS
              have hlen3 := wordR_len (lS, bS)
              rw [hq] at hnx
              obtain ⟨x, l3, b3⟩ := q
              have Q3 := Lib.hid hq
              have HCN := Lib.hid hnx
              have g1 := cell_of_heap HS.out.ev (k := 6) rfl
              clear hnx hq hless hlen3
              go_upto_region 17 with fail
              refine wp_region_tail (S := (fun w' => w'.cell? ⟨xe, 6, none⟩ = some (.slice va vn vc))) 7 (by kernel_rfl) (by kernel_rfl) ?_ (fun hHeld => ?_)
              · first | with_reducible exact g1 | go_keep
              simp only [List.take_succ_cons, List.take_zero]
              refine wpAnyH_take (i := 0) (oi := _) (v := ?vf0) rfl (by kernel_rfl) (by kernel_rfl) (by kernel_rfl) (fun _ _ _ h => h) (Or.inl ⟨by kernel_rfl, ?vfy0⟩) (by assumption) ?vfr0
              case vfy0 => (intro w hSw; (try dsimp only at hSw); go_simp <;> with_reducible rfl)
              try simp only [Act.put, List.getElem_toArray, List.getElem_cons_zero, List.getElem_cons_succ, List.setIfInBounds_toArray, List.set_cons_zero, List.set_cons_succ]
              refine wpAnyH_take (i := 1) (oi := _) (v := ?vf1) rfl (by kernel_rfl) (by kernel_rfl) (by kernel_rfl) (fun _ _ _ h => h) (Or.inl ⟨by kernel_rfl, ?vfy1⟩) (by assumption) ?vfr1
              case vfy1 => (intro w hSw; (try dsimp only at hSw); go_simp <;> with_reducible rfl)
              try simp only [Act.put, List.getElem_toArray, List.getElem_cons_zero, List.getElem_cons_succ, List.setIfInBounds_toArray, List.set_cons_zero, List.set_cons_succ]
              refine wpAnyH_take (i := 2) (oi := _) (v := ?vf2) rfl (by kernel_rfl) (by kernel_rfl) (by kernel_rfl) (fun _ _ _ h => h) (Or.inl ⟨by kernel_rfl, ?vfy2⟩) (by assumption) ?vfr2
              case vfy2 => (intro w hSw; (try dsimp only at hSw); go_simp <;> with_reducible rfl)
              try simp only [Act.put, List.getElem_toArray, List.getElem_cons_zero, List.getElem_cons_succ, List.setIfInBounds_toArray, List.set_cons_zero, List.set_cons_succ]
              refine wpAnyH_take (i := 3) (oi := _) (v := ?vf3) rfl (by kernel_rfl) (by kernel_rfl) (by kernel_rfl) (fun _ _ _ h => h) (Or.inl ⟨by kernel_rfl, ?vfy3⟩) (by assumption) ?vfr3
              case vfy3 => (intro w hSw; (try dsimp only at hSw); go_simp <;> with_reducible rfl)
              try simp only [Act.put, List.getElem_toArray, List.getElem_cons_zero, List.getElem_cons_succ, List.setIfInBounds_toArray, List.set_cons_zero, List.set_cons_succ]
              refine wpAnyH_ready (rs := [4]) (by kernel_rfl) (by simp) ?_
              refine AllReadyH.cons (o := _) rfl (fun K hK => ?_) AllReadyH.nil
              go_simp
              go_at_call 26
              (with_reducible refine HCN.out.mono ?_)
              rintro e w5 ⟨rfl, hb, j5, hj5, hr, hd⟩
              dsimp only at hr hd
              have H5 := Lib.hid (HS.out.drew.call hb hr)
              have O5 := Lib.hid (hb.own (owns_below HOS.out (below_drew (Below.refl _ _))) (by have := HS.out.xl; omega))
              have D5 := Lib.hid hd
              have g2 := cell_of_heap H5.out.ev (k := 6) rfl
              clear hb hr hd g1
              have g1 := g2
              clear g2
              refine hK.out _ _ ?_ (fun hHeld4 => ?_)
              · first | with_reducible exact g1 | go_keep
              clear hK K hHeld
              try simp only [Act.put, List.getElem_toArray, List.getElem_cons_zero, List.getElem_cons_succ, List.setIfInBounds_toArray, List.set_cons_zero, List.set_cons_succ]
              obtain ⟨MM, hMM⟩ : ∃ M, acc.map (fun z : Nat => Value.int .u64 (z : Int)) = M := ⟨_, rfl⟩
              have HMM := Lib.hid hMM
              have hvl := (row_parts O5.out).1
              have HVL := Lib.hid hvl
              have HVN : Hid (vn ≤ 4294967296) := Lib.hid (by have := hlen.out; omega)
              have o5 := O5.out
              rw [hMM, ← hvl] at o5
              have O5' := Lib.hid o5
              clear hMM hvl o5
              refine wpAnyH_ready (rs := [5]) (by kernel_rfl) (by simp) ?_
              refine AllReadyH.cons (o := _) rfl (fun K hK => ?_) AllReadyH.nil
              go_simp
              have u1 := (World.cell?_alloc_past (w := w5) (.cells #[.int .u64 (x : Int)] 23) _ _ (World.block_lt_of_cell? w5 _ g1)).trans g1
              refine hK.out _ _ ?_ (fun hHeld5 => ?_)
              · first | with_reducible exact g1 | exact u1 | go_keep
              clear hK K hHeld4
              try simp only [Act.put, List.getElem_toArray, List.getElem_cons_zero, List.getElem_cons_succ, List.setIfInBounds_toArray, List.set_cons_zero, List.set_cons_succ]
              refine wpAnyH_ready (rs := [6]) (by kernel_rfl) (by simp) ?_
              refine AllReadyH.cons (o := _) rfl (fun K hK => ?_) AllReadyH.nil
              refine step_append_own _ _ 24 rfl (xe + 1) 23 iU (.int .u64 0) 1 8 Try.underlying24 ua ub uc ud rfl (by decide) (by decide) _ vn MM rfl O5'.out [.int .u64 (x : Int)] rfl rfl rfl HVN.out (by have := H5.out.lt; omega) ?_
              intro v6 w6 ho6 hb6 hk6
              obtain ⟨wa, wn, wc, rfl⟩ := isSlice_of ho6
              have H6 := Lib.hid (H5.out.grow hb6)
              have O6 : Hid (w6.ownsRow (xe + 1) 23 1 (.slice wa wn wc) (acc ++ [x]).length ((acc ++ [x]).map (fun z : Nat => Value.int .u64 (z : Int)))) := Lib.hid (by
                rw [List.map_append, HMM.out, List.length_append, ← HVL.out]
                exact ho6)
              have k1 := cell_of_heap H6.out.ev (k := 6) rfl
              clear ho6 hb6 hk6 u1 g1
              have g1 := k1
              clear k1
              refine hK.out _ _ ?_ (fun hHeld6 => ?_)
              · first | with_reducible exact g1 | go_keep
              clear hK K hHeld5
              try simp only [Act.put, List.getElem_toArray, List.getElem_cons_zero, List.getElem_cons_succ, List.setIfInBounds_toArray, List.set_cons_zero, List.set_cons_succ]
              refine wpAnyH_done (by kernel_rfl) ?_ _
              dsimp only [tailQ]
              simp only [List.drop_succ_cons, List.drop_zero, List.take_succ_cons, List.take_zero, List.getElem_cons_succ, List.getElem_cons_zero, List.set_cons_zero, List.set_cons_succ]
              have y6 := free_of_heap (k := 6) H6.out.ev
              have H7 := Lib.hid (H6.out.set6 (.slice wa wn wc))
              have O7 := Lib.hid (own_set (b := xe) (k := 6) (u := .slice wa wn wc) O6.out (own_not O6.out H6.out.ev (by decide)))
              have his := HISC.out j5 b3 (w6.setCell ⟨xe, 6, none⟩ (.slice wa wn wc)) H7.out.st.rd hj5
              have HC := Lib.hid his
              clear his
              go_wp2_with fail
              refine HC.out.mono ?_
              rintro e wi ⟨rfl, ki, rfl⟩
              have H8' := Lib.hid (H7.out.drewN ki)
              have O8' := Lib.hid (owns_drewN O7.out ki)
              have HGO : Hid ((b3 = true ∨ j < j5) ∧ j ≤ j5) := Lib.hid (by
                have h1 := wordR_ok.go wordR_len Q3.out
                have h2 : (lS).length ≤ (L.drop j).length := by first | exact Nat.le_refl _ | (have := pass_le 32 (L.drop j, false); rw [QS.out] at this; exact this)
                have h3 := D5.out
                rw [← h3] at h1
                simp only [List.length_drop] at h1 h2
                exact ⟨h1.1.imp (fun h => h) (fun h => by omega), by omega⟩)
              have HLP : Hid (loopR wordR g (acc ++ [x]) (L.drop j5, b3) = R7) := Lib.hid (by
                have := HP2.out
                rw [HPS.out, Q3.out] at this
                rw [D5.out]
                exact this)
              go_wp2_with fail
              go_roundw
              case rel => exact ⟨g, j5, b3, wa, wn, wc, acc ++ [x], rfl, hj5, Lib.hid (by have := hlen.out; simp; omega), H8', O8', Lib.hid (by
                have h1 := HGO.out.1
                have h2 := HFU.out
                simp only [List.length_drop] at h2 ⊢
                exact h1.imp (fun h => h) (fun h => by omega)), HLP⟩
              case measure =>
                have h1 := H8'.out.st.rd.atOf
                have h2 := H8'.out.st.rd.stOf
                have h3 := hst.out.st.rd.atOf
                have h4 := hst.out.st.rd.stOf
                have h5 := HGO.out
                rw [if_neg (by simp)] at h4
                rw [h1, h2, h3, h4]
                cases hb : b3 with
                | true => simp; omega
                | false =>
                  have : j < j5 := by
                    rcases h5.1 with h | h
                    · rw [hb] at h; cases h
                    · exact h
                  simp; omega
            · have dl : ¬ (0 : Int) < (vn : Int) := by omega
              have HPS : Hid (sepR acc (L.drop j, false) = (L.drop j, false)) := Lib.hid (by unfold sepR; rw [if_neg hacc])
              have D0 : Hid (L.drop j = L.drop j) := Lib.hid rfl
              clear hacc hvn
              have hnx := HDG.out j false wr.drew hst.out.drew.st.rd hj
              rw [D0.out] at hnx
              obtain ⟨q, hq⟩ : ∃ q, wordR ((L.drop j), false) = q := ⟨_, rfl⟩
              have hless := wordR_ok.less (L.drop j)
              have hlen3 := wordR_len ((L.drop j), false)
              rw [hq] at hnx
              obtain ⟨x, l3, b3⟩ := q
              have Q3 := Lib.hid hq
              have HCN := Lib.hid hnx
              have g1 := cell_of_heap hst.out.ev (k := 6) rfl
              clear hnx hq hless hlen3
              go_upto_region 17 with fail
              refine wp_region_tail (S := (fun w' => w'.cell? ⟨xe, 6, none⟩ = some (.slice va vn vc))) 7 (by kernel_rfl) (by kernel_rfl) ?_ (fun hHeld => ?_)
              · first | with_reducible exact g1 | go_keep
              simp only [List.take_succ_cons, List.take_zero]
              refine wpAnyH_take (i := 0) (oi := _) (v := ?vg0) rfl (by kernel_rfl) (by kernel_rfl) (by kernel_rfl) (fun _ _ _ h => h) (Or.inl ⟨by kernel_rfl, ?vgy0⟩) (by assumption) ?vgr0
              case vgy0 => (intro w hSw; (try dsimp only at hSw); go_simp <;> with_reducible rfl)
              try simp only [Act.put, List.getElem_toArray, List.getElem_cons_zero, List.getElem_cons_succ, List.setIfInBounds_toArray, List.set_cons_zero, List.set_cons_succ]
              refine wpAnyH_take (i := 1) (oi := _) (v := ?vg1) rfl (by kernel_rfl) (by kernel_rfl) (by kernel_rfl) (fun _ _ _ h => h) (Or.inl ⟨by kernel_rfl, ?vgy1⟩) (by assumption) ?vgr1
              case vgy1 => (intro w hSw; (try dsimp only at hSw); go_simp <;> with_reducible rfl)
              try simp only [Act.put, List.getElem_toArray, List.getElem_cons_zero, List.getElem_cons_succ, List.setIfInBounds_toArray, List.set_cons_zero, List.set_cons_succ]
              refine wpAnyH_take (i := 2) (oi := _) (v := ?vg2) rfl (by kernel_rfl) (by kernel_rfl) (by kernel_rfl) (fun _ _ _ h => h) (Or.inl ⟨by kernel_rfl, ?vgy2⟩) (by assumption) ?vgr2
              case vgy2 => (intro w hSw; (try dsimp only at hSw); go_simp <;> with_reducible rfl)
              try simp only [Act.put, List.getElem_toArray, List.getElem_cons_zero, List.getElem_cons_succ, List.setIfInBounds_toArray, List.set_cons_zero, List.set_cons_succ]
              refine wpAnyH_take (i := 3) (oi := _) (v := ?vg3) rfl (by kernel_rfl) (by kernel_rfl) (by kernel_rfl) (fun _ _ _ h => h) (Or.inl ⟨by kernel_rfl, ?vgy3⟩) (by assumption) ?vgr3
              case vgy3 => (intro w hSw; (try dsimp only at hSw); go_simp <;> with_reducible rfl)
              try simp only [Act.put, List.getElem_toArray, List.getElem_cons_zero, List.getElem_cons_succ, List.setIfInBounds_toArray, List.set_cons_zero, List.set_cons_succ]
              refine wpAnyH_ready (rs := [4]) (by kernel_rfl) (by simp) ?_
              refine AllReadyH.cons (o := _) rfl (fun K hK => ?_) AllReadyH.nil
              go_simp
              go_at_call 26
              (with_reducible refine HCN.out.mono ?_)
              rintro e w5 ⟨rfl, hb, j5, hj5, hr, hd⟩
              dsimp only at hr hd
              have H5 := Lib.hid (hst.out.drew.call hb hr)
              have O5 := Lib.hid (hb.own (owns_below hown.out (below_drew (Below.refl _ _))) (by have := hst.out.xl; omega))
              have D5 := Lib.hid hd
              have g2 := cell_of_heap H5.out.ev (k := 6) rfl
              clear hb hr hd g1
              have g1 := g2
              clear g2
              refine hK.out _ _ ?_ (fun hHeld4 => ?_)
              · first | with_reducible exact g1 | go_keep
              clear hK K hHeld
              try simp only [Act.put, List.getElem_toArray, List.getElem_cons_zero, List.getElem_cons_succ, List.setIfInBounds_toArray, List.set_cons_zero, List.set_cons_succ]
              obtain ⟨MM, hMM⟩ : ∃ M, acc.map (fun z : Nat => Value.int .u64 (z : Int)) = M := ⟨_, rfl⟩
              have HMM := Lib.hid hMM
              have hvl := (row_parts O5.out).1
              have HVL := Lib.hid hvl
              have HVN : Hid (vn ≤ 4294967296) := Lib.hid (by have := hlen.out; omega)
              have o5 := O5.out
              rw [hMM, ← hvl] at o5
              have O5' := Lib.hid o5
              clear hMM hvl o5
              refine wpAnyH_ready (rs := [5]) (by kernel_rfl) (by simp) ?_
              refine AllReadyH.cons (o := _) rfl (fun K hK => ?_) AllReadyH.nil
              go_simp
              have u1 := (World.cell?_alloc_past (w := w5) (.cells #[.int .u64 (x : Int)] 23) _ _ (World.block_lt_of_cell? w5 _ g1)).trans g1
              refine hK.out _ _ ?_ (fun hHeld5 => ?_)
              · first | with_reducible exact g1 | exact u1 | go_keep
              clear hK K hHeld4
              try simp only [Act.put, List.getElem_toArray, List.getElem_cons_zero, List.getElem_cons_succ, List.setIfInBounds_toArray, List.set_cons_zero, List.set_cons_succ]
              refine wpAnyH_ready (rs := [6]) (by kernel_rfl) (by simp) ?_
              refine AllReadyH.cons (o := _) rfl (fun K hK => ?_) AllReadyH.nil
              refine step_append_own _ _ 24 rfl (xe + 1) 23 iU (.int .u64 0) 1 8 Try.underlying24 ua ub uc ud rfl (by decide) (by decide) _ vn MM rfl O5'.out [.int .u64 (x : Int)] rfl rfl rfl HVN.out (by have := H5.out.lt; omega) ?_
              intro v6 w6 ho6 hb6 hk6
              obtain ⟨wa, wn, wc, rfl⟩ := isSlice_of ho6
              have H6 := Lib.hid (H5.out.grow hb6)
              have O6 : Hid (w6.ownsRow (xe + 1) 23 1 (.slice wa wn wc) (acc ++ [x]).length ((acc ++ [x]).map (fun z : Nat => Value.int .u64 (z : Int)))) := Lib.hid (by
                rw [List.map_append, HMM.out, List.length_append, ← HVL.out]
                exact ho6)
              have k1 := cell_of_heap H6.out.ev (k := 6) rfl
              clear ho6 hb6 hk6 u1 g1
              have g1 := k1
              clear k1
              refine hK.out _ _ ?_ (fun hHeld6 => ?_)
              · first | with_reducible exact g1 | go_keep
              clear hK K hHeld5
              try simp only [Act.put, List.getElem_toArray, List.getElem_cons_zero, List.getElem_cons_succ, List.setIfInBounds_toArray, List.set_cons_zero, List.set_cons_succ]
              refine wpAnyH_done (by kernel_rfl) ?_ _
              dsimp only [tailQ]
              simp only [List.drop_succ_cons, List.drop_zero, List.take_succ_cons, List.take_zero, List.getElem_cons_succ, List.getElem_cons_zero, List.set_cons_zero, List.set_cons_succ]
              have y6 := free_of_heap (k := 6) H6.out.ev
              have H7 := Lib.hid (H6.out.set6 (.slice wa wn wc))
              have O7 := Lib.hid (own_set (b := xe) (k := 6) (u := .slice wa wn wc) O6.out (own_not O6.out H6.out.ev (by decide)))
              have his := HISC.out j5 b3 (w6.setCell ⟨xe, 6, none⟩ (.slice wa wn wc)) H7.out.st.rd hj5
              have HC := Lib.hid his
              clear his
              go_wp2_with fail
              refine HC.out.mono ?_
              rintro e wi ⟨rfl, ki, rfl⟩
              have H8' := Lib.hid (H7.out.drewN ki)
              have O8' := Lib.hid (owns_drewN O7.out ki)
              have HGO : Hid ((b3 = true ∨ j < j5) ∧ j ≤ j5) := Lib.hid (by
                have h1 := wordR_ok.go wordR_len Q3.out
                have h2 : ((L.drop j)).length ≤ (L.drop j).length := by first | exact Nat.le_refl _ | (have := pass_le 32 (L.drop j, false); rw [QS.out] at this; exact this)
                have h3 := D5.out
                rw [← h3] at h1
                simp only [List.length_drop] at h1 h2
                exact ⟨h1.1.imp (fun h => h) (fun h => by omega), by omega⟩)
              have HLP : Hid (loopR wordR g (acc ++ [x]) (L.drop j5, b3) = R7) := Lib.hid (by
                have := HP2.out
                rw [HPS.out, Q3.out] at this
                rw [D5.out]
                exact this)
              go_wp2_with fail
              go_roundw
              case rel => exact ⟨g, j5, b3, wa, wn, wc, acc ++ [x], rfl, hj5, Lib.hid (by have := hlen.out; simp; omega), H8', O8', Lib.hid (by
                have h1 := HGO.out.1
                have h2 := HFU.out
                simp only [List.length_drop] at h2 ⊢
                exact h1.imp (fun h => h) (fun h => by omega)), HLP⟩
              case measure =>
                have h1 := H8'.out.st.rd.atOf
                have h2 := H8'.out.st.rd.stOf
                have h3 := hst.out.st.rd.atOf
                have h4 := hst.out.st.rd.stOf
                have h5 := HGO.out
                rw [if_neg (by simp)] at h4
                rw [h1, h2, h3, h4]
                cases hb : b3 with
                | true => simp; omega
                | false =>
                  have : j < j5 := by
                    rcases h5.1 with h | h
                    · rw [hb] at h; cases h
                    · exact h
                  simp; omega
end Go.Proofs.Ytgmgpbplgiicoaa
