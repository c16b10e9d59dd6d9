/- Walk of the tally's Play. | The tally at the program: MachOk; Size, Place, Play. | Walk of the laws on tallies: one, and where plays aren't played. -/
import Derived.Test.YtcedfcdhdgmelaaG8a
import Derived.Test.YtcedfcdhdgmelaaG8b
import Derived.Test.YtcedfcdhdgmelaaGZ3
namespace Go.Proofs.Ytcedfcdhdgmelaa
section
open Go.RowKit
set_option linter.unusedVariables false
theorem talPlay_any_new (w : World) : Calls Try.prog 28 #[] w fun e w' => e = .returned (.iface 84 (.agg #[])) ∧ w = w' := by
  go_enter Try.func28, Try.ntmps28
  go_wp2
  go_ret
  exact ⟨rfl, rfl⟩
set_option maxRecDepth 100000 in
set_option maxHeartbeats 4000000 in
theorem talPlay_any (n : Int) (I : St (talM n.toNat) → Prop) (size er : Nat) (ao : Option Addr) (b o cap : Nat) (cs : List CallV) (ao3 : Option Addr) (b3 o3 cap3 : Nat) (picks : List Int) (w : World) (ha : 0 < cs.length → ao = some ⟨b, o, none⟩) (hb : 0 < cs.length → b < w.heap.size) (hc : CallsAt w b o cs) (hcap : ao = none → cap = 0)
    (ha3 : 0 < picks.length → ao3 = some ⟨b3, o3, none⟩) (hb3 : 0 < picks.length → b3 < w.heap.size) (hc3 : ICells w b3 o3 picks) (hnp : picks.length ≤ 9223372036854775807)
    (hS : checkL n (thr cs) picks.length = 0 → SizeC 84 (.agg #[]) n size er) (hP : checkL n (thr cs) picks.length = 0 → er = 0 → NotFilled 84 (.agg #[]) ∧ PlaceC cs I [] 84 (.agg #[]) n ∧ 1 ≤ size ∧ size ≤ 65536 ∧ I (stM cs (List.replicate size 0) [])) :
    Calls Try.prog 15 #[.int .i64 n, .slice ao cs.length cap, .slice ao3 picks.length cap3] w (PlayG (talM n.toNat) n er cs (List.replicate size 0) [] picks w) := by
  have HA := Lib.hid ha
  have HB := Lib.hid hb
  have HC := Lib.hid hc
  have HA3 := Lib.hid ha3
  have HB3 := Lib.hid hb3
  have HC3 := Lib.hid hc3
  have HCP := Lib.hid hcap
  have HS := Lib.hid hS
  have HP := Lib.hid hP
  clear ha hb hc ha3 hb3 hc3 hcap hS hP
  go_enter Try.func15, Try.ntmps15
  go_wp2_with fail
  refine (talPlay_any_new _).mono ?_
  rintro e w1 ⟨rfl, rfl⟩
  go_wp2_with fail
  generalize hw2 : (w.alloc (.cells #[.slice none 0 0, .slice none 0 0, .int .i64 0, .int .i64 0, .int .i64 0, .int .i64 0, .int .i64 0, .int .i64 0, .int .i64 0] 31)).alloc (.cells #[.iface 84 (.agg #[])] 55) = w2
  have HBa : Hid (Below w.heap.size w w2) := Lib.hid (by rw [← hw2]; exact ((Below.refl w.heap.size w).alloc (Nat.le_refl _) _).alloc (by simp) _)
  have hsz2 : w2.heap.size = w.heap.size + 2 := by rw [← hw2]; simp
  have hz2 : RowBlk 31 w2 w.heap.size zeroVs := by rw [← hw2]; exact (RowBlk.new w zeroVs 31).alloc _
  have hob2 : w2.cell? ⟨w.heap.size + 1, 0, none⟩ = some (.iface 84 (.agg #[])) := by rw [← hw2, World.cell?_alloc_at _ _ _ _ (by simp)]; rfl
  have HZ2 := Lib.hid hz2
  clear hz2 hw2
  refine (play_any I [] 84 (.agg #[]) n size er ao b o cap cs ao3 b3 o3 cap3 picks (w.heap.size + 1) 1 w2 HA.out (fun h => by have := HB.out h; omega) (HC.out.stays HBa.out HB.out) HCP.out HA3.out (fun h => by have := HB3.out h; omega) (HC3.out.stays HBa.out HB3.out) hnp hob2 HS.out HP.out).mono ?_
  rintro e w3 ⟨a1, n1, c1, a2, n2, c2, i0, i1, i2, i3, i4, i5, i6, v, rfl, rfl, hv1, hv2, hb3⟩
  have hz := HZ2.out.same (hb3.block _ (by omega))
  have HB3' : Hid (Below w.heap.size w w3) := Lib.hid (HBa.out.trans (hb3.mono (by omega)))
  have HV1 := Lib.hid hv1
  have HV2 := Lib.hid hv2
  have r0 := hz.cell (i := 0) rfl
  have r1 := hz.cell (i := 1) rfl
  have r2 := hz.cell (i := 2) rfl
  have r3 := hz.cell (i := 3) rfl
  have r4 := hz.cell (i := 4) rfl
  have r5 := hz.cell (i := 5) rfl
  have r6 := hz.cell (i := 6) rfl
  have r7 := hz.cell (i := 7) rfl
  have r8 := hz.cell (i := 8) rfl
  have fr : ∀ k, w3.frozen? ⟨w.heap.size, k, none⟩ = false := fun k => hz.free
  have HZ3 := Lib.hid hz
  clear hb3 hz hob2 hv1 hv2
  go_wp2_with fail
  have H7 : Hid (RowBlk 31 (((((((((w3.setCell ⟨w.heap.size, 0, none⟩ (.slice a1 n1 c1)).setCell ⟨w.heap.size, 1, none⟩ (.slice a2 n2 c2)).setCell ⟨w.heap.size, 2, none⟩ (.int .i64 i0)).setCell ⟨w.heap.size, 3, none⟩ (.int .i64 i1)).setCell ⟨w.heap.size, 4, none⟩ (.int .i64 i2)).setCell ⟨w.heap.size, 5, none⟩ (.int .i64 i3)).setCell ⟨w.heap.size, 6, none⟩ (.int .i64 i4)).setCell ⟨w.heap.size, 7, none⟩ (.int .i64 i5)).setCell ⟨w.heap.size, 8, none⟩ (.int .i64 i6)) w.heap.size [.slice a1 n1 c1, .slice a2 n2 c2, .int .i64 i0, .int .i64 i1, .int .i64 i2, .int .i64 i3, .int .i64 i4, .int .i64 i5, .int .i64 i6] ∧
      (playErr n cs picks.length er = 0 → RepG w.heap.size (((((((((w3.setCell ⟨w.heap.size, 0, none⟩ (.slice a1 n1 c1)).setCell ⟨w.heap.size, 1, none⟩ (.slice a2 n2 c2)).setCell ⟨w.heap.size, 2, none⟩ (.int .i64 i0)).setCell ⟨w.heap.size, 3, none⟩ (.int .i64 i1)).setCell ⟨w.heap.size, 4, none⟩ (.int .i64 i2)).setCell ⟨w.heap.size, 5, none⟩ (.int .i64 i3)).setCell ⟨w.heap.size, 6, none⟩ (.int .i64 i4)).setCell ⟨w.heap.size, 7, none⟩ (.int .i64 i5)).setCell ⟨w.heap.size, 8, none⟩ (.int .i64 i6)) (.agg #[.slice a1 n1 c1, .slice a2 n2 c2, .int .i64 i0, .int .i64 i1, .int .i64 i2, .int .i64 i3, .int .i64 i4, .int .i64 i5, .int .i64 i6]) (repOf (endM (M := (talM n.toNat)) cs (List.replicate size 0) [] picks))) ∧ Below w.heap.size w (((((((((w3.setCell ⟨w.heap.size, 0, none⟩ (.slice a1 n1 c1)).setCell ⟨w.heap.size, 1, none⟩ (.slice a2 n2 c2)).setCell ⟨w.heap.size, 2, none⟩ (.int .i64 i0)).setCell ⟨w.heap.size, 3, none⟩ (.int .i64 i1)).setCell ⟨w.heap.size, 4, none⟩ (.int .i64 i2)).setCell ⟨w.heap.size, 5, none⟩ (.int .i64 i3)).setCell ⟨w.heap.size, 6, none⟩ (.int .i64 i4)).setCell ⟨w.heap.size, 7, none⟩ (.int .i64 i5)).setCell ⟨w.heap.size, 8, none⟩ (.int .i64 i6))) := Lib.hid
    ⟨(((((((((HZ3.out.put 0 _).put 1 _).put 2 _).put 3 _).put 4 _).put 5 _).put 6 _).put 7 _).put 8 _),
     fun h => ((HV2.out h).mono (by omega)).other HZ3.out (fun k _ hk => by rw [heap_far hk, heap_far hk, heap_far hk, heap_far hk, heap_far hk, heap_far hk, heap_far hk, heap_far hk, heap_far hk]),
     (((((((((HB3'.out.setCell (Nat.le_refl _) _).setCell (Nat.le_refl _) _).setCell (Nat.le_refl _) _).setCell (Nat.le_refl _) _).setCell (Nat.le_refl _) _).setCell (Nat.le_refl _) _).setCell (Nat.le_refl _) _).setCell (Nat.le_refl _) _).setCell (Nat.le_refl _) _)⟩
  generalize ((((((((w3.setCell ⟨w.heap.size, 0, none⟩ (.slice a1 n1 c1)).setCell ⟨w.heap.size, 1, none⟩ (.slice a2 n2 c2)).setCell ⟨w.heap.size, 2, none⟩ (.int .i64 i0)).setCell ⟨w.heap.size, 3, none⟩ (.int .i64 i1)).setCell ⟨w.heap.size, 4, none⟩ (.int .i64 i2)).setCell ⟨w.heap.size, 5, none⟩ (.int .i64 i3)).setCell ⟨w.heap.size, 6, none⟩ (.int .i64 i4)).setCell ⟨w.heap.size, 7, none⟩ (.int .i64 i5)).setCell ⟨w.heap.size, 8, none⟩ (.int .i64 i6) = W7 at H7 ⊢
  have q0 := H7.out.1.cell (i := 0) rfl
  have q1 := H7.out.1.cell (i := 1) rfl
  have q2 := H7.out.1.cell (i := 2) rfl
  have q3 := H7.out.1.cell (i := 3) rfl
  have q4 := H7.out.1.cell (i := 4) rfl
  have q5 := H7.out.1.cell (i := 5) rfl
  have q6 := H7.out.1.cell (i := 6) rfl
  have q7 := H7.out.1.cell (i := 7) rfl
  have q8 := H7.out.1.cell (i := 8) rfl
  exact bodyPost_ret (v := .tuple #[.agg #[.slice a1 n1 c1, .slice a2 n2 c2, .int .i64 i0, .int .i64 i1, .int .i64 i2, .int .i64 i3, .int .i64 i4, .int .i64 i5, .int .i64 i6], .int .i64 (playErr n cs picks.length er : Nat)]) (by simp [results, Try.results15, go_sem, q0, q1, q2, q3, q4, q5, q6, q7, q8]) rfl
    ⟨_, _, _, _, _, _, _, _, _, _, _, _, _, _, rfl, rfl, HV1.out, H7.out.2.1, H7.out.2.2⟩
end
section
open Go.RowKit
set_option linter.unusedVariables false
def TalOpR (gp : Nat) (w : World) (v : Value) (F : Nat → Prop) : TalQ → Prop
  | .cnt a f was => ∃ g, v = .iface 204 (.pointer (some ⟨g, 0, none⟩)) ∧ F g ∧ RowBlk 206 w g (cntVs gp a f was)
  | .rd inv next sum key => ∃ g kv, v = .iface 207 (.pointer (some ⟨g, 0, none⟩)) ∧ F g ∧ RowBlk 209 w g (rdVs gp inv next sum kv) ∧ ListAt w 3 mkI F kv key ∧ (key = [] → kv = .slice none 0 0) ∧ inv ≤ 70000
def talK (n gp : Nat) : MachRel (talM n) where
  objs := [.iface 185 (.pointer (some ⟨gp, 0, none⟩))]
  Obj := fun w s FO => TalObj n gp w s FO
  Op := fun w v q F => TalOpR gp w v F q
  obj_keep := fun h hb hG => h.keep hb hG
  op_keep := fun {w w' v q F G} h hb hG => by
    match q, h with
    | .cnt a f was, h =>
      obtain ⟨g, h1, h2, h3⟩ := h
      exact ⟨g, h1, hG g h2, h3.same (hb g h2)⟩
    | .rd inv next sum key, h =>
      obtain ⟨g, kv, h1, h2, h3, h4, h5, h6⟩ := h
      exact ⟨g, kv, h1, hG g h2, h3.same (hb g h2), h4.keep (fun b _ hF => ⟨hb b hF, hG b hF⟩), h5, h6⟩
  op_iface := fun {w v q F} h => by
    match q, h with
    | .cnt a f was, h => obtain ⟨g, h1, _⟩ := h; exact ⟨_, _, h1⟩
    | .rd inv next sum key, h => obtain ⟨g, kv, h1, _⟩ := h; exact ⟨_, _, h1⟩
theorem tal_stepQ (n : Nat) (s : (talM n).S) (q : TalQ) (ws : List Nat) (cn : Cn) (t : Nat) : stepQ (M := talM n) s (.inl q) ws cn t = ⟨(talNext n s q ((talAcc q).run ws cn).1 t).1, .inl (talNext n s q ((talAcc q).run ws cn).1 t).2.1, ((talAcc q).run ws cn).2.1, ((talAcc q).run ws cn).2.2, (talNext n s q ((talAcc q).run ws cn).1 t).2.2⟩ := rfl
theorem talObj_cell {n gp : Nat} {w : World} {s : List Nat} {FO : Nat → Prop} (h : TalObj n gp w s FO) : w.cell? ⟨gp, 1, none⟩ = some (.int .i64 0) := by
  obtain ⟨_, _, ao, L, cap, h3, _⟩ := h; exact h3.cell rfl
theorem tal_ok (n gp : Nat) (hn : 1 ≤ n ∧ n ≤ 16) (cs : List CallV) (hth : ∀ x ∈ cs, 0 ≤ x.t ∧ x.t < n) : MachOk (talK n gp) cs (TalI n cs) where
  olen := rfl
  inv := fun st i x _ hx h0 h1 W FO hO hlt => by
    have hm : ((talM n).m : Int) = 1 := rfl
    have hx0 : x.o = 0 := by omega
    have ht := hth x (List.mem_of_getElem? hx)
    have e : objOf (talK n gp).objs x.o = .iface 185 (.pointer (some ⟨gp, 0, none⟩)) := by rw [hx0]; rfl
    have hO' : TalObj n gp W st.s FO := hO
    rw [e]
    refine ⟨_, _, _, rfl, talM_meth _, talM_enter, fun W' hW' => ?_⟩
    have hOW : TalObj n gp W' st.s FO := hO'.keep (fun k hk => hW'.block k (hlt k hk)) (fun _ h => h)
    have hkeep : ∀ w' : World, Below W'.heap.size W' w' → TalObj n gp w' st.s FO := fun w' hb => hOW.keep (fun k hk => hb.block k (Nat.lt_of_lt_of_le (hlt k hk) hW'.size)) (fun _ h => h)
    by_cases k0 : x.k = 0
    · have hin : (talM n).inv st.s x = (st.s, .inl (.cnt x.t.toNat false 0)) := by rw [tal_inv_eq, if_pos k0]
      refine (tal_counts gp x.t.toNat x W' k0 (by omega) (by omega) (talObj_cell hOW)).mono fun en w' ⟨g, hen, hr, hg, hb⟩ => ?_
      rw [hin]
      have hgl := hr.lt
      exact ⟨ButS.of_below hb, _, 0, fun b => b = g, FO, hen, hkeep w' hb, ⟨g, by unfold opOf; rw [if_pos rfl], rfl, hr⟩, fun b h => by subst h; exact ⟨hg, hgl⟩, fun b h => ⟨Nat.lt_of_lt_of_le (hlt b h) (Nat.le_trans hW'.size hb.size), .inl h, fun e => by have := hlt b h; have := hW'.size; omega⟩⟩
    · by_cases k1 : x.k = 1
      · have hin : (talM n).inv st.s x = (st.s, .inl (.rd 0 0 0 [])) := by rw [tal_inv_eq, if_neg k0, if_pos k1]
        refine (tal_reads gp x W' k1).mono fun en w' ⟨g, hen, hr, hg, hb⟩ => ?_
        rw [hin]
        have hgl := hr.lt
        exact ⟨ButS.of_below hb, _, 0, fun b => b = g, FO, hen, hkeep w' hb, ⟨g, .slice none 0 0, by unfold opOf; rw [if_pos rfl], rfl, hr, ListAt.nil _ _ _ _, fun _ => rfl, by omega⟩, fun b h => by subst h; exact ⟨hg, hgl⟩, fun b h => ⟨Nat.lt_of_lt_of_le (hlt b h) (Nat.le_trans hW'.size hb.size), .inl h, fun e => by have := hlt b h; have := hW'.size; omega⟩⟩
      · have hin : (talM n).inv st.s x = (st.s, .inr 9) := by rw [tal_inv_eq, if_neg k0, if_neg k1]
        refine (tal_bad gp x W' k0 k1).mono fun en w' ⟨hen, hb⟩ => ?_
        rw [hin]
        exact ⟨ButS.of_below hb, .nilIface, 9, fun _ => False, FO, hen, hkeep w' hb, ⟨by unfold opOf; rw [if_neg (by omega)]; rfl, by omega⟩, fun b h => h.elim, fun b h => ⟨Nat.lt_of_lt_of_le (hlt b h) (Nat.le_trans hW'.size hb.size), .inl h, id⟩⟩
  step := fun st p e v q hI hw hc hv hq hcn ht W opv bm bw F FO hop hobj hM hs => by
    have hF := hI (by omega)
    have hr0 : v.resp = 0 := by
      obtain ⟨v', hv', hr, _⟩ := hw.cur p e hc
      rw [hv] at hv'; cases hv'; exact hr
    have hO := hF.ev e v hv hr0
    have hlen := hF.len
    have hcw := hF.cw
    have hsum := hF.sum
    have hsl : List.length (st.s : List Nat) ≤ 70000 := by omega
    have hob : TalObj n gp W st.s FO := hobj
    rw [hq] at hO
    match q, hop, hO with
    | .cnt a f was, hop, hO =>
      obtain ⟨g, rfl, hFg, hr⟩ := hop
      obtain ⟨x, h1, h2, h3, h4, h5, h6, h7⟩ := hO
      have hsg := hs.1 g hFg
      refine ⟨_, _, _, rfl, talCnt_meth _, talCnt_enter, fun W' hW' => ?_⟩
      have hM' := hM.of_blocks (hW'.block _ hM.lt1) (hW'.block _ hM.lt2)
      have hr' := hr.same (hW'.block _ hr.lt)
      have hob' : TalObj n gp W' st.s FO := hob.keep (fun k hk => hW'.block k (hs.2 k hk).1) (fun _ h => h)
      have hsO : ∀ b, FO b → b < W'.heap.size ∧ b ≠ bm ∧ b ≠ bw ∧ b ≠ g := fun b hb => ⟨Nat.lt_of_lt_of_le (hs.2 b hb).1 hW'.size, (hs.2 b hb).2.1, (hs.2 b hb).2.2, fun e => hsg.2.2.2 (e ▸ hb)⟩
      cases f with
      | false =>
        have e0 : stepQ (M := talM n) st.s (.inl (.cnt a false was)) st.ws st.cn st.ticks = ⟨st.s, .inl (.cnt a true (st.ws.getD a 0)), st.ws, { st.cn with r := st.cn.r + 1 }, none⟩ := rfl
        rw [e0]
        refine (tal_find gp a was g bm bw st.ws st.cn st.ticks W' hM' hr' (by omega) (by omega) (by omega)).mono fun en w' ⟨he, hm2, hb, hr2⟩ => ?_
        have hz := hb.size
        refine ⟨hm2, hb.mono (fun b _ h => h.elim .inl (fun h => h.elim (fun h => .inr (.inl h)) (fun h => .inr (.inr (.inl (h ▸ hFg)))))), F, FO, fun b h => ⟨Nat.lt_of_lt_of_le (hs.1 b h).1 (Nat.le_trans hW'.size hz), .inl h⟩, fun b h => ⟨Nat.lt_of_lt_of_le (hs.2 b h).1 (Nat.le_trans hW'.size hz), .inl h, fun h' => (hs.1 b h').2.2.2 h⟩, ?_, ⟨g, rfl, hFg, hr2⟩, he⟩
        exact hob'.keep (fun k hk => hb.block k (hsO k hk).1 (fun h => h.elim (hsO k hk).2.1 (fun h => h.elim (hsO k hk).2.2.1 (hsO k hk).2.2.2))) (fun _ h => h)
      | true =>
        have hwas := h7 rfl
        obtain ⟨y, hy⟩ : ∃ y, st.ws[a]? = some y := ⟨st.ws[a]'(by rw [hlen]; exact h6), List.getElem?_eq_getElem _⟩
        have hyw : was = y := by rw [hwas, List.getD_eq_getElem?_getD, hy]; rfl
        have hle := get_le_sum hy
        have hmod : (was + 1) % 18446744073709551616 = was + 1 := Nat.mod_eq_of_lt (by omega)
        have e0 : stepQ (M := talM n) st.s (.inl (.cnt a true was)) st.ws st.cn st.ticks = ⟨addT st.s st.ticks, .inl (.cnt a true was), st.ws.set a (was + 1), { st.cn with w := st.cn.w + 1 }, some ⟨0, 0, []⟩⟩ := by
          rw [← hmod]; rfl
        rw [e0]
        refine (tal_put n gp a was g bm bw st.s FO st.ws st.cn st.ticks W' hM' hr' hob' hsO (by omega) (by omega) (by omega) (by omega) ht hsl).mono fun en w' ⟨he, hm2, hb, hr2, ho2⟩ => ?_
        have hz := hb.size
        refine ⟨hm2, hb.mono (fun b _ h => h.elim .inl (fun h => h.elim (fun h => .inr (.inl h)) (fun h => h.elim (fun h => .inr (.inr (.inl (h ▸ hFg)))) (fun h => .inr (.inr (.inr h)))))), F, (fun b => b < w'.heap.size ∧ (FO b ∨ W'.heap.size ≤ b)), fun b h => ⟨Nat.lt_of_lt_of_le (hs.1 b h).1 (Nat.le_trans hW'.size hz), .inl h⟩, fun b h => ⟨h.1, h.2, fun h' => ?_⟩, ho2, ⟨g, rfl, hFg, hr2⟩, _, he, ListAt.nil _ _ _ _⟩
        rcases h.2 with h3 | h3
        · exact (hs.1 b h').2.2.2 h3
        · have := (hs.1 b h').1; have := hW'.size; omega
    | .rd b k sum key, hop, hO =>
      obtain ⟨g, kv, rfl, hFg, hr, hkl, hkv, hb70⟩ := hop
      obtain ⟨h1, rfl, h3, h4, x, hx⟩ := hO
      obtain rfl := hkv rfl
      have hsg := hs.1 g hFg
      obtain ⟨y, hy⟩ : ∃ y, st.ws[k]? = some y := ⟨st.ws[k]'(by rw [hlen]; exact h1), List.getElem?_eq_getElem _⟩
      have hg : st.ws.getD k 0 = y := by rw [List.getD_eq_getElem?_getD, hy]; rfl
      have hts := sum_take_succ hy
      have htl := sum_take_le st.ws (k + 1)
      have hsy : sum + st.ws.getD k 0 ≤ List.length (st.s : List Nat) := by rw [hg]; omega
      have hmod : (sum + st.ws.getD k 0) % 18446744073709551616 = sum + st.ws.getD k 0 := Nat.mod_eq_of_lt (by omega)
      have e0 := tal_stepQ n st.s (.rd b k sum []) st.ws st.cn st.ticks
      have e1 : ((talAcc (.rd b k sum [])).run st.ws st.cn) = (st.ws.getD k 0, st.ws, { st.cn with r := st.cn.r + 1 }) := rfl
      rw [e1] at e0
      have hstep : ∀ W' : World, Below W.heap.size W W' → MemIs 136 W' bm bw st.ws st.cn ∧ RowBlk 209 W' g (rdVs gp b k sum (.slice none 0 0)) ∧ TalObj n gp W' st.s FO ∧ (∀ b, FO b → b < W'.heap.size ∧ b ≠ bm ∧ b ≠ bw ∧ b ≠ g) := fun W' hW' =>
        ⟨hM.of_blocks (hW'.block _ hM.lt1) (hW'.block _ hM.lt2), hr.same (hW'.block _ hr.lt), hob.keep (fun k hk => hW'.block k (hs.2 k hk).1) (fun _ h => h), fun b hb => ⟨Nat.lt_of_lt_of_le (hs.2 b hb).1 hW'.size, (hs.2 b hb).2.1, (hs.2 b hb).2.2, fun e => hsg.2.2.2 (e ▸ hb)⟩⟩
      have more : ∀ (W' w' : World) (en : Ending) (inv' : Nat), Below W.heap.size W W' → inv' ≤ 70000 → TalRead gp inv' k sum (st.ws.getD k 0) g bm bw st.ws st.cn W' en w' → StepRel (talK n gp) ⟨st.s, .inl (.rd inv' (k + 1) (sum + st.ws.getD k 0) []), st.ws, { st.cn with r := st.cn.r + 1 }, none⟩ (.iface 207 (.pointer (some ⟨g, 0, none⟩))) bm bw F FO W' en w' := fun W' w' en inv' hW' hi ⟨he, hm2, hb, hr2⟩ => by
        obtain ⟨hM', hr', hob', hsO⟩ := hstep W' hW'
        have hz := hb.size
        refine ⟨hm2, hb.mono (fun b _ h => h.elim .inl (fun h => h.elim (fun h => .inr (.inl h)) (fun h => .inr (.inr (.inl (h ▸ hFg)))))), F, FO, fun b h => ⟨Nat.lt_of_lt_of_le (hs.1 b h).1 (Nat.le_trans hW'.size hz), .inl h⟩, fun b h => ⟨Nat.lt_of_lt_of_le (hs.2 b h).1 (Nat.le_trans hW'.size hz), .inl h, fun h' => (hs.1 b h').2.2.2 h⟩, ?_, ⟨g, .slice none 0 0, rfl, hFg, hr2, ListAt.nil _ _ _ _, fun _ => rfl, hi⟩, he⟩
        exact hob'.keep (fun k hk => hb.block k (hsO k hk).1 (fun h => h.elim (hsO k hk).2.1 (fun h => h.elim (hsO k hk).2.2.1 (hsO k hk).2.2.2))) (fun _ h => h)
      have last : ∀ (W' w' : World) (en : Ending) (inv' m : Nat), Below W.heap.size W W' → inv' ≤ 70000 → TalReadL gp inv' k sum (st.ws.getD k 0) m st.ticks g bm bw st.ws st.cn W' en w' → StepRel (talK n gp) ⟨st.s, .inl (.rd inv' (k + 1) (sum + st.ws.getD k 0) [2 * m, 2 * st.ticks]), st.ws, { st.cn with r := st.cn.r + 1 }, some ⟨0, sum + st.ws.getD k 0, []⟩⟩ (.iface 207 (.pointer (some ⟨g, 0, none⟩))) bm bw F FO W' en w' := fun W' w' en inv' m hW' hi ⟨he, hm2, hb, gk, hr2, hk2, hgk⟩ => by
        obtain ⟨hM', hr', hob', hsO⟩ := hstep W' hW'
        have hz := hb.size
        have hkl := hk2.lt
        have hWs := hW'.size
        refine ⟨hm2, hb.mono (fun b _ h => h.elim .inl (fun h => h.elim (fun h => .inr (.inl h)) (fun h => .inr (.inr (.inl (h ▸ hFg)))))), fun b => F b ∨ b = gk, FO, fun b h => ?_, fun b h => ⟨Nat.lt_of_lt_of_le (hs.2 b h).1 (Nat.le_trans hW'.size hz), .inl h, fun h' => ?_⟩, ?_, ⟨g, .slice (some ⟨gk, 0, none⟩) 2 2, rfl, .inl hFg, hr2, ?_, fun h => (by cases h), hi⟩, _, he, ListAt.nil _ _ _ _⟩
        · rcases h with h | rfl
          · exact ⟨Nat.lt_of_lt_of_le (hs.1 b h).1 (Nat.le_trans hW'.size hz), .inl h⟩
          · exact ⟨hkl, .inr hgk⟩
        · rcases h' with h' | rfl
          · exact (hs.1 b h').2.2.2 h
          · have := (hs.2 _ h).1; omega
        · exact hob'.keep (fun k hk => hb.block k (hsO k hk).1 (fun h => h.elim (hsO k hk).2.1 (fun h => h.elim (hsO k hk).2.2.1 (hsO k hk).2.2.2))) (fun _ h => h)
        · refine ⟨_, gk, 0, 2, rfl, fun _ => ⟨rfl, .inr rfl, BlkT.of_row hk2⟩, fun h => (by cases h), by simp, fun i x hx => ?_⟩
          rw [Nat.zero_add]
          match i, hx with
          | 0, hx => cases hx; exact hk2.cell (i := 0) rfl
          | 1, hx => cases hx; exact hk2.cell (i := 1) rfl
      by_cases hk : k + 1 < n
      · have e2 : talNext n st.s (.rd b k sum []) (st.ws.getD k 0) st.ticks = (st.s, .rd (if k = 0 then st.ticks else b) (k + 1) (sum + st.ws.getD k 0) [], none) := by unfold talNext; simp only; rw [if_pos hk, hmod]
        rw [e2] at e0
        rw [e0]
        refine ⟨_, _, _, rfl, talRd_meth _, talRd_enter, fun W' hW' => ?_⟩
        obtain ⟨hM', hr', hob', hsO⟩ := hstep W' hW'
        by_cases k0 : k = 0
        · subst k0
          rw [if_pos rfl]
          exact (tal_rd0m n gp b sum g bm bw st.s FO st.ws st.cn st.ticks W' hM' hr' hob' hsO (by omega) (by omega) (by omega) hsy hsl hk hn.2).mono fun en w' h => more W' w' en st.ticks hW' ht h
        · rw [if_neg k0]
          exact (tal_rd1m n gp b k sum g bm bw st.s FO st.ws st.cn st.ticks W' hM' hr' hob' hsO (by omega) (by omega) (by omega) (by omega) hsy hsl hk hn.2).mono fun en w' h => more W' w' en b hW' hb70 h
      · have e2 : talNext n st.s (.rd b k sum []) (st.ws.getD k 0) st.ticks = (st.s, .rd (if k = 0 then st.ticks else b) (k + 1) (sum + st.ws.getD k 0) [2 * max (if k = 0 then st.ticks else b) (nthL st.s (sum + st.ws.getD k 0)), 2 * st.ticks], some ⟨0, sum + st.ws.getD k 0, []⟩) := by unfold talNext; simp only; rw [if_neg hk, hmod]
        rw [e2] at e0
        rw [e0]
        refine ⟨_, _, _, rfl, talRd_meth _, talRd_enter, fun W' hW' => ?_⟩
        obtain ⟨hM', hr', hob', hsO⟩ := hstep W' hW'
        by_cases k0 : k = 0
        · subst k0
          rw [if_pos rfl]
          exact (tal_rd0l n gp b sum g bm bw st.s FO st.ws st.cn st.ticks W' hM' hr' hob' hsO (by omega) (by omega) (by omega) hsy hsl (by omega) hn.2 ht hb70).mono fun en w' h => last W' w' en st.ticks _ hW' ht h
        · rw [if_neg k0]
          exact (tal_rd1l n gp b k sum g bm bw st.s FO st.ws st.cn st.ticks W' hM' hr' hob' hsO (by omega) (by omega) (by omega) (by omega) hsy hsl (by omega) hn.2 ht hb70).mono fun en w' h => last W' w' en b _ hW' hb70 h
  key := fun W s q opv F FO hop _ => by
    match q, hop with
    | .cnt a f was, hop =>
      obtain ⟨g, rfl, _⟩ := hop
      exact .inl ⟨noKey_count _, rfl⟩
    | .rd inv next sum key, hop =>
      obtain ⟨g, kv, rfl, hFg, hr, hkl, _, _⟩ := hop
      refine .inr ⟨_, _, _, rfl, talKeyed _, talKey_meth _, talKey_enter, fun W' hW' => (talKey_any g _ kv W' (hr.same (hW'.block _ hr.lt)) rfl).mono fun e w' ⟨he, hww⟩ => ?_⟩
      subst hww
      exact ⟨kv, he, hkl.keep (fun b ht _ => ⟨hW'.block _ ht.lt, trivial⟩), Below.refl _ _⟩
  turn := fun st p i x hI _ hno hx => talI_turn hn.1 hth hI hno hx
  stepI := fun st p i e v hI hw ht _ hc hv => by
    obtain ⟨v', hv', hr, _⟩ := hw.cur p e hc
    rw [hv] at hv'; cases hv'
    exact talI_step hI ht hc hv hr
  idle := fun st hI => talI_idle hI
set_option maxHeartbeats 400000 in
theorem talSize (n : Int) (W : World) : Calls Try.prog 106 #[.agg #[], .int .i64 n] W fun e w' => e = .returned (.tuple #[.int .i64 n, .int .i64 0]) ∧ Below W.heap.size W w' := by
  go_enter Try.func106, Try.ntmps106
  go_wp2
  go_ret2
  exact ⟨rfl, (by first | exact Below.refl _ _ | exact (Below.refl _ _).alloc (Nat.le_refl _) _)⟩
def TalPlaced (n : Int) (W : World) (e : Ending) (w' : World) : Prop := ∃ g, e = .returned (.iface 185 (.pointer (some ⟨g, 0, none⟩))) ∧ RowBlk 189 w' g [.int .i64 n, .int .i64 0, .slice none 0 0, .int .i64 0] ∧ W.heap.size ≤ g ∧ Below W.heap.size W w'
set_option maxHeartbeats 400000 in
theorem talPlace (n : Int) (W : World) : Calls Try.prog 105 #[.agg #[], .int .i64 n, .int .i64 0] W (TalPlaced n W) := by
  go_enter Try.func105, Try.ntmps105
  go_wp2
  go_ret
  first
    | exact ⟨_, rfl, RowBlk.new W [.int .i64 n, .int .i64 0, .slice none 0 0, .int .i64 0] _, Nat.le_refl _, (Below.refl _ _).alloc (Nat.le_refl _) _⟩
    | exact ⟨_, rfl, new2 W _ [.int .i64 n, .int .i64 0, .slice none 0 0, .int .i64 0] _, by omega, ((Below.refl _ _).alloc (Nat.le_refl _) _).alloc (by simp) _⟩
theorem talSizeC (n : Int) : SizeC 84 (.agg #[]) n n 0 := ⟨106, fun w' => by kernel_rfl, fun args w' => by kernel_rfl, fun W => talSize n W⟩
theorem talPlaceC (k : Nat) (hk : 1 ≤ k ∧ k ≤ 16) (cs : List CallV) (hth : ∀ x ∈ cs, 0 ≤ x.t ∧ x.t < k) : PlaceC (M := talM k) cs (TalI k cs) [] 84 (.agg #[]) (k : Int) := ⟨105, fun w' => by kernel_rfl, fun args w' => by kernel_rfl, fun W => (talPlace k W).mono fun e w' ⟨g, he, hr, hg, hb⟩ =>
  ⟨_, he, ⟨talK k g, fun b => b = g, ⟨_, _, rfl⟩, rfl, tal_ok k g hk cs hth, ⟨rfl, fun t ht => by simp at ht, none, 0, 0, hr, .inl ⟨rfl, rfl, rfl, rfl⟩⟩, fun b h => by subst h; exact ⟨hg, hr.lt⟩⟩, hb⟩⟩
theorem talNotFilled : NotFilled 84 (.agg #[]) := fun w => run_typeAssert_lacksB Try.underlying129 (by kernel_rfl) (by kernel_rfl) (.agg #[]) 55 w
theorem check_threads {n : Int} {cs : List CallV} {np : Nat} (h : checkL n (thr cs) np = 0) : (1 ≤ n.toNat ∧ n.toNat ≤ 16) ∧ n = (n.toNat : Int) ∧ ∀ x ∈ cs, 0 ≤ x.t ∧ x.t < (n.toNat : Int) := by
  have h2 := check_zero h
  have h3 := wrongL_threads h2.1
  refine ⟨by omega, by omega, fun x hx => ?_⟩
  have := h3.2 x.t (List.mem_map.2 ⟨x, hx, rfl⟩)
  omega
theorem tal_play (n : Int) (ao : Option Addr) (b o cap : Nat) (cs : List CallV) (ao3 : Option Addr) (b3 o3 cap3 : Nat) (picks : List Int) (w : World) (ha : 0 < cs.length → ao = some ⟨b, o, none⟩) (hb : 0 < cs.length → b < w.heap.size) (hc : CallsAt w b o cs) (hcap : ao = none → cap = 0)
    (ha3 : 0 < picks.length → ao3 = some ⟨b3, o3, none⟩) (hb3 : 0 < picks.length → b3 < w.heap.size) (hc3 : ICells w b3 o3 picks) (hnp : picks.length ≤ 9223372036854775807) :
    Calls Try.prog 15 #[.int .i64 n, .slice ao cs.length cap, .slice ao3 picks.length cap3] w (PlayG (talM n.toNat) n 0 cs (List.replicate n.toNat 0) [] picks w) :=
  talPlay_any n (TalI n.toNat cs) n.toNat 0 ao b o cap cs ao3 b3 o3 cap3 picks w ha hb hc hcap ha3 hb3 hc3 hnp (fun h => by obtain ⟨_, h2, _⟩ := check_threads h; have := talSizeC n; rw [h2] at this ⊢; simpa using this) (fun h _ => by
    obtain ⟨h1, h2, h3⟩ := check_threads h
    have hp := talPlaceC n.toNat h1 cs h3
    rw [← h2] at hp
    exact ⟨talNotFilled, hp, h1.1, by omega, talI_first h1.1⟩)
end
section
open Go.RowKit
set_option linter.unusedVariables false
set_option linter.unusedSimpArgs false
def oneCs : List CallV := [⟨0, 0, 0, 0, 0, 0⟩, ⟨1, 0, 1, 0, 0, 0⟩]
theorem one_end8 : repOf (endM (M := talM (2 : Int).toNat) oneCs (List.replicate (2 : Int).toNat 0) [] [1, 0, 0, 1]) = ⟨[⟨1, 1, 4, 2, ⟨0, 0, []⟩, [2, 8]⟩, ⟨0, 2, 3, 2, ⟨0, 0, []⟩, [6]⟩], [1, 0], ⟨3, 1, 0, 0, 0⟩, 4, 0⟩ := by rfl
set_option maxRecDepth 100000 in
set_option maxHeartbeats 2000000 in
theorem one_any8 (w : World) : Calls Try.prog 14 #[] w fun e w' => e = .returned (.bool true) ∧ Below w.heap.size w w' := by
  go_enter Try.func14, Try.ntmps14
  go_wp2_with fail
  generalize hw2 : (w.alloc (.cells #[.int .i64 0, .int .i64 0, .int .i64 0, .int .u64 0, .int .u64 0, .int .u64 0, .int .i64 1, .int .i64 0, .int .i64 1, .int .u64 0, .int .u64 0, .int .u64 0] 49)).alloc (.cells #[.int .i64 1, .int .i64 0, .int .i64 0, .int .i64 1] 3) = w2
  have HB0 : Hid (Below w.heap.size w w2) := Lib.hid (by rw [← hw2]; exact ((Below.refl _ _).alloc (Nat.le_refl _) _).alloc (by simp) _)
  have hsz : w2.heap.size = w.heap.size + 2 := by rw [← hw2]; simp
  have hc : CallsAt w2 w.heap.size 0 oneCs := by
    have e : ∀ k, w2.cell? ⟨w.heap.size, k, none⟩ = (#[.int .i64 0, .int .i64 0, .int .i64 0, .int .u64 0, .int .u64 0, .int .u64 0, .int .i64 1, .int .i64 0, .int .i64 1, .int .u64 0, .int .u64 0, .int .u64 0] : Array Value)[k]? := fun k => by
      rw [← hw2, World.cell?_alloc_past _ _ _ (by simp), World.cell?_alloc_at _ _ _ _ rfl]
    intro i x hx
    match i, hx with
    | 0, hx => cases hx; refine ⟨e _, e _, e _, e _, e _, e _, ?_⟩; decide
    | 1, hx => cases hx; refine ⟨e _, e _, e _, e _, e _, e _, ?_⟩; decide
    | i + 2, hx => simp [oneCs] at hx
  have hp : ICells w2 (w.heap.size + 1) 0 [1, 0, 0, 1] := by
    have e : ∀ k, w2.cell? ⟨w.heap.size + 1, k, none⟩ = (#[.int .i64 1, .int .i64 0, .int .i64 0, .int .i64 1] : Array Value)[k]? := fun k => by
      rw [← hw2, World.cell?_alloc_at _ _ _ _ (by simp)]
    intro i x hx
    match i, hx with
    | 0, hx => cases hx; exact ⟨e _, by decide⟩
    | 1, hx => cases hx; exact ⟨e _, by decide⟩
    | 2, hx => cases hx; exact ⟨e _, by decide⟩
    | 3, hx => cases hx; exact ⟨e _, by decide⟩
    | i + 4, hx => simp at hx
  have HG := Lib.hid (tal_play 2 (some ⟨w.heap.size, 0, none⟩) w.heap.size 0 2 oneCs (some ⟨w.heap.size + 1, 0, none⟩) (w.heap.size + 1) 0 4 [1, 0, 0, 1] w2 (fun _ => rfl) (fun _ => by omega) hc (fun h => by cases h) (fun _ => rfl) (fun _ => by omega) hp (by decide))
  clear hw2 hc hp
  refine (show Calls Try.prog 15 #[.int .i64 2, .slice (some ⟨w.heap.size, 0, none⟩) 2 2, .slice (some ⟨w.heap.size + 1, 0, none⟩) 4 4] w2 (PlayG (talM (2 : Int).toNat) 2 0 oneCs (List.replicate (2 : Int).toNat 0) [] [1, 0, 0, 1] w2) from HG.out).mono ?_
  rintro e w3 hP
  obtain ⟨aoE, gE, capE, gw, rfl, hao, hev, hrw, _, hb3⟩ := hP.good (by decide)
  rw [one_end8] at hao hev hrw ⊢
  obtain rfl := hao (by decide)
  have z := hb3.size
  have HB3 : Hid (Below w.heap.size w w3) := Lib.hid (HB0.out.trans (hb3.mono (by omega)))
  obtain ⟨_, la0, ka0, lc0, kc0, v0⟩ := hev 0 _ rfl
  obtain ⟨_, la1, ka1, lc1, kc1, v1⟩ := hev 1 _ rfl
  have r5 : w3.cell? ⟨gE, 5, none⟩ = some (.int .u64 0) := v0.c5
  have r2 : w3.cell? ⟨gE, 2, none⟩ = some (.int .i64 4) := v0.c2
  have r10 : w3.cell? ⟨gE, 10, none⟩ = some (.int .i64 3) := v1.c2
  have rw0 : w3.cell? ⟨gw, 0, none⟩ = some (.int .u64 1) := hrw.cell rfl
  have l1 := World.block_lt_of_cell? w3 ⟨gE, 5, none⟩ r5
  have l2 := hrw.lt
  clear hao hev hrw hb3 v0 v1 HG hP
  unfold repVs
  go_wp2_with fail
  go_ret
  exact ⟨rfl, HB3.out.alloc (by omega) _⟩

def longB8 (cl pl : Nat) : Prop := (60 < cl ∧ cl ≤ 1000) ∨ (600 < pl ∧ pl ≤ 65536) ∨ 1100 < cl
set_option maxRecDepth 20000 in
theorem treads_long (q0 : Int) (ao ao3 : Option Addr) (cl cap pl cap3 : Nat) (w : World) (hp : pl ≤ 9223372036854775807) (h : longB8 cl pl) :
    Calls Try.prog 4 #[.int .i64 q0, .slice ao cl cap, .slice ao3 pl cap3] w fun e w' => e = .returned (.bool true) ∧ Below w.heap.size w w' := by
  have H := Lib.hid h
  clear h
  go_enter Try.func4, Try.ntmps4
  go_wp2_with fail
  refine (many_yes _ _ _ _ _ _ _ hp H.out).mono ?_
  rintro e w1 ⟨rfl, rfl⟩
  go_wp2_with fail
  refine (one_any8 _).mono ?_
  rintro e w2 ⟨rfl, hb⟩
  have HB : Hid (Below w.heap.size w w2) := Lib.hid hb
  clear hb
  go_wp2_with fail
  go_ret
  exact ⟨rfl, HB.out⟩

set_option maxRecDepth 100000 in
set_option maxHeartbeats 2000000 in
theorem treads_bad (q0 : Int) (ao : Option Addr) (b o cap : Nat) (cs : List CallV) (ao3 : Option Addr) (b3 o3 cap3 : Nat) (picks : List Int) (w : World) (hl : ¬ longB8 cs.length picks.length) (ha : 0 < cs.length → ao = some ⟨b, o, none⟩) (hb : 0 < cs.length → b < w.heap.size) (hc : CallsAt w b o cs) (hcap : ao = none → cap = 0)
    (ha3 : 0 < picks.length → ao3 = some ⟨b3, o3, none⟩) (hb3 : 0 < picks.length → b3 < w.heap.size) (hc3 : ICells w b3 o3 picks) (hnp : picks.length ≤ 9223372036854775807) (he : playErr q0 cs picks.length 0 ≠ 0) :
    Calls Try.prog 4 #[.int .i64 q0, .slice ao cs.length cap, .slice ao3 picks.length cap3] w fun e w' => e = .returned (.bool true) ∧ Below w.heap.size w w' := by
  have hw1 : Below w.heap.size w w := Below.refl _ _
  have hP := tal_play q0 ao b o cap cs ao3 b3 o3 cap3 picks w ha hb hc hcap ha3 hb3 hc3 hnp
  have HP := Lib.hid hP
  have HE := Lib.hid he
  have HL := Lib.hid hl
  have hne : ¬ ((playErr q0 cs picks.length 0 : Nat) : Int) = 0 := by omega
  clear ha hb hc hcap ha3 hb3 hc3 he hl hP
  go_enter Try.func4, Try.ntmps4
  go_wp2_with fail
  refine (many_no _ _ _ _ _ _ _ hnp HL.out).mono ?_
  rintro e w1 ⟨rfl, rfl⟩
  go_wp2_with fail
  refine HP.out.mono ?_
  rintro e w2 hP
  obtain ⟨rfl, hb2⟩ := hP.bad HE.out
  have HB2 : Hid (Below w.heap.size w w2) := Lib.hid (hw1.trans (hb2.mono (by simp)))
  clear hP hb2 HP hw1
  generalize playErr q0 cs picks.length 0 = er at *
  unfold zeroRep zeroVs
  go_wp2_with fail
  have hnz := none_zero (w2.alloc (.cells #[.slice none 0 0, .slice none 0 0, .int .i64 0, .int .i64 0, .int .i64 0, .int .i64 0, .int .i64 0, .int .i64 0, .int .i64 0] 31))
  unfold zeroRep zeroVs at hnz
  refine hnz.mono ?_
  rintro e w3 ⟨rfl, hb3⟩
  have z2 := HB2.out.size
  have HB3 : Hid (Below w.heap.size w w3) := Lib.hid ((HB2.out.alloc z2 _).trans (hb3.mono (by simp; omega)))
  clear hb3 hnz
  go_wp2_with fail
  refine (one_any8 _).mono ?_
  rintro e w4 ⟨rfl, hb4⟩
  have HB4 : Hid (Below w.heap.size w w4) := Lib.hid (HB3.out.trans (hb4.mono HB3.out.size))
  clear hb4
  go_wp2_with fail
  go_ret
  exact ⟨rfl, HB4.out⟩

set_option maxRecDepth 20000 in
theorem twhole_long (q0 : Int) (ao ao3 : Option Addr) (cl cap pl cap3 : Nat) (w : World) (hp : pl ≤ 9223372036854775807) (h : longB8 cl pl) :
    Calls Try.prog 5 #[.int .i64 q0, .slice ao cl cap, .slice ao3 pl cap3] w fun e w' => e = .returned (.bool true) ∧ Below w.heap.size w w' := by
  have H := Lib.hid h
  clear h
  go_enter Try.func5, Try.ntmps5
  go_wp2_with fail
  refine (many_yes _ _ _ _ _ _ _ hp H.out).mono ?_
  rintro e w1 ⟨rfl, rfl⟩
  go_wp2_with fail
  refine (one_any8 _).mono ?_
  rintro e w2 ⟨rfl, hb⟩
  have HB : Hid (Below w.heap.size w w2) := Lib.hid hb
  clear hb
  go_wp2_with fail
  go_ret
  exact ⟨rfl, HB.out⟩

set_option maxRecDepth 100000 in
set_option maxHeartbeats 2000000 in
theorem twhole_bad (q0 : Int) (ao : Option Addr) (b o cap : Nat) (cs : List CallV) (ao3 : Option Addr) (b3 o3 cap3 : Nat) (picks : List Int) (w : World) (hl : ¬ longB8 cs.length picks.length) (ha : 0 < cs.length → ao = some ⟨b, o, none⟩) (hb : 0 < cs.length → b < w.heap.size) (hc : CallsAt w b o cs) (hcap : ao = none → cap = 0)
    (ha3 : 0 < picks.length → ao3 = some ⟨b3, o3, none⟩) (hb3 : 0 < picks.length → b3 < w.heap.size) (hc3 : ICells w b3 o3 picks) (hnp : picks.length ≤ 9223372036854775807) (he : playErr q0 cs picks.length 0 ≠ 0) :
    Calls Try.prog 5 #[.int .i64 q0, .slice ao cs.length cap, .slice ao3 picks.length cap3] w fun e w' => e = .returned (.bool true) ∧ Below w.heap.size w w' := by
  have hw1 : Below w.heap.size w w := Below.refl _ _
  have hP := tal_play q0 ao b o cap cs ao3 b3 o3 cap3 picks w ha hb hc hcap ha3 hb3 hc3 hnp
  have HP := Lib.hid hP
  have HE := Lib.hid he
  have HL := Lib.hid hl
  have hne : ¬ ((playErr q0 cs picks.length 0 : Nat) : Int) = 0 := by omega
  clear ha hb hc hcap ha3 hb3 hc3 he hl hP
  go_enter Try.func5, Try.ntmps5
  go_wp2_with fail
  refine (many_no _ _ _ _ _ _ _ hnp HL.out).mono ?_
  rintro e w1 ⟨rfl, rfl⟩
  go_wp2_with fail
  refine HP.out.mono ?_
  rintro e w2 hP
  obtain ⟨rfl, hb2⟩ := hP.bad HE.out
  have HB2 : Hid (Below w.heap.size w w2) := Lib.hid (hw1.trans (hb2.mono (by simp)))
  clear hP hb2 HP hw1
  generalize playErr q0 cs picks.length 0 = er at *
  unfold zeroRep zeroVs
  go_wp2_with fail
  have hnz := none_zero (w2.alloc (.cells #[.slice none 0 0, .slice none 0 0, .int .i64 0, .int .i64 0, .int .i64 0, .int .i64 0, .int .i64 0, .int .i64 0, .int .i64 0] 31))
  unfold zeroRep zeroVs at hnz
  refine hnz.mono ?_
  rintro e w3 ⟨rfl, hb3⟩
  have z2 := HB2.out.size
  have HB3 : Hid (Below w.heap.size w w3) := Lib.hid ((HB2.out.alloc z2 _).trans (hb3.mono (by simp; omega)))
  clear hb3 hnz
  go_wp2_with fail
  refine (one_any8 _).mono ?_
  rintro e w4 ⟨rfl, hb4⟩
  have HB4 : Hid (Below w.heap.size w w4) := Lib.hid (HB3.out.trans (hb4.mono HB3.out.size))
  clear hb4
  go_wp2_with fail
  go_ret
  exact ⟨rfl, HB4.out⟩

end
end Go.Proofs.Ytcedfcdhdgmelaa
