/- Specs in a row; table.Lay; pair. -/
import Derived.Test.YtmocjpcnohnfpaaGreatBh
import Derived.Test.YtmocjpcnohnfpaaGreatR
import Derived.Lib.AppendZeros
namespace Go.Proofs.YtmocjpcnohnfpaaGreat.Tb
open Go.ChangeShapes Go.WideShapes Go.ChangeAt Go.RowKit
set_option linter.unusedVariables false
set_option linter.unusedSimpArgs false

theorem infoI : (Tryz.prog.info? 3).map (fun i => (i.zero, i.size, i.bytes)) = some (some (.int .i64 0), 1, 8) := by kernel_rfl
/-- what Lay gives -/
def LayPost (l : List Int) (w : World) (e : Ending) (w' : World) : Prop :=
  ∃ v, (wrongGo l 0 = 0 → e = .returned (.tuple #[v, .int .i64 (beg l l.length), .int .i64 0]) ∧ w'.ownsRow w.heap.size 3 1 v l.length (bgs l l.length)) ∧
    (wrongGo l 0 ≠ 0 → e = .returned (.tuple #[.slice none 0 0, .int .i64 0, .int .i64 (wrongGo l 0 : Nat)])) ∧ Below w.heap.size w w'

set_option maxHeartbeats 400000 in
theorem lay_any (ao : Option Addr) (b o c : Nat) (l : List Int) (w : World) (hl : l.length ≤ 4294967296) (ha : 0 < l.length → ao = some ⟨b, o, none⟩) (hb : 0 < l.length → b < w.heap.size) (hc : ICells w b o l) :
    Calls Tryz.prog 125 #[.slice ao l.length c] w (LayPost l w) := by
  obtain ⟨iI, ia, ib, ic, id⟩ := info_parts infoI
  have HC := Lib.hid hc
  have HA := Lib.hid ha
  have HB := Lib.hid hb
  clear hc ha hb
  go_enter Tryz.func125, Tryz.ntmps125
  go_wp2
  go_loopw [5, 6, 11] (fun v x k wr => ∃ (j : Nat), j ≤ l.length ∧ 0 ≤ beg l j ∧ beg l j ≤ 65536 ∧ k = .int .i64 j ∧ x = .int .i64 (beg l j) ∧ Hid (wrongGo (l.drop j) (beg l j) = wrongGo l 0) ∧
     wr.ownsRow w.heap.size 3 1 v j (bgs l j) ∧ Below w.heap.size w wr) (fun _ _ k _ => l.length - (intOf k).toNat)
  case atStart => exact ⟨0, Nat.zero_le _, by rw [beg_zero]; omega, by rw [beg_zero]; omega, rfl, rfl, Lib.hid rfl, World.ownsRow_nil _ _ _ _, Below.refl _ _⟩
  case round =>
    obtain ⟨j, hj, he0, he1, rfl, rfl, hp, hown, hbl⟩ := hrel
    have hsz := hbl.size
    by_cases hlt : j < l.length
    · obtain rfl := HA.out (by omega)
      obtain ⟨s, hx⟩ : ∃ x, l[j]? = some x := ⟨l[j], List.getElem?_eq_getElem (by omega)⟩
      obtain ⟨c1, hs⟩ := HC.out.stays hbl HB.out j _ hx
      have hd := Lib.hid (drop_cons hx)
      have hsc := Lib.hid (beg_succ hx)
      clear hx
      by_cases h1 : s < 0
      · have hres : Hid (wrongGo l 0 = 1) := Lib.hid (by rw [← hp.out, hd.out]; exact wrongGo_arg h1)
        go_wp2
        go_ret3
        exact ⟨.slice none 0 0, fun h => absurd (hres.out.symm.trans h) (by decide), fun _ => by rw [hres.out]; rfl, hbl⟩
      · by_cases h2 : 65536 - beg l j < s
        · have hres : Hid (wrongGo l 0 = 3) := Lib.hid (by rw [← hp.out, hd.out]; exact wrongGo_long (by omega) h2)
          go_wp2
          go_ret3
          exact ⟨.slice none 0 0, fun h => absurd (hres.out.symm.trans h) (by decide), fun _ => by rw [hres.out]; rfl, hbl⟩
        · have hN : Hid (wrongGo (l.drop (j + 1)) (beg l (j + 1)) = wrongGo l 0) := Lib.hid (by rw [← hp.out, hd.out, wrongGo_next (by omega) (by omega), hsc.out])
          have hj' : j ≤ 4294967296 := by omega
          have e1 : 0 ≤ beg l (j + 1) ∧ beg l (j + 1) ≤ 65536 := by rw [hsc.out]; omega
          go_wp2_with (at_builtin; refine append_new rfl _ _ 42 rfl w.heap.size 3 iI (.int .i64 0) 1 8 Tryz.underlying42 ia ib ic id rfl (by decide) (by decide) _ j _ rfl hown [.int .i64 (beg l j)] rfl rfl rfl hj' hsz ?_)
          intro v1 w1 hown1 hbl1 _ _
          have hown1' : w1.ownsRow w.heap.size 3 1 v1 (j + 1) (bgs l (j + 1)) := by rw [bgs_succ]; exact hown1
          have hb2 := hbl.trans hbl1
          clear hown1 hown hbl hbl1 c1
          go_wp2
          go_roundw
          case rel => exact ⟨j + 1, by omega, e1.1, e1.2, by go_num, by rw [hsc.out], hN, hown1', hb2⟩
          case measure => simp [intOf]; omega
    · have : j = l.length := by omega
      subst this
      have hres : Hid (wrongGo l 0 = 0) := Lib.hid (by rw [← hp.out, List.drop_length]; rfl)
      go_wp2
      go_ret3
      exact ⟨_, fun _ => ⟨rfl, hown⟩, fun h => absurd hres.out h, hbl⟩

structure SpecL where
  k : Int
  p : Int
  q : Int
/-- specs lie in a row -/
def SpecsAt (w : World) (b o : Nat) (l : List SpecL) : Prop :=
  ∀ (i : Nat) (x : SpecL), l[i]? = some x → w.cell? ⟨b, o + i * 3, none⟩ = some (.int .i64 x.k) ∧ w.cell? ⟨b, o + i * 3 + 1, none⟩ = some (.int .i64 x.p) ∧ w.cell? ⟨b, o + i * 3 + 2, none⟩ = some (.int .i64 x.q)
theorem SpecsAt.stays {w wr : World} {b o B : Nat} {l : List SpecL} (h : SpecsAt w b o l) (hb : Below B w wr) (hB : 0 < l.length → b < B) : SpecsAt wr b o l := by
  intro i x hx
  have hl : 0 < l.length := by have := (List.getElem?_eq_some_iff.1 hx).1; omega
  obtain ⟨h1, h2, h3⟩ := h i x hx
  exact ⟨(hb.cell (p := ⟨b, _, none⟩) (hB hl)).trans h1, (hb.cell (p := ⟨b, _, none⟩) (hB hl)).trans h2, (hb.cell (p := ⟨b, _, none⟩) (hB hl)).trans h3⟩
def szs (n : Int) (l : List SpecL) : List Int := l.map fun x => tbN n x.k x.p x.q
def szV (n : Int) (l : List SpecL) (j : Nat) : List Value := ((szs n l).take j).map (Value.int .i64)
theorem szV_succ {n : Int} {l : List SpecL} {j : Nat} {x : SpecL} (h : l[j]? = some x) : szV n l (j + 1) = szV n l j ++ [.int .i64 (tbN n x.k x.p x.q)] := by
  unfold szV
  have : (szs n l)[j]? = some (tbN n x.k x.p x.q) := by unfold szs; rw [List.getElem?_map, h]; rfl
  rw [take_snoc this, List.map_append]; rfl

set_option maxRecDepth 100000 in
set_option maxHeartbeats 1000000 in
theorem sizesOf_ok (n : Int) (ao : Option Addr) (b o c : Nat) (l : List SpecL) (w : World) (hn : 1 ≤ n ∧ n ≤ 16) (hl : l.length ≤ 8) (ha : 0 < l.length → ao = some ⟨b, o, none⟩) (hb : 0 < l.length → b < w.heap.size) (hc : SpecsAt w b o l) (hok : ∀ x ∈ l, tbErr n x.k x.p x.q = 0) :
    Calls Tryz.prog 124 #[.int .i64 n, .slice ao l.length c] w fun e w' => ∃ v, e = .returned (.tuple #[v, .int .i64 0]) ∧ w'.ownsRow w.heap.size 3 1 v l.length (szV n l l.length) ∧ Below w.heap.size w w' := by
  obtain ⟨iI, ia, ib, ic, id⟩ := info_parts infoI
  have HC := Lib.hid hc
  have HA := Lib.hid ha
  have HB := Lib.hid hb
  have HK := Lib.hid hok
  have HP : Hid (∀ W, Calls Tryz.prog 50 #[.int .i64 n] W fun e w' => e = .returned (.bool true) ∧ W = w') := Lib.hid (fun W => by have := canPlay_any n W; rw [decide_eq_true hn] at this; exact this)
  clear hc ha hb hok hn
  go_enter Tryz.func124, Tryz.ntmps124
  go_wp2_with (go_at_call 50; refine (HP.out _).mono ?_; rintro e w4 ⟨rfl, rfl⟩)
  go_loopw [6, 19] (fun v k wr => ∃ (j : Nat), j ≤ l.length ∧ k = .int .i64 j ∧ wr.ownsRow w.heap.size 3 1 v j (szV n l j) ∧ Below w.heap.size w wr) (fun _ k _ => l.length - (intOf k).toNat)
  case atStart => exact ⟨0, Nat.zero_le _, rfl, World.ownsRow_nil _ _ _ _, Below.refl _ _⟩
  case round =>
    obtain ⟨j, hj, rfl, hown, hbl⟩ := hrel
    have hsz := hbl.size
    by_cases hlt : j < l.length
    · obtain rfl := HA.out (by omega)
      obtain ⟨x, hx⟩ : ∃ x, l[j]? = some x := ⟨l[j], List.getElem?_eq_getElem (by omega)⟩
      obtain ⟨c0, c1, c2⟩ := HC.out.stays hbl HB.out j _ hx
      obtain ⟨s, hs⟩ : ∃ s, tbN n x.k x.p x.q = s := ⟨_, rfl⟩
      have HS : Hid (∀ w, Calls Tryz.prog 20 #[.int .i64 n, specV x.k x.p x.q] w fun e w' => e = .returned (.tuple #[.int .i64 s, .int .i64 0]) ∧ Below w.heap.size w w') := Lib.hid (fun w => by have := size_any n x.k x.p x.q w; rw [HK.out x (List.mem_of_getElem? hx), hs] at this; exact this)
      have HV : Hid (szV n l (j + 1) = szV n l j ++ [.int .i64 s]) := Lib.hid (by rw [← hs]; exact szV_succ hx)
      clear hx hs
      unfold specV at HS
      go_wp2_with (first
        | (go_at_call 20; refine (HS.out _).mono ?_; rintro e w5 ⟨rfl, hb5⟩; (have hown5 := owns_below (hown.alloc _) hb5); (have hbl5 := (hbl.alloc hsz _).trans (hb5.mono (by simp; omega))); (have hsz5 := hbl5.size); clear hb5)
        | (at_builtin; refine append_new rfl _ _ 42 rfl w.heap.size 3 iI (.int .i64 0) 1 8 Tryz.underlying42 ia ib ic id rfl (by decide) (by decide) _ j _ rfl hown5 [.int .i64 s] rfl rfl rfl (by omega) hsz5 ?_; intro v1 w1 hown1 hbl1 _ _; (have hown1' : Hid (w1.ownsRow w.heap.size 3 1 v1 (j + 1) (szV n l (j + 1))) := Lib.hid (by rw [HV.out]; exact hown1)); (have hb2 := Lib.hid (hbl5.trans hbl1)); clear hown1 hown hown5 hbl hbl1 hbl5 c0 c1 c2))
      go_roundw
      case rel => exact ⟨j + 1, by omega, by go_num, hown1'.out, hb2.out⟩
      case measure => simp [intOf]; omega
    · have : j = l.length := by omega
      subst this
      go_wp2
      go_ret2
      exact ⟨_, rfl, hown, hbl⟩

theorem two_cells {w : World} {g : Nat} (h4 : ∀ (i : Nat) (u : Value), [Value.int .i64 2, Value.int .i64 16][i]? = some u → w.cell? ⟨g, i, none⟩ = some u) : ICells w g 0 [2, 16] := by
  intro i x hx
  match i, hx with
  | 0, hx => cases hx; exact ⟨h4 0 _ rfl, by omega⟩
  | 1, hx => cases hx; exact ⟨h4 1 _ rfl, by omega⟩
def pairO : Obj := .cells #[.int .i64 2, .int .i64 0, .int .i64 0, .int .i64 8, .int .i64 1, .int .i64 0] 23
def PairP (w : World) (e : Ending) (w' : World) : Prop := ∃ g cap, e = .returned (.tuple #[.slice (some ⟨g, 0, none⟩) 2 cap, .int .i64 18, .int .i64 0]) ∧ w'.cell? ⟨g, 0, none⟩ = some (.int .i64 0) ∧ w'.cell? ⟨g, 1, none⟩ = some (.int .i64 2) ∧ Below w.heap.size w w'
set_option maxRecDepth 100000 in
set_option maxHeartbeats 1000000 in
theorem lay_pair (b c : Nat) (w : World) (h : w.heap[b]? = some pairO) : Calls Tryz.prog 66 #[.int .i64 2, .slice (some ⟨b, 0, none⟩) 2 c] w (PairP w) := by
  have hlt := blk_lt h
  have HSp : SpecsAt w b 0 [⟨2, 0, 0⟩, ⟨8, 1, 0⟩] := by
    intro i x hx
    match i, hx with
    | 0, hx => cases hx; exact ⟨cell_of_blkT h rfl, cell_of_blkT h rfl, cell_of_blkT h rfl⟩
    | 1, hx => cases hx; exact ⟨cell_of_blkT h rfl, cell_of_blkT h rfl, cell_of_blkT h rfl⟩
  have HZ := Lib.hid (sizesOf_ok 2 _ b 0 c [⟨2, 0, 0⟩, ⟨8, 1, 0⟩] w (by omega) (by decide) (fun _ => rfl) (fun _ => hlt) HSp (by decide))
  have e1 : szV 2 [⟨2, 0, 0⟩, ⟨8, 1, 0⟩] 2 = [.int .i64 2, .int .i64 16] := by rfl
  simp only [List.length_cons, List.length_nil, Nat.zero_add, Nat.reduceAdd, e1] at HZ
  clear HSp h
  go_enter Tryz.func66, Tryz.ntmps66
  go_wp2_with (first
    | (go_at_call 124; refine HZ.out.mono ?_; rintro e w5 ⟨v, rfl, hown, hb5⟩; (obtain ⟨ao, g, cap, rfl, h1, h2, h3, h4⟩ := owns_open hown); (obtain rfl := h1 (by decide)); (have HI : ICells w5 g 0 [2, 16] := two_cells h4); (have HL := Lib.hid (lay_any _ g 0 cap [2, 16] w5 (by decide) (fun _ => rfl) (fun _ => h3 (by decide)) HI)); (have HB5 := Lib.hid hb5); clear hown h1 h2 h3 h4 HI hb5)
    | (go_at_call 125; refine HL.out.mono ?_; rintro e w6 ⟨v6, hy, _, hb6⟩; (obtain ⟨rfl, hown6⟩ := hy (by decide)); (obtain ⟨ao, g6, cap6, rfl, h1, h2, h3, h4⟩ := owns_open hown6); (obtain rfl := h1 (by decide)); (have HC0 := Lib.hid (h4 0 _ rfl)); (have HC1 := Lib.hid (h4 1 _ rfl)); (have HB6 := Lib.hid hb6); clear hy hown6 h1 h2 h3 h4 hb6))
  go_ret3
  exact ⟨g6, cap6, rfl, HC0.out, HC1.out, HB5.out.trans (HB6.out.mono HB5.out.size)⟩

end Go.Proofs.YtmocjpcnohnfpaaGreat.Tb
