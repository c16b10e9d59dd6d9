/- Walk of the law WordPacks. -/
import Derived.Test.YtehcfflofacapaaG
import Derived.Test.YtehcfflofacapaaK3
namespace Go.Proofs.Ytehcfflofacapaa
open Go.RowKit

theorem info3 : (Try.prog.info? 3).map (fun i => (i.zero, i.size, i.bytes)) = some (some (.int .i64 0), 1, 8) := by kernel_rfl

/-- a cell of an old block, behind steps that turned nothing below B -/
theorem FCells.stays {w wr : World} {b off B : Nat} {l : List (Int × Nat)} (h : FCells w b off l) (hb : Below B w wr) (hB : 0 < l.length → b < B) : FCells wr b off l := by
  intro i x hx
  have hl : 0 < l.length := by have := (List.getElem?_eq_some_iff.1 hx).1; omega
  obtain ⟨h1, h2, h3⟩ := h i x hx
  exact ⟨(hb.cell (p := ⟨b, _, none⟩) (hB hl)).trans h1, (hb.cell (p := ⟨b, _, none⟩) (hB hl)).trans h2, h3⟩

def szs (l : List (Int × Nat)) : List Value := l.map fun x => Value.int .i64 x.1
def vls (l : List (Int × Nat)) : List Value := l.map fun x => Value.int .u64 (x.2 : Int)
theorem szs_get {l : List (Int × Nat)} {j : Nat} {x : Int × Nat} (h : l[j]? = some x) : (szs l)[j]? = some (.int .i64 x.1) := by
  unfold szs; rw [List.getElem?_map, h]; rfl
theorem vls_get {l : List (Int × Nat)} {j : Nat} {x : Int × Nat} (h : l[j]? = some x) : (vls l)[j]? = some (.int .u64 (x.2 : Int)) := by
  unfold vls; rw [List.getElem?_map, h]; rfl

set_option maxHeartbeats 400000 in
theorem packs_walk (ao : Option Addr) (b off cap : Nat) (l : List (Int × Nat)) (w : World) (hl : l.length ≤ 9223372036854775807) (hb : 0 < l.length → b < w.heap.size) (ha : 0 < l.length → ao = some ⟨b, off, none⟩) (hc : FCells w b off l) :
    Calls Try.prog 5 #[.slice ao l.length cap] w fun e w' => e = .returned (.bool true) ∧ Below w.heap.size w w' := by
  obtain ⟨i3, i3a, i3b, i3c, i3d⟩ := info_parts info3
  obtain ⟨i22, i22a, i22b, i22c, i22d⟩ := info_parts info22
  have HC := Lib.hid hc
  clear hc
  have HA := Lib.hid ha
  clear ha
  have HB := Lib.hid hb
  clear hb
  by_cases h100 : 100 < l.length
  · go_enter Try.func5, Try.ntmps5
    go_wp2_with fail
    refine (packed_any _).mono ?_
    rintro e w' ⟨rfl, hb⟩
    go_wp2_with fail
    go_ret
    exact ⟨rfl, hb⟩
  · go_enter Try.func5, Try.ntmps5
    go_wp2
    go_loopw [3, 4, 5] (fun s v k wr => ∃ j : Nat, j ≤ l.length ∧ k = .int .i64 j ∧ wr.ownsRow w.heap.size 3 1 s j ((szs l).take j) ∧
       wr.ownsRow w.heap.size 22 1 v j ((vls l).take j) ∧ Below w.heap.size w wr) (fun _ _ k _ => l.length - (intOf k).toNat)
    case atStart => exact ⟨0, Nat.zero_le _, rfl, World.ownsRow_nil _ _ _ _, World.ownsRow_nil _ _ _ _, Below.refl _ _⟩
    case round =>
      obtain ⟨j, hj, rfl, ho1, ho2, hbl⟩ := hrel
      have hsz := hbl.size
      by_cases hlt : j < l.length
      · obtain rfl := HA.out (by omega)
        obtain ⟨⟨s, f⟩, hx⟩ : ∃ x, l[j]? = some x := ⟨l[j], List.getElem?_eq_getElem hlt⟩
        obtain ⟨c1, c2, hs, hf⟩ := HC.out.stays hbl HB.out j _ hx
        have ht1 := Lib.hid (take_snoc (szs_get hx))
        have ht2 := Lib.hid (take_snoc (vls_get hx))
        have hj' : j ≤ 4294967296 := by omega
        clear hx
        go_wp2_with (at_builtin; refine append_new rfl _ _ 36 rfl w.heap.size 3 i3 (.int .i64 0) 1 8 Try.underlying36 i3a i3b i3c i3d rfl (by decide) (by decide) _ j _ rfl ho1 [.int .i64 s] rfl rfl rfl hj' hsz ?_)
        intro v1 w1 hown1 hbl1 hk1 _
        have hown1' : Hid (w1.ownsRow w.heap.size 3 1 v1 (j + 1) ((szs l).take (j + 1))) := Lib.hid (by rw [ht1.out]; exact hown1)
        have ho2' := hk1.row ho2 (by decide)
        have hb1 := hbl.trans hbl1
        have d2 : w1.cell? ⟨b, off + j * 2 + 1, none⟩ = some (.int .u64 f) := (hbl1.cell (p := ⟨b, _, none⟩) (HB.out (by omega))).trans c2
        have hsz1 := hb1.size
        clear hown1 hk1 ho1 ho2 c1 c2 hbl hbl1 hsz
        go_wp2_with (at_builtin; refine append_new rfl _ _ 37 rfl w.heap.size 22 i22 (.int .u64 0) 1 8 Try.underlying37 i22a i22b i22c i22d rfl (by decide) (by decide) _ j _ rfl ho2' [.int .u64 f] rfl rfl rfl hj' hsz1 ?_)
        intro v2 w2 hown2 hbl2 hk2 _
        have hown2' : w2.ownsRow w.heap.size 22 1 v2 (j + 1) ((vls l).take (j + 1)) := by rw [ht2.out]; exact hown2
        have ho1' := hk2.row hown1'.out (by decide)
        have hb2 := hb1.trans hbl2
        clear hown2 hk2 ho2' hown1' hb1 hbl2 d2
        go_wp2
        go_roundw
        case rel => exact ⟨j + 1, by omega, by go_num, ho1', hown2', hb2⟩
        case measure => simp [intOf]; omega
      · have : j = l.length := by omega
        subst this
        have HO1 := Lib.hid ho1
        have HO2 := Lib.hid ho2
        clear ho1 ho2
        go_wp2_with fail
        refine (pack_any ao b off cap l _ hl (fun h => by have := HB.out h; omega) HA.out (HC.out.stays hbl HB.out)).mono ?_
        rintro e w1 ⟨rfl, hb1⟩
        obtain ⟨ao1, g1, k1, rfl, hA1, _, _, hC1⟩ := owns_open (owns_below HO1.out hb1)
        obtain ⟨ao2, g2, k2, rfl, hA2, _, _, hC2⟩ := owns_open (owns_below HO2.out hb1)
        have hS : Hid (SCells w1 g1 0 g2 0 l) := by
          intro i x hx
          have hi : i < l.length := (List.getElem?_eq_some_iff.1 hx).1
          obtain ⟨_, _, h3⟩ := HC.out i x hx
          refine ⟨?_, ?_, h3⟩
          · rw [Nat.zero_add]
            exact hC1 i _ (by rw [List.getElem?_take, if_pos hi]; exact szs_get hx)
          · rw [Nat.zero_add]
            exact hC2 i _ (by rw [List.getElem?_take, if_pos hi]; exact vls_get hx)
        have HA1 := Lib.hid hA1
        have HA2 := Lib.hid hA2
        have hb2 := hbl.trans (hb1.mono hsz)
        clear hC1 hC2 hA1 hA2 HO1 HO2 hb1 hbl
        go_wp2_with fail
        refine (rpack_any ao1 ao2 g1 0 k1 g2 0 k2 l _ hl HA1.out HA2.out hS.out).mono ?_
        rintro e w2 ⟨rfl, m, rfl⟩
        go_wp2_with fail
        refine (packed_any _).mono ?_
        rintro e w3 ⟨rfl, hb3⟩
        go_wp2_with fail
        go_ret
        exact ⟨rfl, (below_drewN hb2 m).trans (hb3.mono (by have := hb2.size; simp; omega))⟩
end Go.Proofs.Ytehcfflofacapaa
