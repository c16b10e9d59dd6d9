/- Walk of what tells a report. -/
import Derived.Test.YthacohejdpjjeaaNA
import Derived.Test.YthacohejdpjjeaaMN
import Derived.Deep.Cut
namespace Go.Proofs.Ythacohejdpjjeaa
open Go.RowKit Go.Lib Go.Sort

/-- calls and a report, where they lie -/
structure RpX where
  cs : List CaX
  l : List (EvX × EvS)
  ca : Option Addr
  cb : Nat
  co : Nat
  cc : Nat
  ea : Option Addr
  eb : Nat
  eo : Nat
  ec : Nat
  wa : Option Addr
  wn : Nat
  wc : Nat
  rr : Int
  wt : Int
  sw : Int
  ad : Int
  fa : Int
  tk : Int
  idl : Int
structure RpAt (w : World) (x : RpX) : Prop where
  ca : 0 < x.cs.length → x.ca = some ⟨x.cb, x.co, none⟩
  cb : 0 < x.cs.length → x.cb < w.heap.size
  cc : ∀ (i : Nat) (y : CaX), x.cs[i]? = some y → ∀ (k : Nat) (u : Value), y.vs[k]? = some u → w.cell? ⟨x.cb, x.co + i * 6 + k, none⟩ = some u
  ck : ∀ y ∈ x.cs, y.Ok
  ea : 0 < x.l.length → x.ea = some ⟨x.eb, x.eo, none⟩
  eb : 0 < x.l.length → x.eb < w.heap.size
  ec : ∀ (i : Nat) (p : EvX × EvS), x.l[i]? = some p → ∀ (k : Nat) (u : Value), (evVs p.1 p.2)[k]? = some u → w.cell? ⟨x.eb, x.eo + i * 8 + k, none⟩ = some u
  ek : ∀ p ∈ x.l, p.1.Ok ∧ EvR w p.1 p.2
  z : (I63 x.rr ∧ I63 x.wt ∧ I63 x.sw ∧ I63 x.ad ∧ I63 x.fa) ∧ I63 x.tk ∧ I63 x.idl
structure RpSm (x : RpX) : Prop where
  l : x.l.length ≤ 200
  e : ∀ p ∈ x.l, p.1.lw.length ≤ 200 ∧ p.1.kw.length ≤ 200
theorem RpAt.below {w w' : World} {x : RpX} (h : RpAt w x) (hb : Below w.heap.size w w') : RpAt w' x := by
  refine ⟨h.ca, fun h0 => Nat.lt_of_lt_of_le (h.cb h0) hb.size, fun i y hy k u hu => ?_, h.ck, h.ea, fun h0 => Nat.lt_of_lt_of_le (h.eb h0) hb.size, fun i y hy k u hu => ?_, fun p hp => ⟨(h.ek p hp).1, (h.ek p hp).2.below hb⟩, h.z⟩
  · exact (hb.cell (p := ⟨x.cb, _, none⟩) (h.cb (by have := (List.getElem?_eq_some_iff.1 hy).1; omega))).trans (h.cc i y hy k u hu)
  · exact (hb.cell (p := ⟨x.eb, _, none⟩) (h.eb (by have := (List.getElem?_eq_some_iff.1 hy).1; omega))).trans (h.ec i y hy k u hu)
def c0X : CaX := ⟨0, 0, 0, 0, 0, 0⟩
/-- the line of an event of a report -/
def repRow (cs : List CaX) (e : EvX) : List Nat := (if 0 ≤ e.ca ∧ e.ca < (cs.length : Int) then caLine (cs.getD e.ca.toNat c0X) else []) ++ ([58, 32] ++ (evLine e ++ [10]))
def repRows (cs : List CaX) : List (EvX × EvS) → List Nat
  | [] => []
  | p :: l => repRow cs p.1 ++ repRows cs l
def n_ticks : List Nat := [116, 105, 99, 107, 115]
theorem s_ticks : strB n_ticks = ⟨#[116, 105, 99, 107, 115]⟩ := by kernel_rfl
def n_idle : List Nat := [105, 100, 108, 101]
theorem s_idle : strB n_idle = ⟨#[105, 100, 108, 101]⟩ := by kernel_rfl
def n_reads : List Nat := [114, 101, 97, 100, 115]
theorem s_reads : strB n_reads = ⟨#[114, 101, 97, 100, 115]⟩ := by kernel_rfl
def n_writes : List Nat := [119, 114, 105, 116, 101, 115]
theorem s_writes : strB n_writes = ⟨#[119, 114, 105, 116, 101, 115]⟩ := by kernel_rfl
def n_swaps : List Nat := [115, 119, 97, 112, 115]
theorem s_swaps : strB n_swaps = ⟨#[115, 119, 97, 112, 115]⟩ := by kernel_rfl
def n_adds : List Nat := [97, 100, 100, 115]
theorem s_adds : strB n_adds = ⟨#[97, 100, 100, 115]⟩ := by kernel_rfl
def n_faults : List Nat := [102, 97, 117, 108, 116, 115]
theorem s_faults : strB n_faults = ⟨#[102, 97, 117, 108, 116, 115]⟩ := by kernel_rfl
theorem s_colon : strB [58, 32] = ⟨#[58, 32]⟩ := by kernel_rfl
def nm1 (x : RpX) : List NmX := [⟨n_ticks, x.tk⟩, ⟨n_idle, x.idl⟩]
def nm2 (x : RpX) : List NmX := [⟨n_reads, x.rr⟩, ⟨n_writes, x.wt⟩, ⟨n_swaps, x.sw⟩, ⟨n_adds, x.ad⟩, ⟨n_faults, x.fa⟩]
def repL (x : RpX) : List Nat := (((repRows x.cs x.l ++ numsF nmL true (nm1 x)) ++ [10]) ++ numsF nmL true (nm2 x)) ++ [10]
theorem nm1_ok {x : RpX} {w : World} (h : RpAt w x) : ∀ y ∈ nm1 x, y.Ok := by
  obtain ⟨⟨h1, h2, h3, h4, h5⟩, h6, h7⟩ := h.z
  intro y hy
  simp only [nm1, List.mem_cons, List.not_mem_nil, or_false] at hy
  rcases hy with rfl | rfl <;> exact ⟨by dsimp only; decide, by dsimp only; decide, by assumption⟩
theorem nm2_ok {x : RpX} {w : World} (h : RpAt w x) : ∀ y ∈ nm2 x, y.Ok := by
  obtain ⟨⟨h1, h2, h3, h4, h5⟩, h6, h7⟩ := h.z
  intro y hy
  simp only [nm2, List.mem_cons, List.not_mem_nil, or_false] at hy
  rcases hy with rfl | rfl | rfl | rfl | rfl <;> exact ⟨by dsimp only; decide, by dsimp only; decide, by assumption⟩
theorem numsF_nm {l : List NmX} (h : ∀ y ∈ l, y.Ok) : ∀ (b : Bool), (numsF nmL b l).length ≤ l.length * 43 := by
  induction l with
  | nil => intro b; simp [numsF]
  | cons y l ih =>
    intro b
    have h1 := ih (fun z hz => h z (List.mem_cons_of_mem _ hz)) false
    have h2 := nmL_len (h y (List.mem_cons_self ..))
    have h3 : (if b = true then ([] : List Nat) else [32]).length ≤ 1 := by cases b <;> simp
    rw [numsF, List.length_append, List.length_append, List.length_cons, Nat.succ_mul]
    omega
theorem numsF_nmb {l : List NmX} (h : ∀ y ∈ l, y.Ok) : ∀ (b : Bool), ∀ z ∈ numsF nmL b l, z < 256 := by
  induction l with
  | nil => intro b z hz; simp [numsF] at hz
  | cons y l ih =>
    intro b z hz
    rw [numsF] at hz
    rcases List.mem_append.1 hz with hz | hz
    · rcases List.mem_append.1 hz with hz | hz
      · cases b <;> simp at hz; omega
      · unfold nmL at hz
        rcases List.mem_append.1 hz with hz | hz
        · exact (h y (List.mem_cons_self ..)).1 z hz
        · rcases List.mem_cons.1 hz with rfl | hz
          · omega
          · exact digI_b _ z hz
    · exact ih (fun z hz => h z (List.mem_cons_of_mem _ hz)) false z hz
theorem repRow_b (cs : List CaX) (e : EvX) : ∀ z ∈ repRow cs e, z < 256 := by
  intro z hz
  unfold repRow at hz
  rcases List.mem_append.1 hz with hz | hz
  · split at hz
    · exact caLine_b _ z hz
    · simp at hz
  · rcases List.mem_append.1 hz with hz | hz
    · simp at hz; omega
    · rcases List.mem_append.1 hz with hz | hz
      · exact evLine_b _ z hz
      · simp at hz; omega
theorem repRows_b (cs : List CaX) : ∀ l, ∀ z ∈ repRows cs l, z < 256
  | [], z, hz => by simp [repRows] at hz
  | p :: l, z, hz => by
    rw [repRows] at hz
    rcases List.mem_append.1 hz with hz | hz
    · exact repRow_b _ _ z hz
    · exact repRows_b cs l z hz
theorem repRow_len (cs : List CaX) (e : EvX) (h : e.lw.length ≤ 200 ∧ e.kw.length ≤ 200) : (repRow cs e).length ≤ 10000 := by
  have h1 := evLine_len e
  have h2 : (if 0 ≤ e.ca ∧ e.ca < (cs.length : Int) then caLine (cs.getD e.ca.toNat c0X) else []).length ≤ 133 := by
    split
    · exact caLine_len _
    · simp
  unfold repRow
  simp only [List.length_append, List.length_cons, List.length_nil]
  omega
theorem repL_b {x : RpX} {w : World} (h : RpAt w x) : ∀ z ∈ repL x, z < 256 := by
  intro z hz
  unfold repL at hz
  simp only [List.mem_append, List.mem_singleton] at hz
  rcases hz with (((hz | hz) | hz) | hz) | hz
  · exact repRows_b _ _ z hz
  · exact numsF_nmb (nm1_ok h) _ z hz
  · omega
  · exact numsF_nmb (nm2_ok h) _ z hz
  · omega
end Go.Proofs.Ythacohejdpjjeaa
