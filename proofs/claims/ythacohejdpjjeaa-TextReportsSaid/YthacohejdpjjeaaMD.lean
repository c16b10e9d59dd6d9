/- Blocks in memory; all but one block as it was; bytes in a row; strings of bytes. -/
import Derived.Test.YthacohejdpjjeaaMC
import Derived.Test.YthacohejdpjjeaaK3
import Derived.Test.YthacohejdpjjeaaKB
import Derived.Test.YthacohejdpjjeaaR
import Derived.Test.YthacohejdpjjeaaT
import Derived.WalkLawsBesides
import Derived.WalkSmall
namespace Go.Proofs.Ythacohejdpjjeaa
set_option linter.unusedSimpArgs false
open Go.RowKit

theorem lt_of_heap {w : World} {b : Nat} {o : Obj} (h : w.heap[b]? = some o) : b < w.heap.size := by
  rcases Nat.lt_or_ge b w.heap.size with h' | h'
  · exact h'
  · simp [Array.getElem?_eq_none h'] at h
theorem heap_set_self {w : World} {b k : Nat} {c : Array Value} {t : TypeId} {fr : Nat × Nat} {v : Value} (h : w.heap[b]? = some (.cells c t fr)) : (w.setCell ⟨b, k, none⟩ v).heap[b]? = some (.cells (c.setIfInBounds k v) t fr) := by
  simp only [World.setCell, Array.getElem?_modify]
  rw [if_pos trivial, h]; rfl
theorem cell_of_heap {w : World} {b k : Nat} {c : Array Value} {t : TypeId} {fr : Nat × Nat} {v : Value} (h : w.heap[b]? = some (.cells c t fr)) (hv : c[k]? = some v) : w.cell? ⟨b, k, none⟩ = some v := by
  simp [World.cell?, h, hv]
theorem free_of_heap {w : World} {b k : Nat} {c : Array Value} {t : TypeId} (h : w.heap[b]? = some (.cells c t (0, 0))) : w.frozen? ⟨b, k, none⟩ = false := by
  simp [World.frozen?, h]

/-- all blocks but p, of those that there were, are as they were -/
structure But1 (p : Nat) (w w' : World) : Prop where
  os : w'.os = w.os
  tape : w'.tape = w.tape
  output : w'.output = w.output
  size : w.heap.size ≤ w'.heap.size
  block : ∀ k, k < w.heap.size → k ≠ p → w'.heap[k]? = w.heap[k]?

theorem But1.refl (p : Nat) (w : World) : But1 p w w := ⟨rfl, rfl, rfl, Nat.le_refl _, fun _ _ _ => rfl⟩
theorem But1.trans {p : Nat} {a b c : World} (h : But1 p a b) (k : But1 p b c) : But1 p a c :=
  ⟨k.os.trans h.os, k.tape.trans h.tape, k.output.trans h.output, Nat.le_trans h.size k.size, fun i hi h1 => (k.block i (Nat.lt_of_lt_of_le hi h.size) h1).trans (h.block i hi h1)⟩
theorem But1.alloc {p : Nat} {a w : World} (h : But1 p a w) (o : Obj) : But1 p a (w.alloc o) :=
  ⟨h.os, h.tape, h.output, Nat.le_trans h.size (by simp), fun i hi h1 => (Below.heap_alloc w o i (Nat.lt_of_lt_of_le hi h.size)).trans (h.block i hi h1)⟩
theorem But1.setCell {p : Nat} {a w : World} (h : But1 p a w) {x : Addr} (hx : x.block = p ∨ a.heap.size ≤ x.block) (v : Value) : But1 p a (w.setCell x v) :=
  ⟨h.os, h.tape, h.output, by simpa [World.setCell] using h.size, fun i hi h1 => (Below.heap_setCell w x v i (by rcases hx with hx | hx <;> omega)).trans (h.block i hi h1)⟩
theorem But1.drewN {p : Nat} {a w : World} (h : But1 p a w) (n : Nat) : But1 p a (w.drewN n) := ⟨h.os, h.tape, h.output, h.size, h.block⟩
theorem But1.drew {p : Nat} {a w : World} (h : But1 p a w) : But1 p a w.drew := ⟨h.os, h.tape, h.output, h.size, h.block⟩
theorem But1.below {p B : Nat} {a w : World} (h : But1 p a w) (hp : B ≤ p) (hB : B ≤ a.heap.size) : Below B a w := ⟨h.os, h.tape, h.output, h.size, fun k hk => h.block k (by omega) (by omega)⟩
theorem But1.of_below {p : Nat} {a w : World} (h : Below a.heap.size a w) : But1 p a w := ⟨h.os, h.tape, h.output, h.size, fun k hk _ => h.block k hk⟩
theorem But1.cell {p : Nat} {a w : World} (h : But1 p a w) {x : Addr} {v : Value} (hx : x.block < a.heap.size) (hp : x.block ≠ p) (hc : a.cell? x = some v) : w.cell? x = some v := by
  rw [← hc]; unfold World.cell?; rw [h.block _ hx hp]
/-- an own row made before, elsewhere -/
theorem But1.own {p : Nat} {a w : World} (h : But1 p a w) {B : Nat} {e : TypeId} {s n : Nat} {v : Value} {xs : List Value} (ho : a.ownsRow B e s v n xs) (hp : p < B) : w.ownsRow B e s v n xs :=
  ho.kept (row := some p) ⟨h.os, h.tape, h.output, h.size, fun k hk hne => h.block k hk (fun e => hne (by rw [e]))⟩ (by
    obtain ⟨_, ⟨rfl, _⟩ | ⟨g, cap, cur, rfl, hg, _⟩⟩ := ho
    · left; rfl
    · right; simp [Value.ownBlock]; omega)

/-- bytes lie in a row -/
def BCells (w : World) (b o : Nat) (l : List Nat) : Prop := ∀ (i : Nat) (x : Nat), l[i]? = some x → w.cell? ⟨b, o + i, none⟩ = some (.int .u8 (x : Int)) ∧ x < 256
theorem BCells.stays {w wr : World} {b o B : Nat} {l : List Nat} (h : BCells w b o l) (hb : Below B w wr) (hB : 0 < l.length → b < B) : BCells wr b o l := by
  intro i x hx
  have hl : 0 < l.length := by have := (List.getElem?_eq_some_iff.1 hx).1; omega
  obtain ⟨h1, h3⟩ := h i x hx
  exact ⟨(hb.cell (p := ⟨b, _, none⟩) (hB hl)).trans h1, h3⟩
theorem infoB : (Try.prog.info? 5).map (fun i => (i.zero, i.size, i.bytes)) = some (some (.int .u8 0), 1, 1) := by kernel_rfl
def bV (x : Nat) : Value := .int .u8 (x : Int)
abbrev BOwn (w : World) (B : Nat) (v : Value) (l : List Nat) : Prop := w.ownsRow B 5 1 v l.length (l.map bV)
/-- what appending leaves -/
def ApP (B : Nat) (w : World) (l : List Nat) (e : Ending) (w' : World) : Prop := ∃ v, e = .returned v ∧ BOwn w' B v l ∧ Below B w w' ∧ Keeps 5 w w'
theorem bV_all (l : List Nat) : (l.map bV).all (fun u => u.oneCell') = true := by
  induction l with
  | nil => rfl
  | cons x l ih => rw [List.map_cons, List.all_cons, ih]; rfl
theorem BOwn.app {w : World} {B : Nat} {v : Value} {l m : List Nat} {n : Nat} (h : w.ownsRow B 5 1 v n (l.map bV ++ m.map bV)) (hn : n = l.length + m.length) : BOwn w B v (l ++ m) := by
  unfold BOwn
  rw [List.length_append, ← hn, List.map_append]; exact h

/-- bytes as a string -/
theorem str_of (w : World) (ao : Option Addr) (b o c : Nat) (L : List Nat) (h0 : 0 < L.length → ao = some ⟨b, o, none⟩) (hc : BCells w b o L) :
    (convert 77 9 (.slice ao L.length c)).run Try.prog w = .ok (.string (strOfNums (L.map (fun x : Nat => (x : Int))))) w := by
  cases hL : L.length with
  | zero =>
    obtain rfl : L = [] := List.length_eq_zero_iff.1 hL
    cases ao with
    | none => exact run_convert_bytes_nil w 77 5 Try.underlying77 Try.underlying5 0 c 9 Try.underlying9
    | some a =>
      rw [run_convert_bytes_string w 77 9 5 _ 0 c Try.underlying77 Try.underlying5 Try.underlying9, run_bytesToString w a 0 c [] rfl]
      rfl
  | succ n =>
    rw [h0 (by omega), ← hL]
    refine run_convert_bytes_arg w 77 5 Try.underlying77 Try.underlying5 b o L.length c _ (by simp) ?_ 9 Try.underlying9
    intro i hi
    have := (hc i L[i] (List.getElem?_eq_getElem hi)).1
    rw [this]
    simp [List.getD, hi]
theorem bown_cells {w : World} {B : Nat} {v : Value} {l : List Nat} (h : BOwn w B v l) (h5 : ∀ x ∈ l, x < 256) : ∃ ao g c, v = .slice ao l.length c ∧ (0 < l.length → ao = some ⟨g, 0, none⟩) ∧ (0 < l.length → g < w.heap.size) ∧ BCells w g 0 l := by
  obtain ⟨ao, g, c, rfl, h1, _, h3, h4⟩ := owns_open h
  refine ⟨ao, g, c, rfl, h1, h3, fun i x hx => ⟨?_, h5 x (List.mem_of_getElem? hx)⟩⟩
  rw [Nat.zero_add]
  exact h4 i (bV x) (by rw [List.getElem?_map, hx]; rfl)

/-- the string of some bytes -/
def strB (L : List Nat) : ByteArray := strOfNums (L.map (fun x : Nat => (x : Int)))
theorem strB_list (L : List Nat) : (strB L).data.toList = L.map UInt8.ofNat := by
  unfold strB
  rw [strOfNums_data, List.map_map]
  apply List.map_congr_left
  intro x _
  simp
theorem strB_size (L : List Nat) : (strB L).size = L.length := by
  unfold strB
  rw [strOfNums_size, List.length_map]
theorem str_ext {a b : ByteArray} (h : a.data.toList = b.data.toList) : a = b := by
  obtain ⟨⟨l⟩⟩ := a
  obtain ⟨⟨k⟩⟩ := b
  simp only at h
  rw [h]
theorem strB_app (L M : List Nat) : strB L ++ strB M = strB (L ++ M) := by
  apply str_ext
  rw [strB_list, List.map_append, ← strB_list L, ← strB_list M]
  simp [ByteArray.toList_data_append]
theorem strB_inj {L M : List Nat} (hL : ∀ x ∈ L, x < 256) (hM : ∀ x ∈ M, x < 256) (h : strB L = strB M) : L = M := by
  have e : L.map UInt8.ofNat = M.map UInt8.ofNat := by rw [← strB_list, ← strB_list, h]
  have f : ∀ K : List Nat, (∀ x ∈ K, x < 256) → (K.map UInt8.ofNat).map UInt8.toNat = K := fun K hK => by
    rw [List.map_map]
    conv => rhs; rw [← List.map_id K]
    apply List.map_congr_left
    intro x hx
    have := hK x hx
    simp [UInt8.toNat_ofNat]
    omega
  rw [← f L hL, ← f M hM, e]
/-- any string is one of bytes -/
def bytesOfS (s : ByteArray) : List Nat := s.data.toList.map UInt8.toNat
theorem strB_of (s : ByteArray) : strB (bytesOfS s) = s := by
  apply str_ext
  rw [strB_list, bytesOfS, List.map_map]
  conv => rhs; rw [← List.map_id s.data.toList]
  apply List.map_congr_left
  intro x _
  simp
theorem bytesOfS_b (s : ByteArray) : ∀ x ∈ bytesOfS s, x < 256 := fun x hx => by
  obtain ⟨y, _, rfl⟩ := List.mem_map.1 hx
  exact y.toNat_lt
/-- a byte of a string -/
theorem run_at (L : List Nat) (hL : ∀ x ∈ L, x < 256) (i x : Nat) (h : L[i]? = some x) (w : World) : (Instr.index 9 (.string (strB L)) (.int .i64 (i : Int))).run Try.prog w = .ok (.int .u8 (x : Int)) w := by
  have hi := (List.getElem?_eq_some_iff.1 h).1
  rw [run_index_string w 9 _ .i64 _ Try.underlying9, dif_pos ⟨by omega, by rw [strB_size]; omega⟩]
  have hk : (i : Int).toNat < (strB L).size := by rw [strB_size, Int.toNat_natCast]; exact hi
  have h2 : (strB L).data.toList[i]? = some (UInt8.ofNat x) := by rw [strB_list, List.getElem?_map, h]; rfl
  have e : (strB L)[(i : Int).toNat]'hk = UInt8.ofNat x := by
    have h3 : (strB L).data[(i : Int).toNat]'hk = UInt8.ofNat x := by
      rw [← Array.getElem_toList]
      apply Option.some.inj
      rw [← List.getElem?_eq_getElem, Int.toNat_natCast, h2]
    exact h3
  rw [e]
  have := hL x (List.mem_of_getElem? h)
  rw [UInt8.toNat_ofNat', Nat.mod_eq_of_lt (by omega)]
end Go.Proofs.Ythacohejdpjjeaa
