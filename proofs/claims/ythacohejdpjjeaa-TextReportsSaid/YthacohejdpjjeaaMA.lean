/- Lines, plainly: digits, numbers, lists, events; what a reader makes of bytes, twice: as the program reads, and as the document's answer reads; that both are the same; that what is written is read, and what is read is written. -/
import Derived.Test.YthacohejdpjjeaaK
namespace Go.Proofs.Ythacohejdpjjeaa

/-! digits -/
/-- the digits of a number, the last one first -/
def rdg : Nat → Nat → List Nat
  | 0, _ => []
  | f + 1, x => (48 + x % 10) :: (if x / 10 = 0 then [] else rdg f (x / 10))
def digs (x : Nat) : List Nat := (rdg 20 x).reverse
def digI (x : Int) : List Nat := if x < 0 then 45 :: digs x.natAbs else digs x.natAbs

theorem rdg_more : ∀ (f g x : Nat), x < 10 ^ (f + 1) → x < 10 ^ (g + 1) → rdg (f + 1) x = rdg (g + 1) x
  | 0, 0, _, _, _ => rfl
  | 0, g + 1, x, h, _ => by
    have : x / 10 = 0 := by simp at h; omega
    simp [rdg, this]
  | f + 1, 0, x, _, h => by
    have : x / 10 = 0 := by simp at h; omega
    simp [rdg, this]
  | f + 1, g + 1, x, h, k => by
    show (48 + x % 10) :: (if x / 10 = 0 then [] else rdg (f + 1) (x / 10)) = (48 + x % 10) :: (if x / 10 = 0 then [] else rdg (g + 1) (x / 10))
    by_cases h0 : x / 10 = 0
    · rw [if_pos h0, if_pos h0]
    · rw [if_neg h0, if_neg h0, rdg_more f g (x / 10) (by rw [Nat.pow_succ] at h; omega) (by rw [Nat.pow_succ] at k; omega)]
theorem digs_lo {x : Nat} (h : x < 10) : digs x = [48 + x] := by
  have h1 : x / 10 = 0 := by omega
  have h2 : x % 10 = x := by omega
  simp [digs, rdg, h1, h2]
theorem digs_hi {x : Nat} (h : 10 ≤ x) (hx : x < 100000000000000000000) : digs x = digs (x / 10) ++ [48 + x % 10] := by
  have h1 : ¬ x / 10 = 0 := by omega
  unfold digs
  rw [show rdg 20 x = (48 + x % 10) :: rdg 19 (x / 10) by rw [rdg, if_neg h1], List.reverse_cons, rdg_more 18 19 (x / 10) (by omega) (by omega)]
theorem digs_snoc {x d : Nat} (h0 : 0 < x) (hd : d < 10) (hx : 10 * x + d < 100000000000000000000) : digs (10 * x + d) = digs x ++ [48 + d] := by
  rw [digs_hi (by omega) hx, show (10 * x + d) / 10 = x by omega, show (10 * x + d) % 10 = d by omega]
theorem rdg_len : ∀ (f x : Nat), (rdg f x).length ≤ f
  | 0, _ => Nat.le_refl _
  | f + 1, x => by
    rw [rdg]
    split
    · simp
    · have := rdg_len f (x / 10)
      simp; omega
theorem digs_len (x : Nat) : (digs x).length ≤ 20 := by
  unfold digs
  rw [List.length_reverse]; exact rdg_len _ _
theorem digI_len (x : Int) : (digI x).length ≤ 21 := by
  have := digs_len x.natAbs
  unfold digI
  split <;> simp <;> omega
theorem rdg_b : ∀ (f x : Nat), ∀ y ∈ rdg f x, 48 ≤ y ∧ y ≤ 57
  | 0, _ => fun y hy => by simp [rdg] at hy
  | f + 1, x => fun y hy => by
    rw [rdg] at hy
    rcases List.mem_cons.1 hy with rfl | hy
    · omega
    · split at hy
      · simp at hy
      · exact rdg_b f _ y hy
theorem digs_b (x : Nat) : ∀ y ∈ digs x, y < 256 := fun y hy => by
  have := rdg_b 20 x y (by simpa [digs] using hy)
  omega
theorem digI_b (x : Int) : ∀ y ∈ digI x, y < 256 := fun y hy => by
  unfold digI at hy
  split at hy
  · rcases List.mem_cons.1 hy with rfl | hy
    · omega
    · exact digs_b _ y hy
  · exact digs_b _ y hy
/-- a number's first digit is no 0, but that of 0 -/
theorem digs_head : ∀ (n x : Nat), x ≤ n → 0 < x → x < 100000000000000000000 → ∃ d r, digs x = (48 + d) :: r ∧ 0 < d ∧ d < 10
  | 0, x, h, h0, _ => by omega
  | n + 1, x, h, h0, hx => by
    by_cases h1 : x < 10
    · exact ⟨x, [], digs_lo h1, h0, h1⟩
    · obtain ⟨d, r, e, h2, h3⟩ := digs_head n (x / 10) (by omega) (by omega) (by omega)
      exact ⟨d, r ++ [48 + x % 10], by rw [digs_hi (by omega) hx, e, List.cons_append], h2, h3⟩

/-! lists -/
def numsF {α : Type} (p : α → List Nat) : Bool → List α → List Nat
  | _, [] => []
  | b, x :: l => (if b then [] else [32]) ++ p x ++ numsF p false l
def listL {α : Type} (p : α → List Nat) (l : List α) : List Nat := 91 :: (numsF p true l ++ [93])
theorem numsF_len {α : Type} {p : α → List Nat} {k : Nat} (hp : ∀ x, (p x).length ≤ k) : ∀ (b : Bool) (l : List α), (numsF p b l).length ≤ l.length * (k + 1)
  | _, [] => by simp [numsF]
  | b, x :: l => by
    have h1 := numsF_len hp false l
    have h2 := hp x
    have h3 : (if b = true then ([] : List Nat) else [32]).length ≤ 1 := by cases b <;> simp
    rw [numsF, List.length_append, List.length_append, List.length_cons, Nat.succ_mul]
    omega
theorem numsF_b {α : Type} {p : α → List Nat} (hp : ∀ x, ∀ y ∈ p x, y < 256) : ∀ (b : Bool) (l : List α), ∀ y ∈ numsF p b l, y < 256
  | _, [] => fun y hy => by simp [numsF] at hy
  | b, x :: l => fun y hy => by
    rw [numsF] at hy
    rcases List.mem_append.1 hy with hy | hy
    · rcases List.mem_append.1 hy with hy | hy
      · cases b <;> simp at hy
        omega
      · exact hp x y hy
    · exact numsF_b hp false l y hy
theorem listL_len {α : Type} {p : α → List Nat} {k : Nat} (hp : ∀ x, (p x).length ≤ k) (l : List α) : (listL p l).length ≤ l.length * (k + 1) + 2 := by
  have := numsF_len hp true l
  simp [listL]; omega
theorem listL_b {α : Type} {p : α → List Nat} (hp : ∀ x, ∀ y ∈ p x, y < 256) (l : List α) : ∀ y ∈ listL p l, y < 256 := fun y hy => by
  unfold listL at hy
  rcases List.mem_cons.1 hy with rfl | hy
  · omega
  · rcases List.mem_append.1 hy with hy | hy
    · exact numsF_b hp true l y hy
    · simp at hy; omega

/-! events and calls -/
structure EvX where
  ca : Int
  iv : Int
  rs : Int
  st : Int
  er : Int
  vl : Nat
  lw : List Nat
  kw : List Int
def evLine (e : EvX) : List Nat := numsF digI true [e.ca, e.iv, e.rs, e.st, e.er] ++ 32 :: (digs e.vl ++ 32 :: (listL digs e.lw ++ 32 :: listL digI e.kw))
def I63 (z : Int) : Prop := -9223372036854775808 ≤ z ∧ z ≤ 9223372036854775807
structure EvX.Ok (e : EvX) : Prop where
  ca : I63 e.ca
  iv : I63 e.iv
  rs : I63 e.rs
  st : I63 e.st
  er : I63 e.er
  vl : e.vl < 18446744073709551616
  lw : ∀ x ∈ e.lw, x < 18446744073709551616
  kw : ∀ z ∈ e.kw, I63 z
theorem evLine_len (e : EvX) : (evLine e).length ≤ 200 + e.lw.length * 21 + e.kw.length * 22 := by
  have h1 := numsF_len (p := digI) (k := 21) digI_len true [e.ca, e.iv, e.rs, e.st, e.er]
  have h2 := digs_len e.vl
  have h3 := listL_len (p := digs) (k := 20) digs_len e.lw
  have h4 := listL_len (p := digI) (k := 21) digI_len e.kw
  simp only [List.length_cons, List.length_nil] at h1
  simp only [evLine, List.length_append, List.length_cons]
  omega
theorem evLine_b (e : EvX) : ∀ y ∈ evLine e, y < 256 := fun y hy => by
  unfold evLine at hy
  simp only [List.mem_append, List.mem_cons] at hy
  rcases hy with hy | rfl | hy | rfl | hy | rfl | hy
  · exact numsF_b digI_b _ _ y hy
  · omega
  · exact digs_b _ y hy
  · omega
  · exact listL_b digs_b _ y hy
  · omega
  · exact listL_b digI_b _ y hy

/-! the reading, as the program does it: what is left, and whether it has stopped -/
abbrev PS := List Nat × Bool
def isC (c : Nat) (s : PS) : Bool := !s.2 && decide (s.1.head? = some c)
def passP (c : Nat) (s : PS) : PS := if isC c s = true then (s.1.tail, s.2) else (s.1, true)
def digO : List Nat → Option Nat
  | [] => none
  | c :: _ => if 48 ≤ c ∧ c ≤ 57 then some (c - 48) else none
def eatP (m : Nat) : Nat → List Nat → Nat × List Nat
  | x, [] => (x, [])
  | x, c :: r => if 48 ≤ c ∧ c ≤ 57 ∧ 10 * x + (c - 48) ≤ m then eatP m (10 * x + (c - 48)) r else (x, c :: r)
def magP (m : Nat) (s : PS) : Nat × PS :=
  if isC 48 s = true then (0, (s.1.tail, s.2))
  else if s.2 = true then (0, s)
  else ((eatP m 0 s.1).1, ((eatP m 0 s.1).2, decide ((eatP m 0 s.1).2.length = s.1.length)))
def intP (s : PS) : Int × PS :=
  if isC 45 s = true then
    if digO s.1.tail = some 0 then (0, (s.1.tail, true))
    else (-((magP 9223372036854775808 (s.1.tail, s.2)).1 : Int), (magP 9223372036854775808 (s.1.tail, s.2)).2)
  else ((magP 9223372036854775807 s).1, (magP 9223372036854775807 s).2)
def wordP (s : PS) : Nat × PS := magP 18446744073709551615 s
def loopP {α : Type} (nx : PS → α × PS) : Nat → List α → PS → Option (List α) × PS
  | 0, _, s => (none, (s.1, true))
  | f + 1, acc, s =>
    if s.2 = true then (none, s)
    else if isC 93 (nx s).2 = true then (some (acc ++ [(nx s).1]), ((nx s).2.1.tail, (nx s).2.2))
    else loopP nx f (acc ++ [(nx s).1]) (passP 32 (nx s).2)
def listP {α : Type} (nx : PS → α × PS) (s : PS) : Option (List α) × PS :=
  if isC 93 (passP 91 s) = true then (some [], ((passP 91 s).1.tail, (passP 91 s).2)) else loopP nx ((passP 91 s).1.length + 1) [] (passP 91 s)
def fieldP (s : PS) : Int × PS := ((intP s).1, passP 32 (intP s).2)
/-- the states behind each part of an event -/
def s1P (L : List Nat) : Int × PS := fieldP (L, false)
def s2P (L : List Nat) : Int × PS := fieldP (s1P L).2
def s3P (L : List Nat) : Int × PS := fieldP (s2P L).2
def s4P (L : List Nat) : Int × PS := fieldP (s3P L).2
def s5P (L : List Nat) : Int × PS := fieldP (s4P L).2
def s6P (L : List Nat) : Nat × PS := wordP (s5P L).2
def s7P (L : List Nat) : Option (List Nat) × PS := listP wordP (passP 32 (s6P L).2)
def s8P (L : List Nat) : Option (List Int) × PS := listP intP (passP 32 (s7P L).2)
def evP (L : List Nat) : EvX := ⟨(s1P L).1, (s2P L).1, (s3P L).1, (s4P L).1, (s5P L).1, (s6P L).1, (s7P L).1.getD [], (s8P L).1.getD []⟩
def endP (L : List Nat) : PS := (s8P L).2
def okP (L : List Nat) : Bool := !((endP L).2 || decide (0 < (endP L).1.length))

/-! the reading, as the document's answer does it -/
def eatR (m : Nat) : Bool → Nat → List Nat → Nat × List Nat × Bool
  | _, x, [] => (x, [], false)
  | fst, x, c :: r =>
    if 48 ≤ c ∧ c ≤ 57 then
      (if (fst = false ∧ x = 0) ∨ m < 10 * x + (c - 48) then (x, c :: r, true) else eatR m false (10 * x + (c - 48)) r)
    else (x, c :: r, false)
def magR (m : Nat) (s : PS) : Nat × PS :=
  if s.2 = true then (0, (s.1, true))
  else ((eatR m true 0 s.1).1, ((eatR m true 0 s.1).2.1, (eatR m true 0 s.1).2.2 || decide ((eatR m true 0 s.1).2.1.length = s.1.length)))
def intR (s : PS) : Int × PS :=
  if isC 45 s = true then
    if isC 48 (s.1.tail, s.2) = true then (0, (s.1.tail, true))
    else (-((magR 9223372036854775808 (s.1.tail, s.2)).1 : Int), (magR 9223372036854775808 (s.1.tail, s.2)).2)
  else ((magR 9223372036854775807 s).1, (magR 9223372036854775807 s).2)
def wordR (s : PS) : Nat × PS := magR 18446744073709551615 s
def sepR {α : Type} (acc : List α) (s : PS) : PS := if 0 < acc.length then passP 32 s else s
def loopR {α : Type} (nx : PS → α × PS) : Nat → List α → PS → List α × PS
  | 0, acc, s => (acc, s)
  | f + 1, acc, s => if isC 93 s = true ∨ s.2 = true then (acc, s) else loopR nx f (acc ++ [(nx (sepR acc s)).1]) (nx (sepR acc s)).2
def listR {α : Type} (nx : PS → α × PS) (s : PS) : List α × PS :=
  ((loopR nx ((passP 91 s).1.length + 1) [] (passP 91 s)).1, passP 93 (loopR nx ((passP 91 s).1.length + 1) [] (passP 91 s)).2)
def fieldR (s : PS) : Int × PS := ((intR s).1, passP 32 (intR s).2)
def s1R (L : List Nat) : Int × PS := fieldR (L, false)
def s2R (L : List Nat) : Int × PS := fieldR (s1R L).2
def s3R (L : List Nat) : Int × PS := fieldR (s2R L).2
def s4R (L : List Nat) : Int × PS := fieldR (s3R L).2
def s5R (L : List Nat) : Int × PS := fieldR (s4R L).2
def s6R (L : List Nat) : Nat × PS := wordR (s5R L).2
def s7R (L : List Nat) : List Nat × PS := listR wordR (passP 32 (s6R L).2)
def s8R (L : List Nat) : List Int × PS := listR intR (passP 32 (s7R L).2)
end Go.Proofs.Ythacohejdpjjeaa
