/- Lists of plain structs: those that lie somewhere, and those that are made by append, by their contents. -/
import Derived.Test.YtljdkjjjnlcflaaDoorMade
namespace Go.Proofs.YtljdkjjjnlcflaaDoor
open Go.RowKit

theorem addrAdd (bk off n : Nat) : (⟨bk, off, none⟩ : Addr).add n = ⟨bk, off + n, none⟩ := by
  unfold Addr.add
  split
  · rename_i h; subst h; rfl
  · rfl

section
variable {X : Type}

/-- The cells of all elements, one behind the other. -/
def flatL (L : X → List Value) (l : List X) : List Value := l.flatMap L
theorem flatL_snoc (L : X → List Value) (l : List X) (x : X) : flatL L (l ++ [x]) = flatL L l ++ L x := by simp [flatL]
theorem flatL_append (L : X → List Value) (l m : List X) : flatL L (l ++ m) = flatL L l ++ flatL L m := by simp [flatL]
theorem flatL_length {s : Nat} {L : X → List Value} (hL : ∀ x, (L x).length = s) (l : List X) : (flatL L l).length = l.length * s := by
  induction l with
  | nil => simp [flatL]
  | cons x l ih => rw [show flatL L (x :: l) = L x ++ flatL L l by simp [flatL], List.length_append, ih, hL, List.length_cons, Nat.succ_mul]; omega
theorem flatL_at {s : Nat} {L : X → List Value} (hL : ∀ x, (L x).length = s) {l : List X} {i : Nat} {x : X} (hi : l[i]? = some x) {j : Nat} (hj : j < s) : (flatL L l)[i * s + j]? = (L x)[j]? := by
  induction l generalizing i with
  | nil => cases hi
  | cons y l ih =>
    rw [show flatL L (y :: l) = L y ++ flatL L l by simp [flatL]]
    cases i with
    | zero =>
      obtain rfl : y = x := by simpa using hi
      rw [List.getElem?_append_left (by rw [hL]; omega)]; congr 1; omega
    | succ i =>
      rw [List.getElem?_append_right (by rw [hL, Nat.succ_mul]; omega), hL, show (i + 1) * s + j - s = i * s + j by rw [Nat.succ_mul]; omega]
      exact ih (by simpa using hi)

/-- A list lies at A. -/
def IsL (w : World) (A : Option Addr) (s : Nat) (L : X → List Value) (l : List X) : Prop :=
  ∀ i x, l[i]? = some x → ∃ b off, A = some ⟨b, off, none⟩ ∧ ∀ j u, (L x)[j]? = some u → w.cell? ⟨b, off + i * s + j, none⟩ = some u
theorem IsL.same {w w' : World} {A : Option Addr} {s : Nat} {L : X → List Value} {l : List X} (h : IsL w A s L l) (hs : ∀ k, k < w.heap.size → w'.heap[k]? = w.heap[k]?) : IsL w' A s L l := fun i x hx => by
  obtain ⟨b, off, e, h1⟩ := h i x hx
  refine ⟨b, off, e, fun j u hu => ?_⟩
  have h2 := h1 j u hu
  exact (World.cell?_of_block (w := w) (hs b (World.block_lt_of_cell? _ _ h2))).trans h2
theorem IsL.below {w w' : World} {A : Option Addr} {s : Nat} {L : X → List Value} {l : List X} (h : IsL w A s L l) (hb : Below w.heap.size w w') : IsL w' A s L l := h.same fun k hk => hb.block k hk
theorem IsL.nil (w : World) (A : Option Addr) (s : Nat) (L : X → List Value) : IsL w A s L [] := fun i x hx => by cases hx

/-- A list made by append, in memory of the call's own (from B on). -/
def MadeX (w : World) (B : Nat) (e : TypeId) (s : Nat) (L : X → List Value) (v : Value) (l : List X) : Prop := w.ownsRow B e s v l.length (flatL L l)
variable {w w' : World} {B : Nat} {e : TypeId} {s : Nat} {L : X → List Value} {v : Value} {l : List X}
theorem MadeX.nil (w : World) (B : Nat) (e : TypeId) (s : Nat) (L : X → List Value) : MadeX w B e s L (.slice none 0 0) [] := World.ownsRow_nil w B e s
theorem MadeX.grown {row : Option Nat} (h : MadeX w B e s L v l) (hg : w.grownBy w' row) (hne : v.ownBlock = none ∨ v.ownBlock ≠ row) : MadeX w' B e s L v l := World.ownsRow.kept h hg hne
theorem MadeX.below (h : MadeX w B e s L v l) (hb : Below w.heap.size w w') : MadeX w' B e s L v l :=
  h.grown (row := none) ⟨hb.os, hb.tape, hb.output, hb.size, fun i hi _ => hb.block i hi⟩ (by cases e : v.ownBlock <;> simp)
theorem MadeX.alloc (h : MadeX w B e s L v l) (o : Obj) : MadeX (w.alloc o) B e s L v l := World.ownsRow.alloc h o
theorem MadeX.lt (h : MadeX w B e s L v l) : ∀ k, v.ownBlock = some k → B ≤ k ∧ k < w.heap.size := World.ownsRow.lt h

/-- What it is as a value, and that it lies there. -/
theorem MadeX.form (hL : ∀ x, (L x).length = s) (h : MadeX w B e s L v l) : ∃ A c, v = .slice A l.length c ∧ (l.length ≤ c ∧ c ≤ 9223372036854775807) ∧ (A = none → l.length = 0 ∧ c = 0) ∧ IsL w A s L l := by
  obtain ⟨A, c, rfl, h1, h2, h3, h4⟩ := owns_form h
  refine ⟨A, c, rfl, ⟨h1, h2⟩, h3, fun i x hx => ?_⟩
  have hi : i < l.length := (List.getElem?_eq_some_iff.1 hx).1
  obtain ⟨g, rfl, _, h6⟩ := h4 (by omega)
  refine ⟨g, 0, rfl, fun j u hu => ?_⟩
  have hj : j < s := by rw [← hL x]; exact (List.getElem?_eq_some_iff.1 hu).1
  have h5 : i * s + j < l.length * s := by
    have : (i + 1) * s ≤ l.length * s := Nat.mul_le_mul (by omega) (Nat.le_refl _)
    rw [Nat.succ_mul] at this; omega
  rw [Nat.zero_add]
  exact (h6 _ h5).trans ((flatL_at hL hx hj).trans hu)

/-- append(s, x), one element. -/
theorem wpList_pushX {P : Program} {ops : Array Oper} {rest : List Oper} {o : Oper} {a : Act} {Q : Exit → Act → World → Prop} {w0 w : World} (hgd : o.guard = none) (s x : Operand) (t : TypeId)
    (ho : o.op = .call { callee := .builtin .append, args := #[s, x], argTypes := #[t, t] }) {e : TypeId} {z : Value} {size bytes : Nat} (ht : P.underlying t = some (.slice e))
    (hinfo : (P.info? e).map (fun i => (i.zero, i.size, i.bytes)) = some (some z, size, bytes)) (hz : z.cells.size = size) (hsz : 0 < size) (hby : bytes ≤ 1000)
    {B : Nat} {v : Value} {L : X → List Value} {l : List X} (y : X) (hf : (L y).length = size) (hs : a.eval s = v) (hown : MadeX w B e size L v l) (g0 off : Nat) (c0 : Nat) (hx : a.eval x = .slice (some ⟨g0, off, none⟩) 1 c0) (hc : ∀ j u, (L y)[j]? = some u → w.cell? ⟨g0, off + j, none⟩ = some u) (h1 : ∀ u ∈ L y, u.oneCell' = true)
    (hn : l.length ≤ 100000000) (hB : B ≤ w0.heap.size) (hb : Below B w0 w)
    (h : ∀ v' w', Hid (MadeX w' B e size L v' (l ++ [y])) → Below B w0 w' → Hid (w.grownBy w' v.ownBlock) → Hid (v'.ownBlock = v.ownBlock ∨ v'.ownBlock = some w.heap.size) → wpList P ops Q rest (a.put o.dst v') w') : wpList P ops Q (o :: rest) a w := by
  obtain ⟨i0, hi, hz0, hz1, hz2⟩ := info_parts hinfo
  refine wpList_append_own_at w hgd s x t ho B e i0 z size bytes ht hi hz0 hz1 hz2 hz hsz v l.length _ hs hown ⟨g0, off, none⟩ 1 c0 (L y) hx (by rw [hf, Nat.one_mul]) ?_ h1 (by unfold maxLen; omega) ?_ (Nat.le_trans hB hb.size) ?_
  · intro j u hj
    rw [show (⟨g0, off, none⟩ : Addr).add j = ⟨g0, off + j, none⟩ from addrAdd _ _ _]
    exact hc j u hj
  · have : (l.length + 1) * bytes ≤ 100000001 * 1000 := Nat.mul_le_mul (by omega) hby
    omega
  · intro v' w' h2 h3 _ h5
    refine h v' w' (Lib.hid ?_) (hb.grown h3 (Nat.le_trans hB hb.size) fun k hk => (World.ownsRow.lt hown k hk).1) (Lib.hid h3) (Lib.hid h5)
    unfold MadeX
    rw [flatL_snoc, List.length_append]
    exact h2

/-- append(s, x...): a list behind one that was made. -/
theorem wpList_joinX {P : Program} {ops : Array Oper} {rest : List Oper} {o : Oper} {a : Act} {Q : Exit → Act → World → Prop} {w0 w : World} (hgd : o.guard = none) (s x : Operand) (t : TypeId)
    (ho : o.op = .call { callee := .builtin .append, args := #[s, x], argTypes := #[t, t] }) {e : TypeId} {z : Value} {size bytes : Nat} (ht : P.underlying t = some (.slice e))
    (hinfo : (P.info? e).map (fun i => (i.zero, i.size, i.bytes)) = some (some z, size, bytes)) (hz : z.cells.size = size) (hsz : 0 < size)
    {B : Nat} {v : Value} {L : X → List Value} {l m : List X} (hL : ∀ y, (L y).length = size) (hs : a.eval s = v) (hown : MadeX w B e size L v l) {A : Option Addr} {c : Nat} (hx : a.eval x = .slice A m.length c) (hA : A = none → m.length = 0 ∧ c = 0) (hm : IsL w A size L m) (h1 : ∀ y, ∀ u ∈ L y, u.oneCell' = true)
    (hn : l.length + m.length ≤ 9223372036854775807) (hby : (l.length + m.length) * bytes ≤ 140737488351232) (hB : B ≤ w0.heap.size) (hb : Below B w0 w)
    (h : ∀ v' w', Hid (MadeX w' B e size L v' (l ++ m)) → Below B w0 w' → Hid (w.grownBy w' v.ownBlock) → wpList P ops Q rest (a.put o.dst v') w') : wpList P ops Q (o :: rest) a w := by
  obtain ⟨i0, hi, hz0, hz1, hz2⟩ := info_parts hinfo
  cases A with
  | none =>
    obtain ⟨h0, rfl⟩ := hA rfl
    obtain rfl : m = [] := List.eq_nil_of_length_eq_zero h0
    refine wpList_append_own_none hgd s x t ho B e i0 size ht hi v l.length _ hs hown hx ?_
    refine h v w (Lib.hid ?_) hb (Lib.hid (World.grownBy.refl w _))
    rw [List.append_nil]; exact hown
  | some ad =>
    refine wpList_append_own_at w hgd s x t ho B e i0 z size bytes ht hi hz0 hz1 hz2 hz hsz v l.length _ hs hown ad m.length c (flatL L m) hx (flatL_length hL m) ?_ (fun u hu => ?_) (by unfold maxLen; omega) (by omega) (Nat.le_trans hB hb.size) ?_
    · intro j u hj
      have hj' : j < m.length * size := by rw [← flatL_length hL m]; exact (List.getElem?_eq_some_iff.1 hj).1
      have hi' : j / size < m.length := Nat.div_lt_of_lt_mul (by rw [Nat.mul_comm]; exact hj')
      have hk : j % size < size := Nat.mod_lt _ hsz
      have ej : j = j / size * size + j % size := by rw [Nat.mul_comm]; exact (Nat.div_add_mod j size).symm
      obtain ⟨bk, off, e1, h2⟩ := hm (j / size) _ (List.getElem?_eq_getElem hi')
      injection e1 with e1
      subst e1
      rw [ej, flatL_at hL (List.getElem?_eq_getElem hi') hk] at hj
      rw [show (⟨bk, off, none⟩ : Addr).add j = ⟨bk, off + j / size * size + j % size, none⟩ by rw [Nat.add_assoc, ← ej, addrAdd]]
      exact h2 _ _ hj
    · unfold flatL at hu
      obtain ⟨y, _, hy⟩ := List.mem_flatMap.1 hu
      exact h1 y u hy
    · intro v' w' h2 h3 _ _
      refine h v' w' (Lib.hid ?_) (hb.grown h3 (Nat.le_trans hB hb.size) (fun k hk => (World.ownsRow.lt hown k hk).1)) (Lib.hid h3)
      unfold MadeX
      rw [flatL_append, List.length_append]
      exact h2
end
end Go.Proofs.YtljdkjjjnlcflaaDoor
