/- A row of elements of several cells, made by append, one element at a time. -/
import Derived.Test.YtmnlfhpkfgfpoaaDoorCeRow
namespace Go.Proofs.YtmnlfhpkfgfpoaaDoor
open Go.RowKit Ce

def MadeL (w : World) (B : Nat) (e : TypeId) (s : Nat) (v : Value) (n : Nat) (f : Nat → List Value) : Prop := w.ownsRow B e s v n (flat n f)
theorem MadeL.nil (w : World) (B : Nat) (e : TypeId) (s : Nat) (f : Nat → List Value) : MadeL w B e s (.slice none 0 0) 0 f := World.ownsRow_nil w B e s
theorem MadeL.grown {w w' : World} {B : Nat} {e : TypeId} {s : Nat} {v : Value} {n : Nat} {f : Nat → List Value} {row : Option Nat} (h : MadeL w B e s v n f) (hg : w.grownBy w' row) (hne : v.ownBlock = none ∨ v.ownBlock ≠ row) : MadeL w' B e s v n f := World.ownsRow.kept h hg hne
theorem MadeL.below {w w' : World} {B : Nat} {e : TypeId} {s : Nat} {v : Value} {n : Nat} {f : Nat → List Value} (h : MadeL w B e s v n f) (hb : Below w.heap.size w w') : MadeL w' B e s v n f :=
  h.grown (row := none) ⟨hb.os, hb.tape, hb.output, hb.size, fun i hi _ => hb.block i hi⟩ (by cases e : v.ownBlock <;> simp)
theorem MadeL.alloc {w : World} {B : Nat} {e : TypeId} {s : Nat} {v : Value} {n : Nat} {f : Nat → List Value} (h : MadeL w B e s v n f) (o : Obj) : MadeL (w.alloc o) B e s v n f := World.ownsRow.alloc h o
theorem MadeL.lt {w : World} {B : Nat} {e : TypeId} {s : Nat} {v : Value} {n : Nat} {f : Nat → List Value} (h : MadeL w B e s v n f) : ∀ k, v.ownBlock = some k → B ≤ k ∧ k < w.heap.size := World.ownsRow.lt h

/-- Two rows are two blocks. -/
def Apart (x y : Value) : Prop := ∀ k, x.ownBlock = some k → y.ownBlock = some k → False
theorem Apart.nil (c : Nat) (y : Value) : Apart (.slice none 0 c) y := fun k h => by simp [Value.ownBlock] at h
theorem Apart.symm {x y : Value} (h : Apart x y) : Apart y x := fun k h1 h2 => h k h2 h1
theorem Apart.kept {x y : Value} (h : Apart x y) : x.ownBlock = none ∨ x.ownBlock ≠ y.ownBlock := by
  cases e : x.ownBlock with
  | none => exact .inl rfl
  | some k => exact .inr fun h' => h k e h'.symm
theorem Apart.push {x y y' : Value} {s : Nat} (h : Apart x y) (hx : ∀ k, x.ownBlock = some k → k < s) (h' : y'.ownBlock = y.ownBlock ∨ y'.ownBlock = some s) : Apart x y' := fun k h1 h2 => by
  rcases h' with e | e
  · exact h k h1 (e ▸ h2)
  · rw [e] at h2; injection h2 with h2; have := hx k h1; omega

/-- append(s, x), one element of several cells. -/
theorem wpList_pushL {P : Program} {ops : Array Oper} {rest : List Oper} {o : Oper} {a : Act} {Q : Exit → Act → World → Prop} {w0 w : World} (hgd : o.guard = none) (s x : Operand) (t : TypeId)
    (ho : o.op = .call { callee := .builtin .append, args := #[s, x], argTypes := #[t, t] }) {e : TypeId} {z : Value} {size bytes : Nat} (ht : P.underlying t = some (.slice e))
    (hinfo : (P.info? e).map (fun i => (i.zero, i.size, i.bytes)) = some (some z, size, bytes)) (hz : z.cells.size = size) (hsz : 0 < size) (hby : bytes ≤ 1000)
    {B : Nat} {v : Value} {n : Nat} {f : Nat → List Value} (hf : (f n).length = size) (hs : a.eval s = v) (hown : MadeL w B e size v n f) (g0 : Nat) (hx : a.eval x = .slice (some ⟨g0, 0, none⟩) 1 1) (hc : ∀ j u, (f n)[j]? = some u → w.cell? ⟨g0, j, none⟩ = some u) (h1 : ∀ u ∈ f n, u.oneCell' = true)
    (hn : n ≤ 100000000) (hB : B ≤ w0.heap.size) (hb : Below B w0 w)
    (h : ∀ v' w', Hid (MadeL w' B e size v' (n + 1) f) → Below B w0 w' → Hid (w.grownBy w' v.ownBlock) → Hid (v'.ownBlock = v.ownBlock ∨ v'.ownBlock = some w.heap.size) → wpList P ops Q rest (a.put o.dst v') w') : wpList P ops Q (o :: rest) a w := by
  obtain ⟨i0, hi, hz0, hz1, hz2⟩ := info_parts hinfo
  refine wpList_append_own_at w hgd s x t ho B e i0 z size bytes ht hi hz0 hz1 hz2 hz hsz v n _ hs hown ⟨g0, 0, none⟩ 1 1 (f n) hx (by rw [hf, Nat.one_mul]) ?_ h1 (by unfold maxLen; omega) ?_ (Nat.le_trans hB hb.size) ?_
  · intro j u hj
    rw [show (⟨g0, 0, none⟩ : Addr).add j = ⟨g0, j, none⟩ by unfold Addr.add; split <;> simp_all]
    exact hc j u hj
  · have : (n + 1) * bytes ≤ 100000001 * 1000 := Nat.mul_le_mul (by omega) hby
    omega
  · intro v' w' h2 h3 _ h5
    refine h v' w' (Lib.hid ?_) (hb.grown h3 (Nat.le_trans hB hb.size) fun k hk => (World.ownsRow.lt hown k hk).1) (Lib.hid h3) (Lib.hid h5)
    unfold MadeL
    rw [flat_succ]
    exact h2

/-- What such a row is, as a value. -/
theorem MadeL.form {w : World} {B : Nat} {e : TypeId} {s : Nat} {v : Value} {n : Nat} {f : Nat → List Value} (hf : ∀ i, (f i).length = s) (h : MadeL w B e s v n f) : ∃ A c, v = .slice A n c ∧ n ≤ c ∧ c ≤ 9223372036854775807 ∧ Own w B e s A n c f := by
  obtain ⟨A, c, rfl, h1, h2, _⟩ := owns_form h
  exact ⟨A, c, rfl, h1, h2, Own.of hf h⟩

/-- append([]T{}, x...): a copy, of whatever length came in. -/
theorem wpList_copied_any {P : Program} {ops : Array Oper} {rest : List Oper} {o : Oper} {a : Act} {Q : Exit → Act → World → Prop} {w0 w : World} (hgd : o.guard = none) (s x : Operand) (t : TypeId)
    (ho : o.op = .call { callee := .builtin .append, args := #[s, x], argTypes := #[t, t] }) {e : TypeId} {z : Value} {size bytes : Nat} (ht : P.underlying t = some (.slice e))
    (hinfo : (P.info? e).map (fun i => (i.zero, i.size, i.bytes)) = some (some z, size, bytes)) (hz : z.cells.size = size) (hsz : 0 < size)
    {B : Nat} {v : Value} (hs : a.eval s = v) (hown : w.ownsRow B e size v 0 []) {A : Option Addr} {N c : Nat} (hx : a.eval x = .slice A N c) (hA : A = none → N = 0 ∧ c = 0)
    (xs : List Value) (hl : xs.length = N * size) (hcells : ∀ ad, A = some ad → ∀ j u, xs[j]? = some u → w.cell? (ad.add j) = some u) (h1 : ∀ u ∈ xs, u.oneCell' = true)
    (hn : N ≤ 9223372036854775807) (hby : N * bytes ≤ 140737488351232) (hB : B ≤ w0.heap.size) (hb : Below B w0 w)
    (h : ∀ v' w', Hid (w'.ownsRow B e size v' N xs) → Below B w0 w' → Hid (w.grownBy w' v.ownBlock) → wpList P ops Q rest (a.put o.dst v') w') : wpList P ops Q (o :: rest) a w := by
  obtain ⟨i0, hi, hz0, hz1, hz2⟩ := info_parts hinfo
  cases A with
  | none =>
    obtain ⟨rfl, rfl⟩ := hA rfl
    obtain rfl : xs = [] := List.eq_nil_of_length_eq_zero (by omega)
    exact wpList_append_own_none hgd s x t ho B e i0 size ht hi v 0 [] hs hown hx (h v w (Lib.hid hown) hb (Lib.hid (World.grownBy.refl w _)))
  | some ad =>
    refine wpList_append_own_at w hgd s x t ho B e i0 z size bytes ht hi hz0 hz1 hz2 hz hsz v 0 [] hs hown ad N c xs hx hl (hcells ad rfl) h1 (by unfold maxLen; omega) (by rw [Nat.zero_add]; omega) (Nat.le_trans hB hb.size) ?_
    intro v' w' h2 h3 _ _
    rw [Nat.zero_add] at h2
    exact h v' w' (Lib.hid h2) (hb.grown h3 (Nat.le_trans hB hb.size) (fun k hk => (World.ownsRow.lt hown k hk).1)) (Lib.hid h3)
end Go.Proofs.YtmnlfhpkfgfpoaaDoor
