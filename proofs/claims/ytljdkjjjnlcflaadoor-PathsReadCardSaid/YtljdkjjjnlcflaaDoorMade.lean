/- A list that a call makes by append, an element at a time: one cell an element. -/
import Derived.Maps.AppendAt
import Derived.Deep.AppendLies
import Derived.OwnWalk
import Derived.Laws.AppendOwnNone
import Derived.Test.YtljdkjjjnlcflaaDoorBase
namespace Go.Proofs.YtljdkjjjnlcflaaDoor
open Go.RowKit

/-- v is a list of the call's own (from block B on): its n elements are f 0, f 1, .. -/
def Made (w : World) (B : Nat) (e : TypeId) (v : Value) (n : Nat) (f : Nat → Value) : Prop := w.ownsRow B e 1 v n ((List.range n).map f)

theorem Made.nil (w : World) (B : Nat) (e : TypeId) (f : Nat → Value) : Made w B e (.slice none 0 0) 0 f := World.ownsRow_nil w B e 1

theorem Made.form {w : World} {B : Nat} {e : TypeId} {v : Value} {n : Nat} {f : Nat → Value} (h : Made w B e v n f) : ∃ A c, v = .slice A n c ∧ n ≤ c ∧ c ≤ 9223372036854775807 ∧
    ∀ i, i < n → ∃ g, A = some ⟨g, 0, none⟩ ∧ B ≤ g ∧ w.cell? ⟨g, i, none⟩ = some (f i) := by
  rcases h.2 with ⟨rfl, rfl⟩ | ⟨g, cap, cur, rfl, hb, _, hn, hm, _⟩
  · exact ⟨none, 0, rfl, Nat.le_refl _, by omega, fun i hi => by omega⟩
  · refine ⟨_, cap, rfl, hn, by unfold maxLen at hm; omega, fun i hi => ⟨g, rfl, hb, ?_⟩⟩
    rw [World.ownsRow.cellAt h i (by omega)]
    simp [hi]

theorem Made.grown {w w' : World} {B : Nat} {e : TypeId} {v : Value} {n : Nat} {f : Nat → Value} {row : Option Nat} (h : Made w B e v n f) (hg : w.grownBy w' row) (hne : v.ownBlock = none ∨ v.ownBlock ≠ row) : Made w' B e v n f := World.ownsRow.kept h hg hne
theorem Made.alloc {w : World} {B : Nat} {e : TypeId} {v : Value} {n : Nat} {f : Nat → Value} (h : Made w B e v n f) (o : Obj) : Made (w.alloc o) B e v n f := World.ownsRow.alloc h o
theorem Made.below {w w' : World} {B : Nat} {e : TypeId} {v : Value} {n : Nat} {f : Nat → Value} (h : Made w B e v n f) (hb : Below w.heap.size w w') : Made w' B e v n f :=
  h.grown (row := none) ⟨hb.os, hb.tape, hb.output, hb.size, fun i hi _ => hb.block i hi⟩ (by cases e : v.ownBlock <;> simp)

/-- Lists of two element types are two blocks. -/
theorem Made.apart {w : World} {B B' : Nat} {e e' : TypeId} {v v' : Value} {n n' : Nat} {f f' : Nat → Value} (h : Made w B e v n f) (h' : Made w B' e' v' n' f') (hne : e ≠ e') : v.ownBlock = none ∨ v.ownBlock ≠ v'.ownBlock := by
  rcases h.2 with ⟨rfl, _⟩ | ⟨g, cap, cur, rfl, _, hg, _⟩
  · exact .inl rfl
  · refine .inr fun hh => ?_
    rcases h'.2 with ⟨rfl, _⟩ | ⟨g', cap', cur', rfl, _, hg', _⟩
    · simp [Value.ownBlock] at hh
    · have : g = g' := by simpa [Value.ownBlock] using hh
      subst this
      rw [hg] at hg'
      injection hg' with hg'
      injection hg' with _ ht
      exact hne ht

theorem below_grown {w w' : World} {B : Nat} {e : TypeId} {v : Value} {n : Nat} {f : Nat → Value} {w0 : World} (hb : Below B w0 w) (hB : B ≤ w0.heap.size) (h : Made w B e v n f) (hg : w.grownBy w' v.ownBlock) : Below B w0 w' :=
  hb.grown hg (Nat.le_trans hB hb.size) (fun k hk => (World.ownsRow.lt h k hk).1)

/-- append(s, x). -/
theorem wpList_push {P : Program} {ops : Array Oper} {rest : List Oper} {o : Oper} {a : Act} {Q : Exit → Act → World → Prop} {w : World} (hgd : o.guard = none) (s x : Operand) (t : TypeId)
    (ho : o.op = .call { callee := .builtin .append, args := #[s, x], argTypes := #[t, t] }) {e : TypeId} {z : Value} {bytes : Nat} (ht : P.underlying t = some (.slice e))
    (hinfo : (P.info? e).map (fun i => (i.zero, i.size, i.bytes)) = some (some z, 1, bytes)) (hz : z.cells.size = 1) (hby : bytes ≤ 1000)
    {B : Nat} {v : Value} {n : Nat} {f : Nat → Value} (hs : a.eval s = v) (hown : Made w B e v n f) (g0 : Nat) (hx : a.eval x = .slice (some ⟨g0, 0, none⟩) 1 1) (hc : w.cell? ⟨g0, 0, none⟩ = some (f n)) (h1 : (f n).oneCell' = true)
    (hn : n ≤ 100000000) (hB : B ≤ w.heap.size)
    (h : ∀ v' w', Made w' B e v' (n + 1) f → w.grownBy w' v.ownBlock → (v'.ownBlock = v.ownBlock ∨ v'.ownBlock = some w.heap.size) → wpList P ops Q rest (a.put o.dst v') w') : wpList P ops Q (o :: rest) a w := by
  obtain ⟨i0, hi, hz0, hz1, hz2⟩ := info_parts hinfo
  refine wpList_append_own_at w hgd s x t ho B e i0 z 1 bytes ht hi hz0 hz1 hz2 hz (by omega) v n _ hs hown ⟨g0, 0, none⟩ 1 1 [f n] hx rfl ?_ (by simpa using h1) (by unfold maxLen; omega) ?_ hB ?_
  · intro j u hj
    match j with
    | 0 => simp at hj; subst hj; simpa [Addr.add] using hc
    | j + 1 => simp at hj
  · have : (n + 1) * bytes ≤ 100000001 * 1000 := Nat.mul_le_mul (by omega) hby
    omega
  · intro v' w' h2 h3 _ h5
    refine h v' w' ?_ h3 h5
    unfold Made
    rw [List.range_succ, List.map_append]
    exact h2

/-- append(s, x), and what it leaves alone: all that lay below B, and lists of other element types. -/
theorem wpList_pushed {P : Program} {ops : Array Oper} {rest : List Oper} {o : Oper} {a : Act} {Q : Exit → Act → World → Prop} {w0 w : World} (hgd : o.guard = none) (s x : Operand) (t : TypeId)
    (ho : o.op = .call { callee := .builtin .append, args := #[s, x], argTypes := #[t, t] }) {e : TypeId} {z : Value} {bytes : Nat} (ht : P.underlying t = some (.slice e))
    (hinfo : (P.info? e).map (fun i => (i.zero, i.size, i.bytes)) = some (some z, 1, bytes)) (hz : z.cells.size = 1) (hby : bytes ≤ 1000)
    {B : Nat} {v : Value} {n : Nat} {f : Nat → Value} (hs : a.eval s = v) (hown : Made w B e v n f) (g0 : Nat) (hx : a.eval x = .slice (some ⟨g0, 0, none⟩) 1 1) (hc : w.cell? ⟨g0, 0, none⟩ = some (f n)) (h1 : (f n).oneCell' = true)
    (hn : n ≤ 100000000) (hB : B ≤ w0.heap.size) (hb : Below B w0 w)
    (h : ∀ v' w', Hid (Made w' B e v' (n + 1) f) → Below B w0 w' → Hid (∀ e' v2 n2 f2, e' ≠ e → Made w B e' v2 n2 f2 → Made w' B e' v2 n2 f2) → wpList P ops Q rest (a.put o.dst v') w') : wpList P ops Q (o :: rest) a w :=
  wpList_push hgd s x t ho ht hinfo hz hby hs hown g0 hx hc h1 hn (Nat.le_trans hB hb.size) fun v' w' h2 h3 _ =>
    h v' w' (Lib.hid h2) (below_grown hb hB hown h3) (Lib.hid fun _ _ _ _ hne hm => hm.grown h3 (hm.apart hown hne))

/-- append([]T{}, x...): a copy. -/
theorem wpList_copied {P : Program} {ops : Array Oper} {rest : List Oper} {o : Oper} {a : Act} {Q : Exit → Act → World → Prop} {w0 w : World} (hgd : o.guard = none) (s x : Operand) (t : TypeId)
    (ho : o.op = .call { callee := .builtin .append, args := #[s, x], argTypes := #[t, t] }) {e : TypeId} {z : Value} {size bytes : Nat} (ht : P.underlying t = some (.slice e))
    (hinfo : (P.info? e).map (fun i => (i.zero, i.size, i.bytes)) = some (some z, size, bytes)) (hz : z.cells.size = size) (hsz : 0 < size) (hby : bytes ≤ 1000)
    {B : Nat} {v : Value} (hs : a.eval s = v) (hown : w.ownsRow B e size v 0 []) {A : Option Addr} {N c : Nat} (hx : a.eval x = .slice A N c) (hA : A = none → N = 0 ∧ c = 0)
    (xs : List Value) (hl : xs.length = N * size) (hcells : ∀ ad, A = some ad → ∀ j u, xs[j]? = some u → w.cell? (ad.add j) = some u) (h1 : ∀ u ∈ xs, u.oneCell' = true)
    (hn : N ≤ 100000000) (hB : B ≤ w0.heap.size) (hb : Below B w0 w)
    (h : ∀ v' w', Hid (w'.ownsRow B e size v' N xs) → Below B w0 w' → Hid (w.grownBy w' v.ownBlock) → wpList P ops Q rest (a.put o.dst v') w') : wpList P ops Q (o :: rest) a w := by
  obtain ⟨i0, hi, hz0, hz1, hz2⟩ := info_parts hinfo
  cases A with
  | none =>
    obtain ⟨rfl, rfl⟩ := hA rfl
    obtain rfl : xs = [] := List.eq_nil_of_length_eq_zero (by omega)
    exact wpList_append_own_none hgd s x t ho B e i0 size ht hi v 0 [] hs hown hx (h v w (Lib.hid hown) hb (Lib.hid (World.grownBy.refl w _)))
  | some ad =>
    refine wpList_append_own_at w hgd s x t ho B e i0 z size bytes ht hi hz0 hz1 hz2 hz hsz v 0 [] hs hown ad N c xs hx hl (hcells ad rfl) h1 (by unfold maxLen; omega) ?_ (Nat.le_trans hB hb.size) ?_
    · have : (0 + N) * bytes ≤ 100000000 * 1000 := Nat.mul_le_mul (by omega) hby
      omega
    · intro v' w' h2 h3 _ _
      rw [Nat.zero_add] at h2
      exact h v' w' (Lib.hid h2) (hb.grown h3 (Nat.le_trans hB hb.size) (fun k hk => (World.ownsRow.lt hown k hk).1)) (Lib.hid h3)

/-- What an owned row of n elements looks like as a value, and where its cells lie. -/
theorem owns_form {w : World} {B : Nat} {e : TypeId} {size : Nat} {v : Value} {n : Nat} {xs : List Value} (h : w.ownsRow B e size v n xs) : ∃ A c, v = .slice A n c ∧ n ≤ c ∧ c ≤ 9223372036854775807 ∧ (A = none → n = 0 ∧ c = 0) ∧
    (0 < n → ∃ g, A = some ⟨g, 0, none⟩ ∧ B ≤ g ∧ ∀ j, j < n * size → w.cell? ⟨g, j, none⟩ = xs[j]?) := by
  rcases h.2 with ⟨rfl, rfl⟩ | ⟨g, cap, cur, rfl, hb, _, hn, hm, _⟩
  · exact ⟨none, 0, rfl, Nat.le_refl _, by omega, fun _ => ⟨rfl, rfl⟩, fun h => by omega⟩
  · exact ⟨_, cap, rfl, hn, by unfold maxLen at hm; omega, (fun h => by cases h), fun _ => ⟨g, rfl, hb, fun j hj => World.ownsRow.cellAt h j hj⟩⟩

/-- Two cells an element. -/
def pairs (N : Nat) (f g : Nat → Value) : List Value := (List.range N).flatMap fun i => [f i, g i]
theorem pairs_succ (N : Nat) (f g : Nat → Value) : pairs (N + 1) f g = pairs N f g ++ [f N, g N] := by simp [pairs, List.range_succ]
theorem pairs_length (N : Nat) (f g : Nat → Value) : (pairs N f g).length = N * 2 := by
  induction N with
  | zero => rfl
  | succ n ih => rw [pairs_succ, List.length_append, ih]; simp; omega
theorem pairs_at {N i : Nat} (f g : Nat → Value) (hi : i < N) : (pairs N f g)[i * 2]? = some (f i) ∧ (pairs N f g)[i * 2 + 1]? = some (g i) := by
  induction N with
  | zero => omega
  | succ n ih =>
    rw [pairs_succ]
    have hl := pairs_length n f g
    by_cases e : i = n
    · subst e
      rw [List.getElem?_append_right (by omega), List.getElem?_append_right (by omega), hl]
      exact ⟨by simp, by rw [show i * 2 + 1 - i * 2 = 1 by omega]; rfl⟩
    · have := ih (by omega)
      rw [List.getElem?_append_left (by omega), List.getElem?_append_left (by omega)]
      exact this
theorem pairs_get {N j : Nat} {f g : Nat → Value} {u : Value} (h : (pairs N f g)[j]? = some u) : ∃ i, i < N ∧ ((j = i * 2 ∧ u = f i) ∨ (j = i * 2 + 1 ∧ u = g i)) := by
  have hj : j < N * 2 := by rw [← pairs_length N f g]; exact (List.getElem?_eq_some_iff.1 h).1
  have hi : j / 2 < N := by omega
  have := pairs_at f g hi
  refine ⟨j / 2, hi, ?_⟩
  by_cases e : j % 2 = 0
  · left
    have ej : j = j / 2 * 2 := by omega
    rw [← ej] at this
    exact ⟨ej, Option.some.inj (h.symm.trans this.1)⟩
  · right
    have ej : j = j / 2 * 2 + 1 := by omega
    rw [← ej] at this
    exact ⟨ej, Option.some.inj (h.symm.trans this.2)⟩
end Go.Proofs.YtljdkjjjnlcflaaDoor
