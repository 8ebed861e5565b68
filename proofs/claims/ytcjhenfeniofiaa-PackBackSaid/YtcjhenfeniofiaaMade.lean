/- A list that a call makes by append, an element at a time: one cell an element. -/
import Derived.Maps.AppendAt
import Derived.Deep.AppendLies
import Derived.OwnWalk
import Derived.Test.YtcjhenfeniofiaaBase
namespace Go.Proofs.Ytcjhenfeniofiaa
open Go.RowKit

/-- v is a list of the call's own (from block B on): its n elements are f 0, f 1, .. -/
def Made (w : World) (B : Nat) (e : TypeId) (v : Value) (n : Nat) (f : Nat → Value) : Prop := w.ownsRow B e 1 v n ((List.range n).map f)

theorem Made.nil (w : World) (B : Nat) (e : TypeId) (f : Nat → Value) : Made w B e (.slice none 0 0) 0 f := World.ownsRow_nil w B e 1

theorem Made.form {w : World} {B : Nat} {e : TypeId} {v : Value} {n : Nat} {f : Nat → Value} (h : Made w B e v n f) : ∃ A c, v = .slice A n c ∧ n ≤ c ∧ c ≤ 9223372036854775807 ∧
    ∀ i, i < n → ∃ g, A = some ⟨g, 0, none⟩ ∧ B ≤ g ∧ w.cell? ⟨g, i, none⟩ = some (f i) := by
  rcases h.2 with ⟨rfl, rfl⟩ | ⟨g, cap, cur, rfl, hb, _, hn, hm, _⟩
  · exact ⟨none, 0, rfl, Nat.le_refl _, by omega, fun i hi => by omega⟩
  · refine ⟨_, cap, rfl, hn, by unfold maxLen at hm; omega, fun i hi => ⟨g, rfl, hb, ?_⟩⟩
    rw [World.ownsRow.cellAt h i (by omega)]
    simp [hi]

theorem Made.grown {w w' : World} {B : Nat} {e : TypeId} {v : Value} {n : Nat} {f : Nat → Value} {row : Option Nat} (h : Made w B e v n f) (hg : w.grownBy w' row) (hne : v.ownBlock = none ∨ v.ownBlock ≠ row) : Made w' B e v n f := World.ownsRow.kept h hg hne
theorem Made.alloc {w : World} {B : Nat} {e : TypeId} {v : Value} {n : Nat} {f : Nat → Value} (h : Made w B e v n f) (o : Obj) : Made (w.alloc o) B e v n f := World.ownsRow.alloc h o
theorem Made.below {w w' : World} {B : Nat} {e : TypeId} {v : Value} {n : Nat} {f : Nat → Value} (h : Made w B e v n f) (hb : Below w.heap.size w w') : Made w' B e v n f :=
  h.grown (row := none) ⟨hb.os, hb.tape, hb.output, hb.size, fun i hi _ => hb.block i hi⟩ (by cases e : v.ownBlock <;> simp)

/-- Lists of two element types are two blocks. -/
theorem Made.apart {w : World} {B B' : Nat} {e e' : TypeId} {v v' : Value} {n n' : Nat} {f f' : Nat → Value} (h : Made w B e v n f) (h' : Made w B' e' v' n' f') (hne : e ≠ e') : v.ownBlock = none ∨ v.ownBlock ≠ v'.ownBlock := by
  rcases h.2 with ⟨rfl, _⟩ | ⟨g, cap, cur, rfl, _, hg, _⟩
  · exact .inl rfl
  · refine .inr fun hh => ?_
    rcases h'.2 with ⟨rfl, _⟩ | ⟨g', cap', cur', rfl, _, hg', _⟩
    · simp [Value.ownBlock] at hh
    · have : g = g' := by simpa [Value.ownBlock] using hh
      subst this
      rw [hg] at hg'
      injection hg' with hg'
      injection hg' with _ ht
      exact hne ht

theorem below_grown {w w' : World} {B : Nat} {e : TypeId} {v : Value} {n : Nat} {f : Nat → Value} {w0 : World} (hb : Below B w0 w) (hB : B ≤ w0.heap.size) (h : Made w B e v n f) (hg : w.grownBy w' v.ownBlock) : Below B w0 w' :=
  hb.grown hg (Nat.le_trans hB hb.size) (fun k hk => (World.ownsRow.lt h k hk).1)

/-- append(s, x). -/
theorem wpList_push {P : Program} {ops : Array Oper} {rest : List Oper} {o : Oper} {a : Act} {Q : Exit → Act → World → Prop} {w : World} (hgd : o.guard = none) (s x : Operand) (t : TypeId)
    (ho : o.op = .call { callee := .builtin .append, args := #[s, x], argTypes := #[t, t] }) {e : TypeId} {z : Value} {bytes : Nat} (ht : P.underlying t = some (.slice e))
    (hinfo : (P.info? e).map (fun i => (i.zero, i.size, i.bytes)) = some (some z, 1, bytes)) (hz : z.cells.size = 1) (hby : bytes ≤ 1000)
    {B : Nat} {v : Value} {n : Nat} {f : Nat → Value} (hs : a.eval s = v) (hown : Made w B e v n f) (g0 : Nat) (hx : a.eval x = .slice (some ⟨g0, 0, none⟩) 1 1) (hc : w.cell? ⟨g0, 0, none⟩ = some (f n)) (h1 : (f n).oneCell' = true)
    (hn : n ≤ 100000000) (hB : B ≤ w.heap.size)
    (h : ∀ v' w', Made w' B e v' (n + 1) f → w.grownBy w' v.ownBlock → (v'.ownBlock = v.ownBlock ∨ v'.ownBlock = some w.heap.size) → wpList P ops Q rest (a.put o.dst v') w') : wpList P ops Q (o :: rest) a w := by
  obtain ⟨i0, hi, hz0, hz1, hz2⟩ := info_parts hinfo
  refine wpList_append_own_at w hgd s x t ho B e i0 z 1 bytes ht hi hz0 hz1 hz2 hz (by omega) v n _ hs hown ⟨g0, 0, none⟩ 1 1 [f n] hx rfl ?_ (by simpa using h1) (by unfold maxLen; omega) ?_ hB ?_
  · intro j u hj
    match j with
    | 0 => simp at hj; subst hj; simpa [Addr.add] using hc
    | j + 1 => simp at hj
  · have : (n + 1) * bytes ≤ 100000001 * 1000 := Nat.mul_le_mul (by omega) hby
    omega
  · intro v' w' h2 h3 _ h5
    refine h v' w' ?_ h3 h5
    unfold Made
    rw [List.range_succ, List.map_append]
    exact h2

/-- append(s, x), and what it leaves alone: all that lay below B, and lists of other element types. -/
theorem wpList_pushed {P : Program} {ops : Array Oper} {rest : List Oper} {o : Oper} {a : Act} {Q : Exit → Act → World → Prop} {w0 w : World} (hgd : o.guard = none) (s x : Operand) (t : TypeId)
    (ho : o.op = .call { callee := .builtin .append, args := #[s, x], argTypes := #[t, t] }) {e : TypeId} {z : Value} {bytes : Nat} (ht : P.underlying t = some (.slice e))
    (hinfo : (P.info? e).map (fun i => (i.zero, i.size, i.bytes)) = some (some z, 1, bytes)) (hz : z.cells.size = 1) (hby : bytes ≤ 1000)
    {B : Nat} {v : Value} {n : Nat} {f : Nat → Value} (hs : a.eval s = v) (hown : Made w B e v n f) (g0 : Nat) (hx : a.eval x = .slice (some ⟨g0, 0, none⟩) 1 1) (hc : w.cell? ⟨g0, 0, none⟩ = some (f n)) (h1 : (f n).oneCell' = true)
    (hn : n ≤ 100000000) (hB : B ≤ w0.heap.size) (hb : Below B w0 w)
    (h : ∀ v' w', Hid (Made w' B e v' (n + 1) f) → Below B w0 w' → Hid (∀ e' v2 n2 f2, e' ≠ e → Made w B e' v2 n2 f2 → Made w' B e' v2 n2 f2) → wpList P ops Q rest (a.put o.dst v') w') : wpList P ops Q (o :: rest) a w :=
  wpList_push hgd s x t ho ht hinfo hz hby hs hown g0 hx hc h1 hn (Nat.le_trans hB hb.size) fun v' w' h2 h3 _ =>
    h v' w' (Lib.hid h2) (below_grown hb hB hown h3) (Lib.hid fun _ _ _ _ hne hm => hm.grown h3 (hm.apart hown hne))
end Go.Proofs.Ytcjhenfeniofiaa
