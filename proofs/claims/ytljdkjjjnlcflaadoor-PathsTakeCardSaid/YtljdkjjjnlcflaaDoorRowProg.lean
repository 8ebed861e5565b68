/- What every layer with rows needs of its own program: what a call leaves that turns rows of its own, a row turned in its place. -/
import Derived.Test.YtljdkjjjnlcflaaDoorTbGen
import Derived.Test.YtljdkjjjnlcflaaDoorOpMath
namespace Go.Proofs.YtljdkjjjnlcflaaDoor
open Go.RowKit Go.Lib Tb Pt Opn

theorem MadeX.down {w : World} {B B' : Nat} {v : Value} {l : List R} (h : MadeX w B 24 2 rowL v l) (hB : B' ≤ B) : MadeX w B' 24 2 rowL v l := by
  refine ⟨h.1, ?_⟩
  rcases h.2 with h | ⟨g, cap, cur, h1, h2, h3⟩
  · exact .inl h
  · exact .inr ⟨g, cap, cur, h1, Nat.le_trans hB h2, h3⟩

theorem third_new (w : World) (a b c : Obj) : (((w.alloc a).alloc b).alloc c).heap[w.heap.size + 1 + 1]? = some c := by simpa using heap_alloc_new ((w.alloc a).alloc b) c
theorem sl_nil (W : World) : (binOp .eql 25 (.slice none 0 0) (.slice none 0 0)).run Tryd.prog W = .ok (.bool true) W := by kernel_rfl
theorem sl_some (a : Addr) (n d : Nat) (W : World) : (binOp .eql 25 (.slice (some a) n d) (.slice none 0 0)).run Tryd.prog W = .ok (.bool false) W := by kernel_rfl

/-- The rows, the code, the word of a call that turns rows of its own. -/
def Own4 (s : List R × Int × Int) (B : Nat) (w : World) (v : Value) (e : Ending) (w' : World) : Prop := ∃ u, e = .returned (.tuple #[u, resv s.2.1 s.2.2 none 0 0]) ∧ MadeX w' B 24 2 rowL u s.1 ∧ w.grownBy w' v.ownBlock
/-- What Do leaves: rows in memory of its own. -/
def Did4 (s : List R × Int × Int) (err : Int) (w : World) (e : Ending) (w' : World) : Prop := ∃ u, e = .returned (.tuple #[u, resv s.2.1 s.2.2 none 0 0, .int .i64 err]) ∧ MadeX w' w.heap.size 24 2 rowL u s.1 ∧ Below w.heap.size w w'
theorem own_ne {g b n d : Nat} (h : b ≠ g) : some b ≠ (Value.slice (some ⟨g, 0, none⟩) n d).ownBlock := fun e => h (by simpa [Value.ownBlock] using e)
theorem own_apart (u : Value) : u.ownBlock = none ∨ u.ownBlock ≠ (Value.slice none 0 0).ownBlock := by
  cases h : u.ownBlock with
  | none => exact .inl rfl
  | some b => exact .inr (by simp [Value.ownBlock])
/-- A row whose value is turned in its place. -/
theorem made_turned1 {w : World} {B g cap : Nat} {l1 l2 : List R} {k u v : Nat} {n : Nat} (hn : (l1 ++ (k, u) :: l2).length = n) (h : MadeX w B 24 2 rowL (.slice (some ⟨g, 0, none⟩) n cap) (l1 ++ (k, u) :: l2)) :
    MadeX (w.setCell ⟨g, l1.length * 2 + 1, none⟩ (.int .u64 (v : Nat))) B 24 2 rowL (.slice (some ⟨g, 0, none⟩) n cap) (l1 ++ (k, v) :: l2) := by
  rcases made_cells h with ⟨h, _⟩ | ⟨g', cap', rest, e, hB, hg, hc, hcm, hr⟩
  · cases h
  · injection e with e1 _ e3
    injection e1 with e1
    injection e1 with e1 _ _
    subst e1 e3
    have e1 : flatL rowL (l1 ++ (k, u) :: l2) = flatL rowL l1 ++ (rowL (k, u) ++ flatL rowL l2) := by rw [flatL_append]; simp [flatL]
    have e2 : flatL rowL (l1 ++ (k, v) :: l2) = flatL rowL l1 ++ (rowL (k, v) ++ flatL rowL l2) := by rw [flatL_append]; simp [flatL]
    have hz := flatR l1
    obtain ⟨F1, hF1⟩ : ∃ F, flatL rowL l1 = F := ⟨_, rfl⟩
    obtain ⟨F2, hF2⟩ : ∃ F, flatL rowL l2 = F := ⟨_, rfl⟩
    rw [e1, hF1, hF2] at hg
    rw [hF1] at hz
    have hg' : w.heap[g]? = some (.cells (F1 ++ Value.int .u64 (k : Nat) :: Value.int .u64 (u : Nat) :: (F2 ++ rest)).toArray 24 (0, 0)) := by rw [hg]; simp [rowL]
    have s2 := setCell_eq_setRow _ g (l1.length * 2 + 1) _ _ (0, 0) (.int .u64 (v : Nat)) hg'
    have a2 : (F1 ++ Value.int .u64 (k : Nat) :: Value.int .u64 (u : Nat) :: (F2 ++ rest)).toArray.setIfInBounds (l1.length * 2 + 1) (.int .u64 (v : Nat)) = (F1 ++ Value.int .u64 (k : Nat) :: Value.int .u64 (v : Nat) :: (F2 ++ rest)).toArray := by
      rw [← hz]; simp
    rw [a2] at s2
    rw [s2]
    have el : (l1 ++ (k, v) :: l2).length = n := by rw [← hn]; simp
    have := made_of (B := B) (l := l1 ++ (k, v) :: l2) (rest := rest) (cap := cap) hB (by rw [setRow_heap _ g _ (F1 ++ Value.int .u64 (k : Nat) :: Value.int .u64 (v : Nat) :: (F2 ++ rest)).toArray _ _ hg', e2, hF1, hF2]; simp [rowL]) (by omega) hcm (by rw [hr]; congr 1; omega)
    rw [el] at this
    exact this
/-- What lay in W, but for the block g, lies so in X. -/
def KeepN (W X : World) (g : Nat) : Prop := W.heap.size ≤ X.heap.size ∧ ∀ b, b < W.heap.size → b ≠ g → X.heap[b]? = W.heap[b]?
theorem KeepN.refl (W : World) (g : Nat) : KeepN W W g := ⟨Nat.le_refl _, fun _ _ _ => rfl⟩
theorem KeepN.drew (W : World) (g : Nat) : KeepN W W.drew g := ⟨Nat.le_refl _, fun _ _ _ => rfl⟩
theorem KeepN.below {W X Y : World} {g : Nat} (h : KeepN W X g) (hb : Below X.heap.size X Y) : KeepN W Y g :=
  ⟨Nat.le_trans h.1 hb.size, fun b hB hne => (hb.block b (Nat.lt_of_lt_of_le hB h.1)).trans (h.2 b hB hne)⟩
theorem KeepN.grown {W X Y : World} {g : Nat} (h : KeepN W X g) (hb : X.grownBy Y (some g)) : KeepN W Y g :=
  ⟨Nat.le_trans h.1 hb.size, fun b hB hne => (hb.block b (Nat.lt_of_lt_of_le hB h.1) (fun e => hne (by injection e))).trans (h.2 b hB hne)⟩
theorem KeepN.cells {W X : World} {g : Nat} (h : KeepN W X g) : W.heap.size ≤ X.heap.size ∧ (∀ b j, b < W.heap.size → b ≠ g → X.cell? ⟨b, j, none⟩ = W.cell? ⟨b, j, none⟩) ∧ ∀ b j, b < W.heap.size → b ≠ g → X.frozen? ⟨b, j, none⟩ = W.frozen? ⟨b, j, none⟩ :=
  ⟨h.1, fun b _ hB hne => World.cell?_of_block (h.2 b hB hne), fun b _ hB hne => World.frozen?_of_block (h.2 b hB hne)⟩
theorem three_a {W w3 w4 : World} {a b c : Value} {t : TypeId} (h3 : Below (W.alloc (.cells #[a, b, c] t)).drew.heap.size (W.alloc (.cells #[a, b, c] t)).drew w3) (h4 : Below w3.heap.size w3 w4) : Three w4 W.heap.size a b c :=
  res_cells ((h4.block _ (by have := h3.size; simp at this; omega)).trans ((h3.block W.heap.size (by simp)).trans (heap_alloc_new W _)))
theorem three_b {w3 w4 : World} {a b c : Value} {t : TypeId} (h4 : Below (w3.alloc (.cells #[a, b, c] t)).heap.size (w3.alloc (.cells #[a, b, c] t)) w4) : Three w4 w3.heap.size a b c :=
  res_cells ((h4.block _ (by simp)).trans (heap_alloc_new w3 _))
/-- What came first: the result's block was made ahead of the call. -/
theorem three_d {W w4 : World} {a b c : Value} {t : TypeId} (h4 : Below (W.alloc (.cells #[a, b, c] t)).drew.heap.size (W.alloc (.cells #[a, b, c] t)).drew w4) : Three w4 W.heap.size a b c :=
  res_cells ((h4.block _ (by simp)).trans (heap_alloc_new W _))
theorem isr_lit (w : World) (xs : Array Value) (l : List R) (n : Nat) (hn : l.length = n) (hx : xs.toList = flatL rowL l) (hl : n ≤ 1000) : IsR (w.alloc (.cells xs 24)) (some ⟨w.heap.size, 0, none⟩) l := by
  subst hn
  have hs : xs.size = l.length * 2 := by rw [← Array.length_toList, hx, flatR]
  have h := World.ownsRow_lit (e := 24) (base := w.heap.size) (size := 2) w xs l.length (Nat.le_refl _) (by unfold maxLen; omega) hs
  rw [hx] at h
  obtain ⟨A, c, e, _, _, h2⟩ := MadeX.form rowL_len (show MadeX _ _ _ 2 rowL _ l from h)
  injection e with e _ _
  rw [e]; exact h2
theorem isr_take {w : World} {A : Option Addr} {l : List R} (h : IsR w A l) (n : Nat) : IsR w A (l.take n) := fun i x hx => by
  rw [List.getElem?_take] at hx
  split at hx
  · exact h i x hx
  · cases hx
/-- Rows from a place on. -/
theorem isr_drop {w : World} {A : Option Addr} {l : List R} (h : IsR w A l) (p : Nat) : IsR w (A.map fun x => x.add (p * 2)) (l.drop p) := fun i x hx => by
  rw [List.getElem?_drop] at hx
  obtain ⟨b, off, rfl, h1⟩ := h _ x hx
  refine ⟨b, off + p * 2, by rw [Option.map_some, addrAdd], fun j u hj => ?_⟩
  rw [show off + p * 2 + i * 2 + j = off + (p + i) * 2 + j by omega]
  exact h1 j u hj
theorem cell_of {w : World} {g : Nat} {xs : Array Value} {t : TypeId} (h : w.heap[g]? = some (.cells xs t (0, 0))) (j : Nat) {v : Value} (hv : xs[j]? = some v) : w.cell? ⟨g, j, none⟩ = some v := by
  simp only [World.cell?, h]
  exact hv
theorem cell_below {w w' : World} {g : Nat} {o : Obj} (h : w.heap[g]? = some o) (hb : Below w.heap.size w w') : w'.heap[g]? = some o := (hb.block _ (Array.getElem?_eq_some_iff.1 h).1).trans h
end Go.Proofs.YtljdkjjjnlcflaaDoor
