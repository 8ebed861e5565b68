/- Rows of a call's own, element by element: what a copy makes, and what a store into one leaves. -/
import Derived.Test.YtmnlfhpkfgfpoaaDoorCeMath
import Derived.Test.YtmnlfhpkfgfpoaaDoorMade
import Derived.Test.YtmnlfhpkfgfpoaaDoorRange
import Derived.Deep.OwnRows
namespace Go.Proofs.YtmnlfhpkfgfpoaaDoor.Ce
open Go.RowKit

def flat (n : Nat) (f : Nat → List Value) : List Value := (List.range n).flatMap f
theorem flat_succ (n : Nat) (f : Nat → List Value) : flat (n + 1) f = flat n f ++ f n := by simp [flat, List.range_succ]
theorem flat_length {s : Nat} {f : Nat → List Value} (hf : ∀ i, (f i).length = s) (n : Nat) : (flat n f).length = n * s := by
  induction n with
  | zero => simp [flat]
  | succ n ih => rw [flat_succ, List.length_append, ih, hf, Nat.succ_mul]
theorem flat_at {s : Nat} {f : Nat → List Value} (hf : ∀ i, (f i).length = s) {n i j : Nat} (hi : i < n) (hj : j < s) : (flat n f)[i * s + j]? = (f i)[j]? := by
  induction n with
  | zero => omega
  | succ n ih =>
    rw [flat_succ]
    have hl := flat_length hf n
    by_cases e : i = n
    · subst e
      rw [List.getElem?_append_right (by omega), hl, show i * s + j - i * s = j by omega]
    · have h2 : i * s + j < n * s := by
        have : (i + 1) * s ≤ n * s := Nat.mul_le_mul (by omega) (Nat.le_refl _)
        rw [Nat.succ_mul] at this; omega
      rw [List.getElem?_append_left (by omega)]
      exact ih (by omega)
theorem flat_get {s : Nat} {f : Nat → List Value} (hf : ∀ i, (f i).length = s) (hs : 0 < s) {n j : Nat} {u : Value} (h : (flat n f)[j]? = some u) : ∃ i k, i < n ∧ k < s ∧ j = i * s + k ∧ (f i)[k]? = some u := by
  have hj : j < n * s := by rw [← flat_length hf n]; exact (List.getElem?_eq_some_iff.1 h).1
  have hi : j / s < n := Nat.div_lt_of_lt_mul (by rw [Nat.mul_comm]; exact hj)
  have hk : j % s < s := Nat.mod_lt _ hs
  have e : j = j / s * s + j % s := by rw [Nat.mul_comm]; exact (Nat.div_add_mod j s).symm
  refine ⟨j / s, j % s, hi, hk, e, ?_⟩
  rw [← flat_at hf hi hk, ← e]; exact h

def l4 (x : C4) : List Value := [.int .u64 x.t, .int .u64 x.a, .int .u64 x.b, .int .u64 x.c]
def l10 (a : Acc) : List Value := [.int .u8 a.k, .int .i64 a.i, .int .u64 a.o.t, .int .u64 a.o.a, .int .u64 a.o.b, .int .u64 a.o.c, .int .u64 a.n.t, .int .u64 a.n.a, .int .u64 a.n.b, .int .u64 a.n.c]
def l5 (x : C4) (d : Bool) : List Value := [.int .u64 x.t, .int .u64 x.a, .int .u64 x.b, .int .u64 x.c, .bool d]

theorem l4_len (n : Nat) (cf : Nat → C4) : (flat n fun i => l4 (cf i)).length = n * 4 := flat_length (s := 4) (fun _ => rfl) n
theorem l10_len (n : Nat) (af : Nat → Acc) : (flat n fun i => l10 (af i)).length = n * 10 := flat_length (s := 10) (fun _ => rfl) n

/-- What a row's cells hold from o on. -/
def HasL (F : Nat → Value) (o : Nat) (l : List Value) : Prop := ∀ (j : Nat) (u : Value), l[j]? = some u → F (o + j) = u

/-- A row of the call's own, of n elements of s cells each, at A. -/
def Own (w : World) (B : Nat) (e : TypeId) (s : Nat) (A : Option Addr) (n c : Nat) (f : Nat → List Value) : Prop :=
  n ≤ c ∧ c ≤ 9223372036854775807 ∧ (0 < n → ∃ g, A = some ⟨g, 0, none⟩ ∧ B ≤ g ∧ ∃ m F, w.rowIs g e m F ∧ n * s ≤ m ∧ ∀ i, i < n → HasL F (i * s) (f i))

theorem row_of_owns {w : World} {B : Nat} {e : TypeId} {s g n c : Nat} {xs : List Value} (h : w.ownsRow B e s (.slice (some ⟨g, 0, none⟩) n c) n xs) : B ≤ g ∧ ∃ m F, w.rowIs g e m F ∧ n * s ≤ m ∧ ∀ (j : Nat) (u : Value), xs[j]? = some u → F j = u := by
  rcases h.2 with ⟨h', _⟩ | ⟨g', cap', cur, h', hb, hg, hn, _, hsz, htake⟩
  · simp at h'
  · simp only [Value.slice.injEq, Option.some.injEq, Addr.mk.injEq, and_true, true_and] at h'
    obtain ⟨rfl, rfl⟩ := h'
    refine ⟨hb, cur.size, fun i => cur[i]?.getD (.bool false), ⟨cur, hg, rfl, fun i hi => by simp [hi]⟩, by rw [hsz]; exact Nat.mul_le_mul hn (Nat.le_refl _), fun j u hu => ?_⟩
    rw [← htake, List.getElem?_take] at hu
    split at hu
    · rw [Array.getElem?_toList] at hu; simp [hu]
    · cases hu

theorem Own.of {w : World} {B : Nat} {e : TypeId} {s n c : Nat} {A : Option Addr} {f : Nat → List Value} (hf : ∀ i, (f i).length = s) (h : w.ownsRow B e s (.slice A n c) n (flat n f)) : Own w B e s A n c f := by
  obtain ⟨A', c', hv, h1, h2, _, h3⟩ := owns_form h
  injection hv with e1 _ e3
  subst e1 e3
  refine ⟨h1, h2, fun hn => ?_⟩
  obtain ⟨g, rfl, _, _⟩ := h3 hn
  obtain ⟨hb, m, F, hr, hm, hF⟩ := row_of_owns h
  refine ⟨g, rfl, hb, m, F, hr, hm, fun i hi j u hu => ?_⟩
  have hj : j < s := by rw [← hf i]; exact (List.getElem?_eq_some_iff.1 hu).1
  exact hF _ _ ((flat_at hf hi hj).trans hu)
theorem Own.same {w w' : World} {B : Nat} {e : TypeId} {s n c : Nat} {A : Option Addr} {f : Nat → List Value} (h : Own w B e s A n c f) (hs : ∀ k, k < w.heap.size → w'.heap[k]? = w.heap[k]?) : Own w' B e s A n c f := by
  refine ⟨h.1, h.2.1, fun hn => ?_⟩
  obtain ⟨g, e, hb, m, F, hr, hm, hF⟩ := h.2.2 hn
  exact ⟨g, e, hb, m, F, hr.of_block (hs g hr.lt), hm, hF⟩
theorem Own.mono {w : World} {B B' : Nat} {e : TypeId} {s n c : Nat} {A : Option Addr} {f : Nat → List Value} (h : Own w B e s A n c f) (hB : B' ≤ B) : Own w B' e s A n c f := by
  refine ⟨h.1, h.2.1, fun hn => ?_⟩
  obtain ⟨g, e, hb, r⟩ := h.2.2 hn
  exact ⟨g, e, Nat.le_trans hB hb, r⟩

theorem at4_of {w : World} {g m : Nat} {e : TypeId} {F : Nat → Value} {o : Nat} {x : C4} (hr : w.rowIs g e m F) (ho : o + 4 ≤ m) (h : HasL F o (l4 x)) : At4 w g o x :=
  ⟨by rw [hr.cell (by omega)]; exact congrArg some (h 0 _ rfl), by rw [hr.cell (by omega)]; exact congrArg some (h 1 _ rfl), by rw [hr.cell (by omega)]; exact congrArg some (h 2 _ rfl), by rw [hr.cell (by omega)]; exact congrArg some (h 3 _ rfl)⟩
theorem at5_of {w : World} {g m : Nat} {e : TypeId} {F : Nat → Value} {o : Nat} {x : C4} {d : Bool} (hr : w.rowIs g e m F) (ho : o + 5 ≤ m) (h : HasL F o (l5 x d)) : At5 w g o x d :=
  ⟨at4_of hr (by omega) (fun j u hu => h j u (by
    match j, hu with
    | 0, hu => exact hu
    | 1, hu => exact hu
    | 2, hu => exact hu
    | 3, hu => exact hu)), by rw [hr.cell (by omega)]; exact congrArg some (h 4 _ rfl)⟩
theorem at10_of {w : World} {g m : Nat} {e : TypeId} {F : Nat → Value} {o : Nat} {a : Acc} (hr : w.rowIs g e m F) (ho : o + 10 ≤ m) (h : HasL F o (l10 a)) : At10 w g o a := by
  have c : ∀ j u, (l10 a)[j]? = some u → w.cell? ⟨g, o + j, none⟩ = some u := fun j u hu => by
    have : j < 10 := (List.getElem?_eq_some_iff.1 hu).1
    rw [hr.cell (by omega)]; exact congrArg some (h j u hu)
  exact ⟨c 0 _ rfl, c 1 _ rfl, ⟨c 2 _ rfl, c 3 _ rfl, c 4 _ rfl, c 5 _ rfl⟩, ⟨c 6 _ rfl, c 7 _ rfl, c 8 _ rfl, c 9 _ rfl⟩⟩

theorem Own.cells {w : World} {B : Nat} {e : TypeId} {n c : Nat} {A : Option Addr} {cf : Nat → C4} (h : Own w B e 4 A n c (fun i => l4 (cf i))) : IsCells w A n cf := fun i hi => by
  obtain ⟨g, e, _, m, F, hr, hm, hF⟩ := h.2.2 (by omega)
  exact ⟨g, 0, e, by rw [Nat.zero_add]; exact at4_of hr (by omega) (hF i hi)⟩
theorem Own.seen {w : World} {B : Nat} {e : TypeId} {n c : Nat} {A : Option Addr} {cf : Nat → C4} {df : Nat → Bool} (h : Own w B e 5 A n c (fun i => l5 (cf i) (df i))) : IsSeen w A n cf df := fun i hi => by
  obtain ⟨g, e, _, m, F, hr, hm, hF⟩ := h.2.2 (by omega)
  exact ⟨g, 0, e, by rw [Nat.zero_add]; exact at5_of hr (by omega) (hF i hi)⟩
theorem Own.accs {w : World} {B : Nat} {e : TypeId} {n c : Nat} {A : Option Addr} {af : Nat → Acc} (h : Own w B e 10 A n c (fun i => l10 (af i))) : IsAccs w A n af := fun i hi => by
  obtain ⟨g, e, _, m, F, hr, hm, hF⟩ := h.2.2 (by omega)
  exact ⟨g, 0, e, by rw [Nat.zero_add]; exact at10_of hr (by omega) (hF i hi)⟩

/-- The cells of a row that came in, as a list. -/
theorem cells_list {w : World} {A : Option Addr} {n : Nat} {cf : Nat → C4} (h : IsCells w A n cf) (ad : Addr) (hA : A = some ad) (j : Nat) (u : Value) (hj : (flat n fun i => l4 (cf i))[j]? = some u) : w.cell? (ad.add j) = some u := by
  obtain ⟨i, k, hi, hk, rfl, hu⟩ := flat_get (s := 4) (fun _ => rfl) (by omega) hj
  obtain ⟨b, off, e, h0, h1, h2, h3⟩ := h i hi
  obtain rfl : ad = ⟨b, off, none⟩ := Option.some.inj (hA.symm.trans e)
  rw [show (⟨b, off, none⟩ : Addr).add (i * 4 + k) = ⟨b, off + (i * 4 + k), none⟩ by unfold Addr.add; split <;> simp_all, ← Nat.add_assoc]
  match k, hk, hu with
  | 0, _, hu => exact h0.trans hu
  | 1, _, hu => exact h1.trans hu
  | 2, _, hu => exact h2.trans hu
  | 3, _, hu => exact h3.trans hu
theorem accs_list {w : World} {A : Option Addr} {n : Nat} {af : Nat → Acc} (h : IsAccs w A n af) (ad : Addr) (hA : A = some ad) (j : Nat) (u : Value) (hj : (flat n fun i => l10 (af i))[j]? = some u) : w.cell? (ad.add j) = some u := by
  obtain ⟨i, k, hi, hk, rfl, hu⟩ := flat_get (s := 10) (fun _ => rfl) (by omega) hj
  obtain ⟨b, off, e, h0, h1, ⟨h2, h3, h4, h5⟩, ⟨h6, h7, h8, h9⟩⟩ := h i hi
  obtain rfl : ad = ⟨b, off, none⟩ := Option.some.inj (hA.symm.trans e)
  rw [show (⟨b, off, none⟩ : Addr).add (i * 10 + k) = ⟨b, off + (i * 10 + k), none⟩ by unfold Addr.add; split <;> simp_all, ← Nat.add_assoc]
  match k, hk, hu with
  | 0, _, hu => exact h0.trans hu
  | 1, _, hu => exact h1.trans hu
  | 2, _, hu => exact h2.trans hu
  | 3, _, hu => exact h3.trans hu
  | 4, _, hu => exact h4.trans hu
  | 5, _, hu => exact h5.trans hu
  | 6, _, hu => exact h6.trans hu
  | 7, _, hu => exact h7.trans hu
  | 8, _, hu => exact h8.trans hu
  | 9, _, hu => exact h9.trans hu
theorem l4_one {n : Nat} {cf : Nat → C4} (u : Value) (h : u ∈ flat n fun i => l4 (cf i)) : u.oneCell' = true := by
  obtain ⟨i, _, hu⟩ := List.mem_flatMap.1 h
  simp only [l4, List.mem_cons, List.not_mem_nil, or_false] at hu
  rcases hu with rfl | rfl | rfl | rfl <;> rfl
theorem l10_one {n : Nat} {af : Nat → Acc} (u : Value) (h : u ∈ flat n fun i => l10 (af i)) : u.oneCell' = true := by
  obtain ⟨i, _, hu⟩ := List.mem_flatMap.1 h
  simp only [l10, List.mem_cons, List.not_mem_nil, or_false] at hu
  rcases hu with rfl | rfl | rfl | rfl | rfl | rfl | rfl | rfl | rfl | rfl <;> rfl

/-- A memory: gm is its own block, gr that of its row. -/
def Mem (w : World) (gm gr : Nat) (A : Option Addr) (n c : Nat) (cf : Nat → C4) : Prop :=
  w.cell? ⟨gm, 0, none⟩ = some (.slice A n c) ∧ gm ≠ gr ∧ n ≤ c ∧ c ≤ 9223372036854775807 ∧ (0 < n → A = some ⟨gr, 0, none⟩ ∧ ∃ m F, w.rowIs gr 51 m F ∧ n * 4 ≤ m ∧ ∀ i, i < n → HasL F (i * 4) (l4 (cf i)))
theorem Mem.same {w w' : World} {gm gr : Nat} {A : Option Addr} {n c : Nat} {cf : Nat → C4} (h : Mem w gm gr A n c cf) (hs : ∀ k, k < w.heap.size → w'.heap[k]? = w.heap[k]?) : Mem w' gm gr A n c cf := by
  obtain ⟨h0, h1, h2, h3, h4⟩ := h
  refine ⟨(World.cell?_of_block (w := w) (hs gm (World.block_lt_of_cell? _ _ h0))).trans h0, h1, h2, h3, fun hn => ?_⟩
  obtain ⟨e, m, F, hr, hm, hF⟩ := h4 hn
  exact ⟨e, m, F, hr.of_block (hs gr hr.lt), hm, hF⟩
theorem Mem.cells {w : World} {gm gr : Nat} {A : Option Addr} {n c : Nat} {cf : Nat → C4} (h : Mem w gm gr A n c cf) : IsCells w A n cf := fun i hi => by
  obtain ⟨e, m, F, hr, hm, hF⟩ := h.2.2.2.2 (by omega)
  exact ⟨gr, 0, e, by rw [Nat.zero_add]; exact at4_of hr (by omega) (hF i hi)⟩

/-- Four cells of a row are laid anew. -/
theorem set4 {w : World} {g m : Nat} {e : TypeId} {F : Nat → Value} (hr : w.rowIs g e m F) (i : Nat) (x : C4) :
    ∃ G, ((((w.setCell ⟨g, i * 4, none⟩ (.int .u64 x.t)).setCell ⟨g, i * 4 + 1, none⟩ (.int .u64 x.a)).setCell ⟨g, i * 4 + 2, none⟩ (.int .u64 x.b)).setCell ⟨g, i * 4 + 3, none⟩ (.int .u64 x.c)).rowIs g e m G ∧
      HasL G (i * 4) (l4 x) ∧ ∀ k l, k ≠ i → HasL F (k * 4) l → l.length = 4 → HasL G (k * 4) l := by
  refine ⟨_, (((hr.set _ _).set _ _).set _ _).set _ _, fun j u hu => ?_, fun k l hk hF hl j u hu => ?_⟩
  · match j, hu with
    | 0, hu => simpa [l4] using hu
    | 1, hu => simpa [l4] using hu
    | 2, hu => simpa [l4] using hu
    | 3, hu => simpa [l4] using hu
  · have hj : j < 4 := by rw [← hl]; exact (List.getElem?_eq_some_iff.1 hu).1
    have := hF j u hu
    simp only
    rw [if_neg (by omega), if_neg (by omega), if_neg (by omega), if_neg (by omega)]
    exact this
end Go.Proofs.YtmnlfhpkfgfpoaaDoor.Ce
