/- Rows, for every layer that keeps them: the document's own answers (two answers that are the same, a word, a row put in), what a value is in a world, what stays. -/
import Derived.Test.YtljdkjjjnlcflaaDoorTbMake
import Derived.Test.YtljdkjjjnlcflaaDoorPtMath
import Derived.Test.YtljdkjjjnlcflaaDoorOpMath
namespace Go.Proofs.YtljdkjjjnlcflaaDoor
open Go.RowKit Tb Pt Opn

/-- An answer, with rows at A. -/
def resv (e v : Int) (A : Option Addr) (n c : Nat) : Value := .agg #[.int .i64 e, .int .u32 v, .slice A n c]

set_option maxHeartbeats 1000000 in
theorem rSameRes_any (e v e' v' : Int) (A B : Option Addr) (l m : List R) (c d : Nat) (hl : l.length ≤ 9223372036854775807) (w : World) (h : IsR w A l) (g : IsR w B m) :
    Calls Tryd.prog 16 #[resv e v A l.length c, resv e' v' B m.length d] w (Ret (.bool (decide (e = e' ∧ v = v' ∧ l = m))) w) := by
  have HS := Lib.hid (fun W hA hB => rSameRows_any A B l m c d hl W hA hB)
  have HA := Lib.hid h
  have HB := Lib.hid g
  clear h g hl
  obtain ⟨z, hz⟩ : ∃ z, decide (l = m) = z := ⟨_, rfl⟩
  rw [hz] at HS
  have HZ := Lib.hid hz
  clear hz
  unfold resv
  go_enter Tryd.func16, Tryd.ntmps16
  go_wp2_with (go_at_call 12; refine (HS.out _ (HA.out.below (below_two _ _ _)) (HB.out.below (below_two _ _ _))).mono ?_; rintro e w1 ⟨rfl, hb1⟩)
  all_goals go_ret
  all_goals refine Ret.mk (bool_eq ?_) (by first | exact below_then (below_two _ _ _) hb1 | exact below_two _ _ _)
  all_goals (have hZ := HZ.out; (first | clear HS HA HB HZ hb1 | clear HS HA HB HZ); rw [Bool.eq_iff_iff]; grind)

theorem rWith_up (A : Option Addr) (l : List R) (c : Nat) (hl : l.length ≤ 1000000) (hu : Up l) (k v : Nat) (w : World) (h : IsR w A l) :
    Calls Tryd.prog 55 #[.slice A l.length c, .int .u64 k, .int .u64 v] w (RetR (put l k v) w) := by
  have := rWith_any A l c hl k v w h
  rw [steps_out k v l [] hu, List.nil_append] at this
  exact this

theorem fnd_get (l : List R) (k : Nat) : (fnd l k = -1 ∧ Tb.get l k = none) ∨ ∃ i, ∃ h : i < l.length, fnd l k = (i : Nat) ∧ l[i].1 = k ∧ Tb.get l k = some l[i].2 := by
  unfold fnd Tb.get
  cases e : l.findIdx? (fun x => x.1 == k) with
  | none =>
    rw [List.findIdx?_eq_none_iff] at e
    refine .inl ⟨rfl, ?_⟩
    rw [Option.map_eq_none_iff, List.find?_eq_none]
    intro x hx; have := e x hx; simpa using this
  | some i =>
    rw [List.findIdx?_eq_some_iff_getElem] at e
    obtain ⟨hi, h1, h2⟩ := e
    refine .inr ⟨i, hi, rfl, by simpa using h1, ?_⟩
    have : l.find? (fun x => x.1 == k) = some l[i] := by
      rw [List.find?_eq_some_iff_getElem]
      exact ⟨h1, i, hi, rfl, fun j hj => by have := h2 j hj; simpa using this⟩
    rw [this]; rfl

/-- Rows that a value is, in a world. -/
def IsRV (w : World) (v : Value) (l : List R) : Prop := ∃ A c, v = .slice A l.length c ∧ (l.length ≤ c ∧ c ≤ 9223372036854775807) ∧ (A = none → l.length = 0 ∧ c = 0) ∧ IsR w A l
theorem IsRV.of {w : World} {B : Nat} {v : Value} {l : List R} (h : MadeX w B 24 2 rowL v l) : IsRV w v l := MadeX.form rowL_len h
theorem IsRV.below {w w' : World} {v : Value} {l : List R} (h : IsRV w v l) (hb : Below w.heap.size w w') : IsRV w' v l := by
  obtain ⟨A, c, e, h1, h2, h3⟩ := h
  exact ⟨A, c, e, h1, h2, h3.below hb⟩

theorem IsL.keep {X : Type} {W w' : World} {A : Option Addr} {s : Nat} {L : X → List Value} {l : List X} (h : IsL W A s L l) (k : W.heap.size ≤ w'.heap.size ∧ ∀ b o, b < W.heap.size → w'.cell? ⟨b, o, none⟩ = W.cell? ⟨b, o, none⟩) : IsL w' A s L l := fun i x hx => by
  obtain ⟨b, off, e, h1⟩ := h i x hx
  exact ⟨b, off, e, fun j u hu => (k.2 _ _ (World.block_lt_of_cell? _ _ (h1 j u hu))).trans (h1 j u hu)⟩

theorem fkeep0 (W : World) : W.heap.size ≤ W.drew.heap.size ∧ ∀ b j, b < W.heap.size → W.drew.frozen? ⟨b, j, none⟩ = W.frozen? ⟨b, j, none⟩ := ⟨Nat.le_refl _, fun _ _ _ => rfl⟩
theorem fkeep_below {W X w3 : World} (hb : Below X.heap.size X w3) (h : W.heap.size ≤ X.heap.size ∧ ∀ b j, b < W.heap.size → X.frozen? ⟨b, j, none⟩ = W.frozen? ⟨b, j, none⟩) : W.heap.size ≤ w3.heap.size ∧ ∀ b j, b < W.heap.size → w3.frozen? ⟨b, j, none⟩ = W.frozen? ⟨b, j, none⟩ :=
  ⟨Nat.le_trans h.1 hb.size, fun b j hj => (hb.frozen (p := ⟨b, j, none⟩) (Nat.lt_of_lt_of_le hj h.1)).trans (h.2 b j hj)⟩

theorem IsRV.turned {w5 w4 : World} {B t : Nat} {u : Value} {l : List R} (h : MadeX w5 B 24 2 rowL u l) (hb : Below w5.heap.size w5 w4) (ht : t < B) (a b c : Value) : IsRV (((w4.setCell ⟨t, 0, none⟩ a).setCell ⟨t, 1, none⟩ b).setCell ⟨t, 2, none⟩ c) u l := by
  obtain ⟨A, d, rfl, h1, h2, h3, h4⟩ := owns_form h
  have h5 := MadeX.form rowL_len h
  obtain ⟨A', d', e, _, _, h6⟩ := h5
  injection e with e1 _ e3
  subst e1 e3
  refine ⟨A, d, rfl, ⟨h1, h2⟩, h3, fun i x hx => ?_⟩
  have hi : i < l.length := (List.getElem?_eq_some_iff.1 hx).1
  obtain ⟨g, rfl, hg, _⟩ := h4 (by omega)
  obtain ⟨b', off, e1, h7⟩ := h6 i x hx
  injection e1 with e1
  injection e1 with e1 e2 _
  subst e1 e2
  refine ⟨g, 0, rfl, fun j v hv => ?_⟩
  have h8 := h7 j v hv
  have h9 := (hb.cell (World.block_lt_of_cell? _ _ h8)).trans h8
  have ne : g ≠ t := by omega
  have k : ∀ (X : World) (o : Nat) (y : Value), (X.setCell ⟨t, o, none⟩ y).cell? ⟨g, 0 + i * 2 + j, none⟩ = X.cell? ⟨g, 0 + i * 2 + j, none⟩ := fun X o y => World.cell?_of_block (w := X) (Below.heap_setCell X ⟨t, o, none⟩ y g (by simpa using ne))
  rw [k, k, k]
  exact h9

theorem IsRV.old {w wx : World} {A : Option Addr} {l : List R} {N d : Nat} (hd : l.length ≤ d ∧ d ≤ 9223372036854775807) (hA : A = none → l.length = 0 ∧ d = 0) (hN : l.length = N) (h : IsR w A l) (hb : Below w.heap.size w wx) : IsRV wx (.slice A N d) l :=
  ⟨A, d, by rw [hN], hd, hA, h.below hb⟩

theorem cut_length (l : List R) (k : Nat) : (cut l k).length ≤ l.length := List.length_filter_le _ _

theorem chk_zero {c : Cf} {o : O} (h : chk c o = 0) : Ok c ∧ (objAt o.k : Int) = c.obj ∧ Fits c.bits.toNat o := by
  unfold chk at h
  split at h
  · omega
  · rename_i h1
    split at h
    · omega
    · rename_i h2
      split at h
      · rename_i h3
        exact ⟨ok_of (by cases e : okB c <;> simp_all), by simpa using h2, h3⟩
      · omega

/-- Two blocks of two types are two. -/
theorem made_ne {w : World} {B g : Nat} {v : Value} {l : List R} (h : MadeX w B 24 2 rowL v l) {cs : Array Value} {t : TypeId} (hg : w.heap[g]? = some (.cells cs t (0, 0))) (ht : t ≠ 24) : v.ownBlock ≠ some g := fun e => by
  rcases h.2 with ⟨rfl, _⟩ | ⟨g', cap, cur, rfl, _, h3, _⟩
  · simp [Value.ownBlock] at e
  · have : g' = g := by simpa [Value.ownBlock] using e
    subst this
    rw [hg] at h3
    injection h3 with h3
    injection h3 with _ h3
    exact ht h3
/-- What is stored into another block leaves them. -/
theorem made_stored {w : World} {B g : Nat} {v : Value} {l : List R} (h : MadeX w B 24 2 rowL v l) (hne : v.ownBlock ≠ some g) (o : Nat) (x : Value) : MadeX (w.setCell ⟨g, o, none⟩ x) B 24 2 rowL v l :=
  h.grown (row := some g) ⟨rfl, rfl, rfl, by simp [World.setCell], fun i hi hne => Below.heap_setCell w ⟨g, o, none⟩ x i (fun e => hne (by rw [e]))⟩ (.inr hne)
theorem made_stored3 {w : World} {B g : Nat} {v : Value} {l : List R} (h : MadeX w B 24 2 rowL v l) (hne : v.ownBlock ≠ some g) (x y z : Value) : MadeX (((w.setCell ⟨g, 0, none⟩ x).setCell ⟨g, 1, none⟩ y).setCell ⟨g, 2, none⟩ z) B 24 2 rowL v l :=
  made_stored (made_stored (made_stored h hne _ _) hne _ _) hne _ _

theorem res_cells {w : World} {g : Nat} {a b c : Value} {t : TypeId} (h : w.heap[g]? = some (.cells #[a, b, c] t (0, 0))) :
    w.cell? ⟨g, 0, none⟩ = some a ∧ w.frozen? ⟨g, 0, none⟩ = false ∧ w.cell? ⟨g, 1, none⟩ = some b ∧ w.frozen? ⟨g, 1, none⟩ = false ∧ w.cell? ⟨g, 2, none⟩ = some c ∧ w.frozen? ⟨g, 2, none⟩ = false := by
  refine ⟨?_, ?_, ?_, ?_, ?_, ?_⟩ <;> simp [World.cell?, World.frozen?, h]
theorem below_drew (w : World) : Below w.heap.size w w.drew := ⟨rfl, rfl, rfl, Nat.le_refl _, fun _ _ => rfl⟩
theorem below_set3 {W X : World} {g : Nat} (h : Below W.heap.size W X) (hg : W.heap.size ≤ g) (a b c : Value) : Below W.heap.size W (((X.setCell ⟨g, 0, none⟩ a).setCell ⟨g, 1, none⟩ b).setCell ⟨g, 2, none⟩ c) :=
  ((h.setCell hg _).setCell hg _).setCell hg _
/-- Three cells that were made ahead of a call, and ahead of two. -/
abbrev Three (w : World) (g : Nat) (a b c : Value) : Prop := w.cell? ⟨g, 0, none⟩ = some a ∧ w.frozen? ⟨g, 0, none⟩ = false ∧ w.cell? ⟨g, 1, none⟩ = some b ∧ w.frozen? ⟨g, 1, none⟩ = false ∧ w.cell? ⟨g, 2, none⟩ = some c ∧ w.frozen? ⟨g, 2, none⟩ = false
theorem three_below {W X : World} {g : Nat} {a b c : Value} (h : Three W g a b c) (hb : Below W.heap.size W X) (hg : g < W.heap.size) : Three X g a b c :=
  ⟨(hb.cell hg).trans h.1, (hb.frozen hg).trans h.2.1, ((bcell hb).1 _ _ hg).trans h.2.2.1, ((bcell hb).2 _ _ hg).trans h.2.2.2.1, ((bcell hb).1 _ _ hg).trans h.2.2.2.2.1, ((bcell hb).2 _ _ hg).trans h.2.2.2.2.2⟩
/-- Rows stay where a block of another shape is written. -/
theorem isr_set3 {w : World} {A : Option Addr} {l : List R} {g : Nat} {a c : Int} (h : IsR w A l) (hT : Three w g (.int .i64 a) (.int .u32 c) (.slice none 0 0)) (x y z : Value) :
    IsR (((w.setCell ⟨g, 0, none⟩ x).setCell ⟨g, 1, none⟩ y).setCell ⟨g, 2, none⟩ z) A l := fun i r hr => by
  obtain ⟨b, off, e, hx⟩ := h i r hr
  refine ⟨b, off, e, fun j u hu => ?_⟩
  have hc := hx j u hu
  have hv : ∃ n : Int, u = .int .u64 n := by
    match j, hu with
    | 0, hu => injection hu with hu; exact ⟨_, hu.symm⟩
    | 1, hu => injection hu with hu; exact ⟨_, hu.symm⟩
  obtain ⟨n, rfl⟩ := hv
  obtain ⟨r0, -, r1, -, r2, -⟩ := hT
  have n0 : (⟨g, 0, none⟩ : Addr) ≠ ⟨b, off + i * 2 + j, none⟩ := fun e => by rw [e, hc] at r0; cases r0
  have n1 : (⟨g, 1, none⟩ : Addr) ≠ ⟨b, off + i * 2 + j, none⟩ := fun e => by rw [e, hc] at r1; cases r1
  have n2 : (⟨g, 2, none⟩ : Addr) ≠ ⟨b, off + i * 2 + j, none⟩ := fun e => by rw [e, hc] at r2; cases r2
  exact (World.cell?_setCell_other _ _ _ _ n2).trans ((World.cell?_setCell_other _ _ _ _ n1).trans ((World.cell?_setCell_other _ _ _ _ n0).trans hc))
theorem put_mem {l : List R} {k v : Nat} {x : R} (h : x ∈ put l k v) : x ∈ l ∨ x = (k, v) := by
  unfold put lo hi at h
  rcases List.mem_append.1 h with h | h
  · exact .inl (List.mem_filter.1 h).1
  · rcases List.mem_cons.1 h with h | h
    · exact .inr h
    · exact .inl (List.mem_filter.1 h).1
theorem cut_mem {l : List R} {k : Nat} {x : R} (h : x ∈ cut l k) : x ∈ l := (List.mem_filter.1 h).1
theorem get_put {l : List R} (k v : Nat) (h : Up l) : Tb.get (put l k v) k = some v := get_of (up_put k v h) (by unfold put; simp)
theorem cut_put {l : List R} (k v : Nat) (h : Up l) : cut (put l k v) k = cut l k := by
  rw [cut_eq k h]
  unfold put cut
  rw [List.filter_append, List.filter_cons_of_neg (by simp)]
  congr 1
  · exact List.filter_eq_self.2 fun x hx => by have := (List.mem_filter.1 hx).2; simp at this ⊢; omega
  · exact List.filter_eq_self.2 fun x hx => by have := (List.mem_filter.1 hx).2; simp at this ⊢; omega
/-- What a call leaves that answers rows, a result and an error. -/
def Did3 (s : List R × Int × Int) (err : Int) (w : World) (e : Ending) (w' : World) : Prop := ∃ u, e = .returned (.tuple #[u, resv s.2.1 s.2.2 none 0 0, .int .i64 err]) ∧ IsRV w' u s.1 ∧ Below w.heap.size w w'
end Go.Proofs.YtljdkjjjnlcflaaDoor
