/- A map of numbers that a call makes, as a list of pairs, no key twice: put, deleted from, how many. Rows that a setting makes, as a set of pairs that have no row yet. -/
import Derived.Maps.RangeWalk
import Derived.Maps.OwnSet
import Derived.Test.YtljdkjjjnlcflaaDoorPaFacts
namespace Go.Proofs.YtljdkjjjnlcflaaDoor
open Go.RowKit Go.Lib Tb Pt Opn

/-- Is the key among these pairs? -/
def hasM (m : List R) (k : Nat) : Bool := m.any fun x => x.1 == k
theorem hasM_iff {m : List R} {k : Nat} : hasM m k = true ↔ ∃ x ∈ m, x.1 = k := by unfold hasM; simp [List.any_eq_true]
theorem hasM_snoc (m : List R) (x : R) (k : Nat) : hasM (m ++ [x]) k = (hasM m k || x.1 == k) := by unfold hasM; simp
theorem hasM_get (l : List R) (k : Nat) : hasM l k = (Tb.get l k).isSome := by
  unfold hasM Tb.get
  rw [Option.isSome_map, Bool.eq_iff_iff, List.find?_isSome, List.any_eq_true]
/-- No key twice. -/
def Once (m : List R) : Prop := m.Pairwise fun x y => x.1 ≠ y.1
theorem once_up {l : List R} (h : Up l) : Once l := h.imp fun h => Nat.ne_of_lt h
theorem once_snoc {m : List R} {x : R} (h : Once m) (hx : hasM m x.1 = false) : Once (m ++ [x]) := by
  refine List.pairwise_append.2 ⟨h, List.pairwise_singleton _ _, fun a ha b hb e => ?_⟩
  rw [List.mem_singleton.1 hb] at e
  rw [hasM_iff.2 ⟨a, ha, e⟩] at hx
  cases hx
theorem once_val {m : List R} (h : Once m) {k u v : Nat} (h1 : (k, u) ∈ m) (h2 : (k, v) ∈ m) : u = v := by
  induction m with
  | nil => cases h1
  | cons x r ih =>
    obtain ⟨g1, g2⟩ := List.pairwise_cons.1 h
    rcases List.mem_cons.1 h1 with e1 | e1 <;> rcases List.mem_cons.1 h2 with e2 | e2
    · have := e1.trans e2.symm; injection this
    · exact absurd (by rw [← e1]) (g1 _ e2)
    · exact absurd (by rw [← e2]) (g1 _ e1)
    · exact ih g2 e1 e2
/-- Those pairs that have no row. -/
def lack (l m : List R) : List R := m.filter fun x => !hasM l x.1
theorem lack_nil (m : List R) : lack [] m = m := List.filter_eq_self.2 fun _ _ => rfl
theorem lack_snoc (l m : List R) (x : R) : lack (l ++ [x]) m = (lack l m).filter fun y => y.1 != x.1 := by
  unfold lack
  rw [List.filter_filter]
  refine List.filter_congr fun y _ => ?_
  rw [hasM_snoc]
  cases hasM l y.1 <;> simp [bne, BEq.comm (a := x.1)]
theorem once_lack {l m : List R} (h : Once m) : Once (lack l m) := List.Pairwise.filter _ h
theorem lack_mem {l m : List R} {x : R} : x ∈ lack l m ↔ x ∈ m ∧ hasM l x.1 = false := by unfold lack; rw [List.mem_filter]; simp

/-- What a map reads as that holds these pairs. -/
structure Rep (D : DataW Unit) (m : List R) : Prop where
  tidy : Maps.Tidy D
  once : Once m
  has : ∀ k : Nat, Maps.has D (.int .u64 k) = hasM m k
  val : ∀ x ∈ m, ∀ z, D.atKey (.int .u64 (x.1 : Nat)) z = .lit (.int .u64 (x.2 : Nat))
  size : Maps.size D = m.length
theorem lit_ne {a b : Nat} (h : a ≠ b) : Lit.int .u64 (a : Int) ≠ Lit.int .u64 (b : Int) := fun e => h (by injection e with _ e; omega)
theorem isk (k : Nat) : WideAt.IsKeyLit (.int .u64 (k : Int)) := trivial
theorem rep_nil : Rep (.map []) [] := ⟨Maps.tidy_empty, List.Pairwise.nil, fun _ => rfl, (fun x hx => by cases hx), rfl⟩
theorem rep_new {D : DataW Unit} {m : List R} {k : Nat} (h : Rep D m) (v : Nat) (hk : hasM m k = false) : Rep (D.put (.int .u64 k) (.lit (.int .u64 v))) (m ++ [(k, v)]) := by
  refine ⟨h.tidy.put (isk k) _, once_snoc h.once hk, fun j => ?_, fun x hx z => ?_, ?_⟩
  · rw [hasM_snoc]
    by_cases e : j = k
    · subst e; rw [Maps.has_put_same h.tidy.isMap (isk _)]; simp
    · rw [Maps.has_put_other (lit_ne e), h.has, show ((k, v).1 == j) = false from beq_eq_false_iff_ne.2 fun e' => e e'.symm]; simp
  · rcases List.mem_append.1 hx with hx | hx
    · have hne : x.1 ≠ k := fun e => by rw [hasM_iff.2 ⟨x, hx, e⟩] at hk; cases hk
      rw [Maps.atKey_put_other (lit_ne hne)]; exact h.val x hx z
    · rw [List.mem_singleton.1 hx]; exact Maps.atKey_put_same h.tidy.isMap (isk _) _ _
  · rw [Maps.size_put h.tidy, h.has, hk, h.size]; simp
theorem rep_same {D : DataW Unit} {m : List R} {k v : Nat} (h : Rep D m) (hk : (k, v) ∈ m) : Rep (D.put (.int .u64 k) (.lit (.int .u64 v))) m := by
  have hh : hasM m k = true := hasM_iff.2 ⟨_, hk, rfl⟩
  refine ⟨h.tidy.put (isk k) _, h.once, fun j => ?_, fun x hx z => ?_, ?_⟩
  · by_cases e : j = k
    · subst e; rw [Maps.has_put_same h.tidy.isMap (isk _), hh]
    · rw [Maps.has_put_other (lit_ne e), h.has]
  · by_cases e : x.1 = k
    · have : x.2 = v := once_val h.once (show (k, x.2) ∈ m by rw [← e]; exact hx) hk
      rw [e, this]; exact Maps.atKey_put_same h.tidy.isMap (isk _) _ _
    · rw [Maps.atKey_put_other (lit_ne e)]; exact h.val x hx z
  · rw [Maps.size_put h.tidy, h.has, hh, h.size]; simp
theorem len_strike (k : Nat) : ∀ m : List R, Once m → (m.filter fun y => y.1 != k).length + (if hasM m k then 1 else 0) = m.length
  | [], _ => rfl
  | x :: r, h => by
    obtain ⟨h1, h2⟩ := List.pairwise_cons.1 h
    have ih := len_strike k r h2
    by_cases e : x.1 = k
    · have hr : hasM r k = false := by
        rw [Bool.eq_false_iff]
        intro g
        obtain ⟨y, hy, e'⟩ := hasM_iff.1 g
        exact h1 y hy (e.trans e'.symm)
      have hx : hasM (x :: r) k = true := hasM_iff.2 ⟨x, List.mem_cons_self .., e⟩
      rw [hr] at ih
      rw [hx, List.filter_cons_of_neg (by simp [e])]
      simp at ih ⊢
      omega
    · have hx : hasM (x :: r) k = hasM r k := by unfold hasM; rw [List.any_cons]; simp [e]
      rw [hx, List.filter_cons_of_pos (by simpa using e)]
      simp only [List.length_cons]
      omega
theorem rep_del {D : DataW Unit} {m : List R} (h : Rep D m) (k : Nat) : Rep (D.del (.int .u64 k)) (m.filter fun y => y.1 != k) := by
  refine ⟨h.tidy.del _, List.Pairwise.filter _ h.once, fun j => ?_, fun x hx z => ?_, ?_⟩
  · by_cases e : j = k
    · subst e
      rw [Maps.has_del_same]
      symm
      rw [Bool.eq_false_iff]
      intro g
      obtain ⟨y, hy, e⟩ := hasM_iff.1 g
      have := (List.mem_filter.1 hy).2
      simp [e] at this
    · rw [Maps.has_del_other (lit_ne e), h.has, Bool.eq_iff_iff, hasM_iff, hasM_iff]
      constructor
      · rintro ⟨y, hy, rfl⟩; exact ⟨y, List.mem_filter.2 ⟨hy, by simpa using e⟩, rfl⟩
      · rintro ⟨y, hy, rfl⟩; exact ⟨y, (List.mem_filter.1 hy).1, rfl⟩
  · obtain ⟨h1, h2⟩ := List.mem_filter.1 hx
    rw [Maps.atKey_del_other (lit_ne (by simpa using h2))]
    exact h.val x h1 z
  · have a := Maps.size_del h.tidy (k := .int .u64 (k : Int))
    have b := len_strike k m h.once
    rw [h.has, h.size] at a
    omega
theorem rep_hasnt {D : DataW Unit} {m : List R} (h : Rep D m) {k : Nat} (hk : hasM m k = false) (m' : List R) (hm : m' = m ++ [(k, 0)]) : Rep (D.put (.int .u64 k) (.lit (.int .u64 (0 : Nat)))) m' := by subst hm; exact rep_new h 0 hk

/-- The keys' type. -/
theorem lawK : Maps.Keyed Tryd.prog 22 := Maps.int_keyed Tryd.underlying22
/-- A map in the block b that holds these pairs. -/
def IsMp (W : World) (b n : Nat) (m : List R) : Prop := ∃ D : DataW Unit, W.ownsMap Tryd.prog 22 (plainElem Tryd.prog 22) b n D ∧ Rep D m
theorem IsMp.lt {W : World} {b n : Nat} {m : List R} (h : IsMp W b n m) : b < W.heap.size := by obtain ⟨D, h1, _⟩ := h; exact h1.lt
theorem IsMp.kept {W X : World} {b n : Nat} {m : List R} {row : Option Nat} (h : IsMp W b n m) (hg : W.grownBy X row) (hne : some b ≠ row) : IsMp X b n m := by obtain ⟨D, h1, h2⟩ := h; exact ⟨D, h1.kept hg hne, h2⟩
theorem IsMp.below {W X : World} {b n : Nat} {m : List R} (h : IsMp W b n m) (hb : Below W.heap.size W X) : IsMp X b n m := h.kept (row := none) ⟨hb.os, hb.tape, hb.output, hb.size, fun i hi _ => hb.block i hi⟩ (by simp)
theorem IsMp.mono {W : World} {b n n' : Nat} {m : List R} (h : IsMp W b n m) (hn : n ≤ n') : IsMp W b n' m := by obtain ⟨D, h1, h2⟩ := h; exact ⟨D, h1.mono hn, h2⟩
theorem isMp_made (W : World) : IsMp (W.alloc (.map #[] 0)) W.heap.size 0 [] := ⟨_, World.ownsMap_made _ _ _ _, rep_nil⟩
theorem wf64 {k : Nat} (h : k < 18446744073709551616) : (Lit.int .u64 (k : Int)).wf = true := WalkArith.wf_u64 (by omega)
theorem key64 {k : Nat} (h : k < 18446744073709551616) : keyOf Tryd.prog 22 (.int .u64 (k : Int)) = some (.int .u64 (k : Int)) := Maps.keyOf_int_mk Tryd.underlying22 (wf64 h)
theorem elem64 {k : Nat} (h : k < 18446744073709551616) : plainElem (H := Unit) Tryd.prog 22 (.int .u64 (k : Int)) = some (.lit (.int .u64 (k : Int)), []) := plainElem_int Tryd.underlying22 (wf64 h)
/-- A map's block is none of the rows'. -/
theorem isr_mapped {W X : World} {b : Nat} {A : Option Addr} {l : List R} (h : IsR W A l) (hm : W.mapTurned X b) : IsR X A l := fun i x hx => by
  obtain ⟨bk, off, e, h1⟩ := h i x hx
  obtain ⟨es, cl, es', cl', hb, rfl⟩ := hm
  refine ⟨bk, off, e, fun j u hj => ?_⟩
  have hc := h1 j u hj
  have hne : bk ≠ b := fun e => by subst e; simp [World.cell?, hb] at hc
  exact (World.cell?_of_block (w := W) (ChangeMaps.heap_setBlock_other hb _ hne)).trans hc

/-! ### what a setting makes -/
/-- A node with its word, and all above it, with none. -/
def chainM (k v : Nat) : List R := (k, v) :: (ups 2 (par k)).map fun j => (j, 0)
theorem ups_lt : ∀ (n k : Nat) {j : Nat}, j ∈ ups n k → j ≤ k
  | 0, k, j, h => by simp [ups] at h
  | n + 1, k, j, h => by
    rw [ups] at h
    split at h
    · cases h
    · rcases List.mem_cons.1 h with rfl | h
      · exact Nat.le_refl _
      · exact Nat.le_trans (ups_lt n _ h) (par_le k)
theorem once_ups : ∀ (n k : Nat), ((ups n k).map fun j => ((j, 0) : R)).Pairwise fun x y => x.1 ≠ y.1
  | 0, k => List.Pairwise.nil
  | n + 1, k => by
    rw [ups]
    split
    · exact List.Pairwise.nil
    · rename_i h
      rw [List.map_cons]
      refine List.pairwise_cons.2 ⟨fun y hy e => ?_, once_ups n _⟩
      obtain ⟨j, hj, rfl⟩ := List.mem_map.1 hy
      have := ups_lt n _ hj
      have := par_lt h
      simp only at e
      omega
theorem once_chain {k : Nat} (hk : k ≠ 0) (v : Nat) : Once (chainM k v) := by
  refine List.pairwise_cons.2 ⟨fun y hy e => ?_, once_ups 2 _⟩
  obtain ⟨j, hj, rfl⟩ := List.mem_map.1 hy
  have := ups_lt 2 _ hj
  have := par_lt hk
  simp only at e
  omega
theorem ups_cons {k : Nat} (hk : k ≠ 0) : ups 3 k = k :: ups 2 (par k) := by rw [ups, if_neg hk]
theorem hasM_chain {k v j : Nat} (hk : k ≠ 0) : hasM (chainM k v) j = true ↔ j ∈ ups 3 k := by
  rw [hasM_iff, ups_cons hk, List.mem_cons]
  unfold chainM
  constructor
  · rintro ⟨x, hx, rfl⟩
    rcases List.mem_cons.1 hx with rfl | hx
    · exact .inl rfl
    · obtain ⟨i, hi, rfl⟩ := List.mem_map.1 hx; exact .inr hi
  · rintro (rfl | h)
    · exact ⟨_, List.mem_cons_self .., rfl⟩
    · exact ⟨(j, 0), List.mem_cons_of_mem _ (List.mem_map.2 ⟨j, h, rfl⟩), rfl⟩
/-- The rows behind a setting of a path that has no row: those that were, and what they lacked, in whatever order. -/
theorem set_perm {l : List R} (hu : Up l) {p : Nat} (hp : p ≠ 0) (v : Nat) (hn : Tb.get l p = none) : (setR l p v).Perm (l ++ lack l (chainM p (v + 1))) := by
  have nd : ∀ {m : List R}, Once m → m.Nodup := fun h => h.imp fun h e => h (by rw [e])
  have ho : Once (l ++ lack l (chainM p (v + 1))) := List.pairwise_append.2 ⟨once_up hu, once_lack (once_chain hp _), fun x hx y hy e => by
    have := (lack_mem.1 hy).2
    rw [hasM_iff.2 ⟨x, hx, e⟩] at this
    cases this⟩
  refine (List.perm_ext_iff_of_nodup (nd (once_up (up_set hu p v))) (nd ho)).2 fun ⟨j, u⟩ => ?_
  rw [← get_mem (up_set hu p v), get_set hu, List.mem_append, lack_mem, ← get_mem hu, hasM_get]
  by_cases e : j = p
  · subst e
    rw [if_pos rfl, hn]
    have : (j, u) ∈ chainM j (v + 1) ↔ u = v + 1 := by
      constructor
      · intro h; exact once_val (once_chain hp _) h (List.mem_cons_self ..)
      · rintro rfl; exact List.mem_cons_self ..
    simp [this, eq_comm]
  · rw [if_neg e]
    cases hg : Tb.get l j with
    | some x => simp
    | none =>
      have : (j, u) ∈ chainM p (v + 1) ↔ j ∈ ups 3 p ∧ u = 0 := by
        rw [ups_cons hp, List.mem_cons]
        unfold chainM
        rw [List.mem_cons, List.mem_map]
        constructor
        · rintro (h | ⟨i, hi, h⟩)
          · injection h with h; exact absurd h e
          · injection h with h1 h2; subst h1; exact ⟨.inr hi, h2.symm⟩
        · rintro ⟨h | h, rfl⟩
          · exact absurd h e
          · exact .inr ⟨j, h, rfl⟩
      simp only [this]
      by_cases hj : j ∈ ups 3 p
      · simp [hj, eq_comm]
      · simp [hj]
theorem set_count {l : List R} (hu : Up l) {p : Nat} (hp : p ≠ 0) (v : Nat) (hn : Tb.get l p = none) : l.length + (lack l (chainM p (v + 1))).length = (mk 3 l p).length := by
  rw [← len_set hu hp v, (set_perm hu hp v hn).length_eq, List.length_append]
theorem lack_pos {l : List R} {p v : Nat} (hn : Tb.get l p = none) : (p, v) ∈ lack l (chainM p v) := lack_mem.2 ⟨List.mem_cons_self .., by rw [hasM_get, hn]; rfl⟩
/-- Rows that rise, and hold the same in another order, are the same. -/
theorem up_perm {a b : List R} (ha : Up a) (hb : Up b) (h : a.Perm b) : a = b :=
  List.Perm.eq_of_pairwise (le := fun x y : R => x.1 < y.1) (fun _ _ _ _ h1 h2 => absurd h1 (Nat.lt_asymm h2)) ha hb h
/-- The rows that were met of a map, and all of them: in whatever order, the same. -/
theorem once_perm {a m : List R} (ha : Once a) (hm : Once m) (h : ∀ x, x ∈ a ↔ x ∈ m) : a.Perm m :=
  (List.perm_ext_iff_of_nodup (ha.imp fun h e => h (by rw [e])) (hm.imp fun h e => h (by rw [e]))).2 h
/-- A set of rows without a doubled key, whose sorted form. -/
theorem sort_is {s a t : List R} (ht : Up t) (hp : s.Perm a) (ha : a.Perm t) (hs : ∀ i j, (hi : i < s.length) → (hj : j < s.length) → i < j → ¬ s[j].1 < s[i].1) : s = t := by
  have hst : s.Perm t := hp.trans ha
  have ho : Once s := (hst.pairwise_iff (R := fun x y : R => x.1 ≠ y.1) (fun h e => h e.symm)).2 (once_up ht)
  refine up_perm ?_ ht hst
  refine List.pairwise_iff_getElem.2 fun i j hi hj hij => ?_
  have h1 := hs i j hi hj hij
  have h2 := List.pairwise_iff_getElem.1 ho i j hi hj hij
  omega
/-- A path that has a row is set in its place. -/
theorem mk_there : ∀ (n : Nat) {l : List R} (k : Nat), (∀ j ∈ ups n k, (Tb.get l j).isSome = true) → mk n l k = l
  | 0, _, _, _ => by rw [mk]
  | n + 1, l, k, h => by
    rw [mk]
    split
    · rfl
    · rename_i hk
      have e : ens l k = l := by unfold ens; rw [if_pos (h k (ups_self hk))]
      rw [e]
      exact mk_there n _ fun j hj => h j (by rw [ups, if_neg hk]; exact List.mem_cons_of_mem _ hj)
/-- Each node's parents have rows. -/
theorem kin_ups {l : List R} (hk : ∀ x ∈ l, Kin l x.1) : ∀ (n k : Nat), (Tb.get l k).isSome = true → ∀ j ∈ ups n k, (Tb.get l j).isSome = true
  | 0, k, _, j, hj => by simp [ups] at hj
  | n + 1, k, hg, j, hj => by
    rw [ups] at hj
    split at hj
    · cases hj
    · rcases List.mem_cons.1 hj with rfl | hj
      · exact hg
      · by_cases h0 : par k = 0
        · rw [h0] at hj; cases n <;> simp [ups] at hj
        · obtain ⟨v, hv⟩ := Option.isSome_iff_exists.1 hg
          exact kin_ups hk n (par k) (hk (k, v) (get_some hv) h0) j hj
/-- The parents of rows. -/
structure ParsOf (l m : List R) : Prop where
  has : ∀ k, hasM m k = true ↔ k ≠ 0 ∧ ∃ x ∈ l, par x.1 = k
  nil : ∀ x ∈ m, x.2 = 0
  len : m.length ≤ l.length
theorem pars_nil : ParsOf [] [] := ⟨fun k => by rw [hasM_iff]; constructor <;> (rintro ⟨_, h⟩; simp at *), (fun x hx => by cases hx), Nat.le_refl _⟩
theorem pars_zero {l m : List R} {x : R} (h : ParsOf l m) (hx : par x.1 = 0) : ParsOf (l ++ [x]) m := by
  refine ⟨fun k => ?_, h.nil, by simp; have := h.len; omega⟩
  rw [h.has]
  refine and_congr_right fun hk => ⟨fun ⟨y, hy, e⟩ => ⟨y, List.mem_append_left _ hy, e⟩, ?_⟩
  rintro ⟨y, hy, e⟩
  rcases List.mem_append.1 hy with hy | hy
  · exact ⟨y, hy, e⟩
  · rw [List.mem_singleton.1 hy, hx] at e; exact absurd e.symm hk
theorem pars_old {l m : List R} {x : R} (h : ParsOf l m) (hx : hasM m (par x.1) = true) : ParsOf (l ++ [x]) m := by
  refine ⟨fun k => ?_, h.nil, by simp; have := h.len; omega⟩
  constructor
  · intro g
    obtain ⟨g1, y, hy, e⟩ := (h.has k).1 g
    exact ⟨g1, y, List.mem_append_left _ hy, e⟩
  · rintro ⟨g1, y, hy, e⟩
    rcases List.mem_append.1 hy with hy | hy
    · exact (h.has k).2 ⟨g1, y, hy, e⟩
    · rw [List.mem_singleton.1 hy] at e; rw [← e]; exact hx
theorem pars_new {l m : List R} {x : R} (h : ParsOf l m) (hx : par x.1 ≠ 0) : ParsOf (l ++ [x]) (m ++ [(par x.1, 0)]) := by
  refine ⟨fun k => ?_, fun y hy => ?_, by simp; exact h.len⟩
  · rw [hasM_snoc, Bool.or_eq_true, h.has, beq_iff_eq]
    constructor
    · rintro (⟨g1, y, hy, e⟩ | rfl)
      · exact ⟨g1, y, List.mem_append_left _ hy, e⟩
      · exact ⟨hx, x, List.mem_append_right _ (List.mem_singleton.2 rfl), rfl⟩
    · rintro ⟨g1, y, hy, e⟩
      rcases List.mem_append.1 hy with hy | hy
      · exact .inl ⟨g1, y, hy, e⟩
      · rw [List.mem_singleton.1 hy] at e; exact .inr e
  · rcases List.mem_append.1 hy with hy | hy
    · exact h.nil y hy
    · rw [List.mem_singleton.1 hy]
theorem pars_kin {l m : List R} (h : ParsOf l m) : (lack l m).length = 0 ↔ ∀ x ∈ l, Kin l x.1 := by
  rw [List.length_eq_zero_iff]
  unfold lack
  rw [List.filter_eq_nil_iff]
  constructor
  · intro g x hx hp
    obtain ⟨y, hy, e⟩ := hasM_iff.1 ((h.has (par x.1)).2 ⟨hp, x, hx, rfl⟩)
    have := g y hy
    rw [e] at this
    rw [← hasM_get]
    simpa using this
  · intro g y hy
    obtain ⟨g1, x, hx, e⟩ := (h.has y.1).1 (hasM_iff.2 ⟨y, hy, rfl⟩)
    have := g x hx (by rw [e]; exact g1)
    rw [e, ← hasM_get] at this
    simp [this]
end Go.Proofs.YtljdkjjjnlcflaaDoor
