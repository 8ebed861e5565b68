/- A map of numbers that a call makes, as a list of pairs, no key twice: put, deleted from, how many. Rows that a setting makes, as a set of pairs that have no row yet. The program's own names and keys of paths: a key's names, an operation's, a key of names, whether names are a path's, a parent's key. The program's own tree: whether a config is of ObjConfig, what of a map has no row, whether rows may be a tree's. The sort of rows by a comparison: the library's own functions at this program's numbers. Rows of a call's own are sorted by their keys: what slices.SortFunc leaves with the program's own comparison. The search's comparison of a row with a key. slices.BinarySearchFunc over rows that rise, with the program's own comparison: the place of a key, and whether it is there; the program's seek. The program's own settings of paths: a node with all above it as a map; what a map holds is put into rows of its caller's own, in order. The program's own setting of a path: it turns rows of its caller's own. The program's own taking out of a node, and reading of one: whether a node stands below, what is taken out of rows of its caller's own, what is told. The program's own Is and Do of a tree of settings: what is refused, what does not fit, a setting, a taking out, a reading. -/
import Derived.Maps.RangeWalk
import Derived.Maps.OwnSet
import Derived.Test.YtnepdbfnbikplaaGreatDoorGPa
import Derived.LoopN
import Derived.Test.YtnepdbfnbikplaaGreatDoorGOld
import Derived.Test.YtnepdbfnbikplaaGreatDoorGMath
import Derived.Test.YtnepdbfnbikplaaGreatDoorGRow
import Derived.Shelf.SlSortCmp.WholeK
import Derived.Deep.DeepCutAuto
import Derived.Deep.RegionHeld3
import Derived.Lib.QuietBelow
import Derived.Test.YtnepdbfnbikplaaGreatDoorGOp
import Derived.Test.YtnepdbfnbikplaaGreatDoorGOpen
namespace Go.Proofs.YtnepdbfnbikplaaGreatDoor
open Go.RowKit Go.Lib Tb Pt Opn

/-- Is the key among these pairs? -/
def hasM (m : List R) (k : Nat) : Bool := m.any fun x => x.1 == k
theorem hasM_iff {m : List R} {k : Nat} : hasM m k = true ↔ ∃ x ∈ m, x.1 = k := by unfold hasM; simp [List.any_eq_true]
theorem hasM_snoc (m : List R) (x : R) (k : Nat) : hasM (m ++ [x]) k = (hasM m k || x.1 == k) := by unfold hasM; simp
theorem hasM_get (l : List R) (k : Nat) : hasM l k = (Tb.get l k).isSome := by
  unfold hasM Tb.get
  rw [Option.isSome_map, Bool.eq_iff_iff, List.find?_isSome, List.any_eq_true]
/-- No key twice. -/
def Once (m : List R) : Prop := m.Pairwise fun x y => x.1 ≠ y.1
theorem once_up {l : List R} (h : Up l) : Once l := h.imp fun h => Nat.ne_of_lt h
theorem once_snoc {m : List R} {x : R} (h : Once m) (hx : hasM m x.1 = false) : Once (m ++ [x]) := by
  refine List.pairwise_append.2 ⟨h, List.pairwise_singleton _ _, fun a ha b hb e => ?_⟩
  rw [List.mem_singleton.1 hb] at e
  rw [hasM_iff.2 ⟨a, ha, e⟩] at hx
  cases hx
theorem once_val {m : List R} (h : Once m) {k u v : Nat} (h1 : (k, u) ∈ m) (h2 : (k, v) ∈ m) : u = v := by
  induction m with
  | nil => cases h1
  | cons x r ih =>
    obtain ⟨g1, g2⟩ := List.pairwise_cons.1 h
    rcases List.mem_cons.1 h1 with e1 | e1 <;> rcases List.mem_cons.1 h2 with e2 | e2
    · have := e1.trans e2.symm; injection this
    · exact absurd (by rw [← e1]) (g1 _ e2)
    · exact absurd (by rw [← e2]) (g1 _ e1)
    · exact ih g2 e1 e2
/-- Those pairs that have no row. -/
def lack (l m : List R) : List R := m.filter fun x => !hasM l x.1
theorem lack_nil (m : List R) : lack [] m = m := List.filter_eq_self.2 fun _ _ => rfl
theorem lack_snoc (l m : List R) (x : R) : lack (l ++ [x]) m = (lack l m).filter fun y => y.1 != x.1 := by
  unfold lack
  rw [List.filter_filter]
  refine List.filter_congr fun y _ => ?_
  rw [hasM_snoc]
  cases hasM l y.1 <;> simp [bne, BEq.comm (a := x.1)]
theorem once_lack {l m : List R} (h : Once m) : Once (lack l m) := List.Pairwise.filter _ h
theorem lack_mem {l m : List R} {x : R} : x ∈ lack l m ↔ x ∈ m ∧ hasM l x.1 = false := by unfold lack; rw [List.mem_filter]; simp

/-- What a map reads as that holds these pairs. -/
structure Rep (D : DataW Unit) (m : List R) : Prop where
  tidy : Maps.Tidy D
  once : Once m
  has : ∀ k : Nat, Maps.has D (.int .u64 k) = hasM m k
  val : ∀ x ∈ m, ∀ z, D.atKey (.int .u64 (x.1 : Nat)) z = .lit (.int .u64 (x.2 : Nat))
  size : Maps.size D = m.length
theorem lit_ne {a b : Nat} (h : a ≠ b) : Lit.int .u64 (a : Int) ≠ Lit.int .u64 (b : Int) := fun e => h (by injection e with _ e; omega)
theorem isk (k : Nat) : WideAt.IsKeyLit (.int .u64 (k : Int)) := trivial
theorem rep_nil : Rep (.map []) [] := ⟨Maps.tidy_empty, List.Pairwise.nil, fun _ => rfl, (fun x hx => by cases hx), rfl⟩
theorem rep_new {D : DataW Unit} {m : List R} {k : Nat} (h : Rep D m) (v : Nat) (hk : hasM m k = false) : Rep (D.put (.int .u64 k) (.lit (.int .u64 v))) (m ++ [(k, v)]) := by
  refine ⟨h.tidy.put (isk k) _, once_snoc h.once hk, fun j => ?_, fun x hx z => ?_, ?_⟩
  · rw [hasM_snoc]
    by_cases e : j = k
    · subst e; rw [Maps.has_put_same h.tidy.isMap (isk _)]; simp
    · rw [Maps.has_put_other (lit_ne e), h.has, show ((k, v).1 == j) = false from beq_eq_false_iff_ne.2 fun e' => e e'.symm]; simp
  · rcases List.mem_append.1 hx with hx | hx
    · have hne : x.1 ≠ k := fun e => by rw [hasM_iff.2 ⟨x, hx, e⟩] at hk; cases hk
      rw [Maps.atKey_put_other (lit_ne hne)]; exact h.val x hx z
    · rw [List.mem_singleton.1 hx]; exact Maps.atKey_put_same h.tidy.isMap (isk _) _ _
  · rw [Maps.size_put h.tidy, h.has, hk, h.size]; simp
theorem rep_same {D : DataW Unit} {m : List R} {k v : Nat} (h : Rep D m) (hk : (k, v) ∈ m) : Rep (D.put (.int .u64 k) (.lit (.int .u64 v))) m := by
  have hh : hasM m k = true := hasM_iff.2 ⟨_, hk, rfl⟩
  refine ⟨h.tidy.put (isk k) _, h.once, fun j => ?_, fun x hx z => ?_, ?_⟩
  · by_cases e : j = k
    · subst e; rw [Maps.has_put_same h.tidy.isMap (isk _), hh]
    · rw [Maps.has_put_other (lit_ne e), h.has]
  · by_cases e : x.1 = k
    · have : x.2 = v := once_val h.once (show (k, x.2) ∈ m by rw [← e]; exact hx) hk
      rw [e, this]; exact Maps.atKey_put_same h.tidy.isMap (isk _) _ _
    · rw [Maps.atKey_put_other (lit_ne e)]; exact h.val x hx z
  · rw [Maps.size_put h.tidy, h.has, hh, h.size]; simp
theorem len_strike (k : Nat) : ∀ m : List R, Once m → (m.filter fun y => y.1 != k).length + (if hasM m k then 1 else 0) = m.length
  | [], _ => rfl
  | x :: r, h => by
    obtain ⟨h1, h2⟩ := List.pairwise_cons.1 h
    have ih := len_strike k r h2
    by_cases e : x.1 = k
    · have hr : hasM r k = false := by
        rw [Bool.eq_false_iff]
        intro g
        obtain ⟨y, hy, e'⟩ := hasM_iff.1 g
        exact h1 y hy (e.trans e'.symm)
      have hx : hasM (x :: r) k = true := hasM_iff.2 ⟨x, List.mem_cons_self .., e⟩
      rw [hr] at ih
      rw [hx, List.filter_cons_of_neg (by simp [e])]
      simp at ih ⊢
      omega
    · have hx : hasM (x :: r) k = hasM r k := by unfold hasM; rw [List.any_cons]; simp [e]
      rw [hx, List.filter_cons_of_pos (by simpa using e)]
      simp only [List.length_cons]
      omega
theorem rep_del {D : DataW Unit} {m : List R} (h : Rep D m) (k : Nat) : Rep (D.del (.int .u64 k)) (m.filter fun y => y.1 != k) := by
  refine ⟨h.tidy.del _, List.Pairwise.filter _ h.once, fun j => ?_, fun x hx z => ?_, ?_⟩
  · by_cases e : j = k
    · subst e
      rw [Maps.has_del_same]
      symm
      rw [Bool.eq_false_iff]
      intro g
      obtain ⟨y, hy, e⟩ := hasM_iff.1 g
      have := (List.mem_filter.1 hy).2
      simp [e] at this
    · rw [Maps.has_del_other (lit_ne e), h.has, Bool.eq_iff_iff, hasM_iff, hasM_iff]
      constructor
      · rintro ⟨y, hy, rfl⟩; exact ⟨y, List.mem_filter.2 ⟨hy, by simpa using e⟩, rfl⟩
      · rintro ⟨y, hy, rfl⟩; exact ⟨y, (List.mem_filter.1 hy).1, rfl⟩
  · obtain ⟨h1, h2⟩ := List.mem_filter.1 hx
    rw [Maps.atKey_del_other (lit_ne (by simpa using h2))]
    exact h.val x h1 z
  · have a := Maps.size_del h.tidy (k := .int .u64 (k : Int))
    have b := len_strike k m h.once
    rw [h.has, h.size] at a
    omega
theorem rep_hasnt {D : DataW Unit} {m : List R} (h : Rep D m) {k : Nat} (hk : hasM m k = false) (m' : List R) (hm : m' = m ++ [(k, 0)]) : Rep (D.put (.int .u64 k) (.lit (.int .u64 (0 : Nat)))) m' := by subst hm; exact rep_new h 0 hk

/-- The keys' type. -/
theorem lawK : Maps.Keyed Tryz.prog 22 := Maps.int_keyed Tryz.underlying22
/-- A map in the block b that holds these pairs. -/
def IsMp (W : World) (b n : Nat) (m : List R) : Prop := ∃ D : DataW Unit, W.ownsMap Tryz.prog 22 (plainElem Tryz.prog 22) b n D ∧ Rep D m
theorem IsMp.lt {W : World} {b n : Nat} {m : List R} (h : IsMp W b n m) : b < W.heap.size := by obtain ⟨D, h1, _⟩ := h; exact h1.lt
theorem IsMp.kept {W X : World} {b n : Nat} {m : List R} {row : Option Nat} (h : IsMp W b n m) (hg : W.grownBy X row) (hne : some b ≠ row) : IsMp X b n m := by obtain ⟨D, h1, h2⟩ := h; exact ⟨D, h1.kept hg hne, h2⟩
theorem IsMp.below {W X : World} {b n : Nat} {m : List R} (h : IsMp W b n m) (hb : Below W.heap.size W X) : IsMp X b n m := h.kept (row := none) ⟨hb.os, hb.tape, hb.output, hb.size, fun i hi _ => hb.block i hi⟩ (by simp)
theorem IsMp.mono {W : World} {b n n' : Nat} {m : List R} (h : IsMp W b n m) (hn : n ≤ n') : IsMp W b n' m := by obtain ⟨D, h1, h2⟩ := h; exact ⟨D, h1.mono hn, h2⟩
theorem isMp_made (W : World) : IsMp (W.alloc (.map #[] 0)) W.heap.size 0 [] := ⟨_, World.ownsMap_made _ _ _ _, rep_nil⟩
theorem wf64 {k : Nat} (h : k < 18446744073709551616) : (Lit.int .u64 (k : Int)).wf = true := WalkArith.wf_u64 (by omega)
theorem key64 {k : Nat} (h : k < 18446744073709551616) : keyOf Tryz.prog 22 (.int .u64 (k : Int)) = some (.int .u64 (k : Int)) := Maps.keyOf_int_mk Tryz.underlying22 (wf64 h)
theorem elem64 {k : Nat} (h : k < 18446744073709551616) : plainElem (H := Unit) Tryz.prog 22 (.int .u64 (k : Int)) = some (.lit (.int .u64 (k : Int)), []) := plainElem_int Tryz.underlying22 (wf64 h)
/-- A map's block is none of the rows'. -/
theorem isr_mapped {W X : World} {b : Nat} {A : Option Addr} {l : List R} (h : IsR W A l) (hm : W.mapTurned X b) : IsR X A l := fun i x hx => by
  obtain ⟨bk, off, e, h1⟩ := h i x hx
  obtain ⟨es, cl, es', cl', hb, rfl⟩ := hm
  refine ⟨bk, off, e, fun j u hj => ?_⟩
  have hc := h1 j u hj
  have hne : bk ≠ b := fun e => by subst e; simp [World.cell?, hb] at hc
  exact (World.cell?_of_block (w := W) (ChangeMaps.heap_setBlock_other hb _ hne)).trans hc

/-! ### what a setting makes -/
/-- A node with its word, and all above it, with none. -/
def chainM (k v : Nat) : List R := (k, v) :: (ups 2 (par k)).map fun j => (j, 0)
theorem ups_lt : ∀ (n k : Nat) {j : Nat}, j ∈ ups n k → j ≤ k
  | 0, k, j, h => by simp [ups] at h
  | n + 1, k, j, h => by
    rw [ups] at h
    split at h
    · cases h
    · rcases List.mem_cons.1 h with rfl | h
      · exact Nat.le_refl _
      · exact Nat.le_trans (ups_lt n _ h) (par_le k)
theorem once_ups : ∀ (n k : Nat), ((ups n k).map fun j => ((j, 0) : R)).Pairwise fun x y => x.1 ≠ y.1
  | 0, k => List.Pairwise.nil
  | n + 1, k => by
    rw [ups]
    split
    · exact List.Pairwise.nil
    · rename_i h
      rw [List.map_cons]
      refine List.pairwise_cons.2 ⟨fun y hy e => ?_, once_ups n _⟩
      obtain ⟨j, hj, rfl⟩ := List.mem_map.1 hy
      have := ups_lt n _ hj
      have := par_lt h
      simp only at e
      omega
theorem once_chain {k : Nat} (hk : k ≠ 0) (v : Nat) : Once (chainM k v) := by
  refine List.pairwise_cons.2 ⟨fun y hy e => ?_, once_ups 2 _⟩
  obtain ⟨j, hj, rfl⟩ := List.mem_map.1 hy
  have := ups_lt 2 _ hj
  have := par_lt hk
  simp only at e
  omega
theorem ups_cons {k : Nat} (hk : k ≠ 0) : ups 3 k = k :: ups 2 (par k) := by rw [ups, if_neg hk]
theorem hasM_chain {k v j : Nat} (hk : k ≠ 0) : hasM (chainM k v) j = true ↔ j ∈ ups 3 k := by
  rw [hasM_iff, ups_cons hk, List.mem_cons]
  unfold chainM
  constructor
  · rintro ⟨x, hx, rfl⟩
    rcases List.mem_cons.1 hx with rfl | hx
    · exact .inl rfl
    · obtain ⟨i, hi, rfl⟩ := List.mem_map.1 hx; exact .inr hi
  · rintro (rfl | h)
    · exact ⟨_, List.mem_cons_self .., rfl⟩
    · exact ⟨(j, 0), List.mem_cons_of_mem _ (List.mem_map.2 ⟨j, h, rfl⟩), rfl⟩
/-- The rows behind a setting of a path that has no row: those that were, and what they lacked, in whatever order. -/
theorem set_perm {l : List R} (hu : Up l) {p : Nat} (hp : p ≠ 0) (v : Nat) (hn : Tb.get l p = none) : (setR l p v).Perm (l ++ lack l (chainM p (v + 1))) := by
  have nd : ∀ {m : List R}, Once m → m.Nodup := fun h => h.imp fun h e => h (by rw [e])
  have ho : Once (l ++ lack l (chainM p (v + 1))) := List.pairwise_append.2 ⟨once_up hu, once_lack (once_chain hp _), fun x hx y hy e => by
    have := (lack_mem.1 hy).2
    rw [hasM_iff.2 ⟨x, hx, e⟩] at this
    cases this⟩
  refine (List.perm_ext_iff_of_nodup (nd (once_up (up_set hu p v))) (nd ho)).2 fun ⟨j, u⟩ => ?_
  rw [← get_mem (up_set hu p v), get_set hu, List.mem_append, lack_mem, ← get_mem hu, hasM_get]
  by_cases e : j = p
  · subst e
    rw [if_pos rfl, hn]
    have : (j, u) ∈ chainM j (v + 1) ↔ u = v + 1 := by
      constructor
      · intro h; exact once_val (once_chain hp _) h (List.mem_cons_self ..)
      · rintro rfl; exact List.mem_cons_self ..
    simp [this, eq_comm]
  · rw [if_neg e]
    cases hg : Tb.get l j with
    | some x => simp
    | none =>
      have : (j, u) ∈ chainM p (v + 1) ↔ j ∈ ups 3 p ∧ u = 0 := by
        rw [ups_cons hp, List.mem_cons]
        unfold chainM
        rw [List.mem_cons, List.mem_map]
        constructor
        · rintro (h | ⟨i, hi, h⟩)
          · injection h with h; exact absurd h e
          · injection h with h1 h2; subst h1; exact ⟨.inr hi, h2.symm⟩
        · rintro ⟨h | h, rfl⟩
          · exact absurd h e
          · exact .inr ⟨j, h, rfl⟩
      simp only [this]
      by_cases hj : j ∈ ups 3 p
      · simp [hj, eq_comm]
      · simp [hj]
theorem set_count {l : List R} (hu : Up l) {p : Nat} (hp : p ≠ 0) (v : Nat) (hn : Tb.get l p = none) : l.length + (lack l (chainM p (v + 1))).length = (mk 3 l p).length := by
  rw [← len_set hu hp v, (set_perm hu hp v hn).length_eq, List.length_append]
theorem lack_pos {l : List R} {p v : Nat} (hn : Tb.get l p = none) : (p, v) ∈ lack l (chainM p v) := lack_mem.2 ⟨List.mem_cons_self .., by rw [hasM_get, hn]; rfl⟩
/-- Rows that rise, and hold the same in another order, are the same. -/
theorem up_perm {a b : List R} (ha : Up a) (hb : Up b) (h : a.Perm b) : a = b :=
  List.Perm.eq_of_pairwise (le := fun x y : R => x.1 < y.1) (fun _ _ _ _ h1 h2 => absurd h1 (Nat.lt_asymm h2)) ha hb h
/-- The rows that were met of a map, and all of them: in whatever order, the same. -/
theorem once_perm {a m : List R} (ha : Once a) (hm : Once m) (h : ∀ x, x ∈ a ↔ x ∈ m) : a.Perm m :=
  (List.perm_ext_iff_of_nodup (ha.imp fun h e => h (by rw [e])) (hm.imp fun h e => h (by rw [e]))).2 h
/-- A set of rows without a doubled key, whose sorted form. -/
theorem sort_is {s a t : List R} (ht : Up t) (hp : s.Perm a) (ha : a.Perm t) (hs : ∀ i j, (hi : i < s.length) → (hj : j < s.length) → i < j → ¬ s[j].1 < s[i].1) : s = t := by
  have hst : s.Perm t := hp.trans ha
  have ho : Once s := (hst.pairwise_iff (R := fun x y : R => x.1 ≠ y.1) (fun h e => h e.symm)).2 (once_up ht)
  refine up_perm ?_ ht hst
  refine List.pairwise_iff_getElem.2 fun i j hi hj hij => ?_
  have h1 := hs i j hi hj hij
  have h2 := List.pairwise_iff_getElem.1 ho i j hi hj hij
  omega
/-- A path that has a row is set in its place. -/
theorem mk_there : ∀ (n : Nat) {l : List R} (k : Nat), (∀ j ∈ ups n k, (Tb.get l j).isSome = true) → mk n l k = l
  | 0, _, _, _ => by rw [mk]
  | n + 1, l, k, h => by
    rw [mk]
    split
    · rfl
    · rename_i hk
      have e : ens l k = l := by unfold ens; rw [if_pos (h k (ups_self hk))]
      rw [e]
      exact mk_there n _ fun j hj => h j (by rw [ups, if_neg hk]; exact List.mem_cons_of_mem _ hj)
/-- Each node's parents have rows. -/
theorem kin_ups {l : List R} (hk : ∀ x ∈ l, Kin l x.1) : ∀ (n k : Nat), (Tb.get l k).isSome = true → ∀ j ∈ ups n k, (Tb.get l j).isSome = true
  | 0, k, _, j, hj => by simp [ups] at hj
  | n + 1, k, hg, j, hj => by
    rw [ups] at hj
    split at hj
    · cases hj
    · rcases List.mem_cons.1 hj with rfl | hj
      · exact hg
      · by_cases h0 : par k = 0
        · rw [h0] at hj; cases n <;> simp [ups] at hj
        · obtain ⟨v, hv⟩ := Option.isSome_iff_exists.1 hg
          exact kin_ups hk n (par k) (hk (k, v) (get_some hv) h0) j hj
/-- The parents of rows. -/
structure ParsOf (l m : List R) : Prop where
  has : ∀ k, hasM m k = true ↔ k ≠ 0 ∧ ∃ x ∈ l, par x.1 = k
  nil : ∀ x ∈ m, x.2 = 0
  len : m.length ≤ l.length
theorem pars_nil : ParsOf [] [] := ⟨fun k => by rw [hasM_iff]; constructor <;> (rintro ⟨_, h⟩; simp at *), (fun x hx => by cases hx), Nat.le_refl _⟩
theorem pars_zero {l m : List R} {x : R} (h : ParsOf l m) (hx : par x.1 = 0) : ParsOf (l ++ [x]) m := by
  refine ⟨fun k => ?_, h.nil, by simp; have := h.len; omega⟩
  rw [h.has]
  refine and_congr_right fun hk => ⟨fun ⟨y, hy, e⟩ => ⟨y, List.mem_append_left _ hy, e⟩, ?_⟩
  rintro ⟨y, hy, e⟩
  rcases List.mem_append.1 hy with hy | hy
  · exact ⟨y, hy, e⟩
  · rw [List.mem_singleton.1 hy, hx] at e; exact absurd e.symm hk
theorem pars_old {l m : List R} {x : R} (h : ParsOf l m) (hx : hasM m (par x.1) = true) : ParsOf (l ++ [x]) m := by
  refine ⟨fun k => ?_, h.nil, by simp; have := h.len; omega⟩
  constructor
  · intro g
    obtain ⟨g1, y, hy, e⟩ := (h.has k).1 g
    exact ⟨g1, y, List.mem_append_left _ hy, e⟩
  · rintro ⟨g1, y, hy, e⟩
    rcases List.mem_append.1 hy with hy | hy
    · exact (h.has k).2 ⟨g1, y, hy, e⟩
    · rw [List.mem_singleton.1 hy] at e; rw [← e]; exact hx
theorem pars_new {l m : List R} {x : R} (h : ParsOf l m) (hx : par x.1 ≠ 0) : ParsOf (l ++ [x]) (m ++ [(par x.1, 0)]) := by
  refine ⟨fun k => ?_, fun y hy => ?_, by simp; exact h.len⟩
  · rw [hasM_snoc, Bool.or_eq_true, h.has, beq_iff_eq]
    constructor
    · rintro (⟨g1, y, hy, e⟩ | rfl)
      · exact ⟨g1, y, List.mem_append_left _ hy, e⟩
      · exact ⟨hx, x, List.mem_append_right _ (List.mem_singleton.2 rfl), rfl⟩
    · rintro ⟨g1, y, hy, e⟩
      rcases List.mem_append.1 hy with hy | hy
      · exact .inl ⟨g1, y, hy, e⟩
      · rw [List.mem_singleton.1 hy] at e; exact .inr e
  · rcases List.mem_append.1 hy with hy | hy
    · exact h.nil y hy
    · rw [List.mem_singleton.1 hy]
theorem pars_kin {l m : List R} (h : ParsOf l m) : (lack l m).length = 0 ↔ ∀ x ∈ l, Kin l x.1 := by
  rw [List.length_eq_zero_iff]
  unfold lack
  rw [List.filter_eq_nil_iff]
  constructor
  · intro g x hx hp
    obtain ⟨y, hy, e⟩ := hasM_iff.1 ((h.has (par x.1)).2 ⟨hp, x, hx, rfl⟩)
    have := g y hy
    rw [e] at this
    rw [← hasM_get]
    simpa using this
  · intro g y hy
    obtain ⟨g1, x, hx, e⟩ := (h.has y.1).1 (hasM_iff.2 ⟨y, hy, rfl⟩)
    have := g x hx (by rw [e]; exact g1)
    rw [e, ← hasM_get] at this
    simp [this]
end Go.Proofs.YtnepdbfnbikplaaGreatDoor

namespace Go.Proofs.YtnepdbfnbikplaaGreatDoor
open Go.RowKit Tb Pt Opn

/-- The names of an array, one by one. -/
theorem nm_at (a b c : Int) (W : World) : (Instr.index 128 (.agg #[.int .u64 a, .int .u64 b, .int .u64 c]) (.int .i64 0)).run Tryz.prog W = .ok (.int .u64 a) W ∧ (Instr.index 128 (.agg #[.int .u64 a, .int .u64 b, .int .u64 c]) (.int .i64 1)).run Tryz.prog W = .ok (.int .u64 b) W ∧ (Instr.index 128 (.agg #[.int .u64 a, .int .u64 b, .int .u64 c]) (.int .i64 2)).run Tryz.prog W = .ok (.int .u64 c) W :=
  ⟨by kernel_rfl, by kernel_rfl, by kernel_rfl⟩

set_option maxHeartbeats 1000000 in
theorem qNames_any (k a b c : Nat) (hk : k < 18446744073709551616) (h1 : k / 65536 / 65536 = a) (h2 : k / 65536 % 65536 = b) (h3 : k % 65536 = c) (w : World) : Calls Tryz.prog 112 #[.int .u64 k] w (Ret (.agg #[.int .u64 a, .int .u64 b, .int .u64 c]) w) := by
  obtain ⟨d, hd⟩ : ∃ d, k / 65536 = d := ⟨_, rfl⟩
  have w1 : IntKind.u64.wrap ((k : Int) / 65536) = (d : Int) := by rw [IntKind.wrap_u64]; omega
  have w2 : IntKind.u64.wrap ((d : Int) / 65536) = (a : Int) := by rw [IntKind.wrap_u64]; omega
  have w3 : (d : Int) % 65536 = (b : Int) := by omega
  have w4 : (k : Int) % 65536 = (c : Int) := by omega
  clear h1 h2 h3 hd hk
  go_enter Tryz.func112, Tryz.ntmps112
  go_wp2
  refine bodyPost_ret (v := .agg #[.int .u64 (a : Int), .int .u64 (b : Int), .int .u64 (c : Int)]) ?_ rfl ⟨rfl, ?_⟩
  · simp [results, Tryz.results112, go_sem]
  · exact below_one _ _

set_option maxHeartbeats 2000000 in
theorem qNamed_any (o : O) (ho : Wf o) (w : World) : Calls Tryz.prog 118 #[opv o] w (Ret (.agg #[.int .u64 (o.a % 65536 : Nat), .int .u64 (o.a / 65536 : Nat), .int .u64 (o.b : Nat)]) w) := by
  have hA := ho.2.1
  have hB := ho.2.2.1
  have e1 : IntKind.u64.wrap (o.a : Int) = (o.a : Int) := by rw [IntKind.wrap_u64]; omega
  have e3 : IntKind.u64.wrap (o.b : Int) = (o.b : Int) := by rw [IntKind.wrap_u64]; omega
  have w1 : IntKind.u64.wrap ((o.a : Int) / 65536) = (o.a : Int) / 65536 := by rw [IntKind.wrap_u64]; omega
  clear ho hA hB
  unfold opv
  go_enter Tryz.func118, Tryz.ntmps118
  go_wp2
  have e1 : ((o.a % 65536 : Nat) : Int) = (o.a : Int) % 65536 := by omega
  have e2 : ((o.a / 65536 : Nat) : Int) = (o.a : Int) / 65536 := by omega
  rw [e1, e2]
  refine bodyPost_ret (v := .agg #[.int .u64 ((o.a : Int) % 65536), .int .u64 ((o.a : Int) / 65536), .int .u64 (o.b : Int)]) ?_ rfl ⟨rfl, ?_⟩
  · simp [results, Tryz.results118, go_sem]
  · exact below_two _ _ _

set_option maxRecDepth 100000 in
set_option maxHeartbeats 2000000 in
theorem qKey_any (a b c z : Nat) (hz : a * 4294967296 + b * 65536 + c = z) (h : z < 18446744073709551616) (w : World) : Calls Tryz.prog 117 #[.agg #[.int .u64 a, .int .u64 b, .int .u64 c]] w (Ret (.int .u64 z) w) := by
  have e1 : IntKind.u64.wrap (a : Int) = (a : Int) := by rw [IntKind.wrap_u64]; omega
  have e2 : IntKind.u64.wrap ((a : Int) * 65536) = (a : Int) * 65536 := by rw [IntKind.wrap_u64]; omega
  have e3 : IntKind.u64.wrap ((a : Int) * 65536 + (b : Int)) = (a : Int) * 65536 + (b : Int) := by rw [IntKind.wrap_u64]; omega
  have e4 : IntKind.u64.wrap (((a : Int) * 65536 + (b : Int)) * 65536) = ((a : Int) * 65536 + (b : Int)) * 65536 := by rw [IntKind.wrap_u64]; omega
  have e5 : IntKind.u64.wrap (((a : Int) * 65536 + (b : Int)) * 65536 + (c : Int)) = (z : Int) := by rw [IntKind.wrap_u64]; omega
  have HZ := Lib.hid (And.intro hz h)
  clear hz h
  have n0 := fun a b c W => (nm_at a b c W).1
  have n1 := fun a b c W => (nm_at a b c W).2.1
  have n2 := fun a b c W => (nm_at a b c W).2.2
  go_enter Tryz.func117, Tryz.ntmps117
  go_wp2
  refine wp_loop_rounds 4 ?_
  rw [rounds_succ]
  go_wp2
  rw [rounds_succ]
  go_wp2
  rw [rounds_succ]
  go_wp2
  rw [rounds_succ]
  go_wp2
  go_ret
  exact Ret.mk rfl (below_one _ _)

set_option maxRecDepth 100000 in
set_option maxHeartbeats 4000000 in
theorem qIsPath_any (k a b c : Nat) (h1 : k / 4294967296 = a) (h2 : k / 65536 % 65536 = b) (h3 : k % 65536 = c) (w : World) : Calls Tryz.prog 111 #[.agg #[.int .u64 a, .int .u64 b, .int .u64 c]] w (Ret (.bool (decide (IsPa k))) w) := by
  obtain ⟨s, hs⟩ : ∃ s, decide (IsPa k) = s := ⟨_, rfl⟩
  rw [hs]
  replace hs : s = true ↔ IsPa k := by rw [← hs]; exact decide_eq_true_iff
  unfold IsPa at hs
  rw [h1, h2, h3] at hs
  have hb : b < 65536 := by omega
  have hc : c < 65536 := by omega
  have HS := Lib.hid (And.intro hs (And.intro hb hc))
  clear h1 h2 h3 hs hb hc
  have n0 := fun a b c W => (nm_at a b c W).1
  have n1 := fun a b c W => (nm_at a b c W).2.1
  have n2 := fun a b c W => (nm_at a b c W).2.2
  go_enter Tryz.func111, Tryz.ntmps111
  go_wp2
  refine wp_loop_rounds 4 ?_
  rw [rounds_succ]
  go_wp2
  all_goals (try (rw [rounds_succ]; go_wp2))
  all_goals (try (rw [rounds_succ]; go_wp2))
  all_goals (try (rw [rounds_succ]; go_wp2))
  all_goals go_ret
  all_goals
    obtain ⟨hs, hb, hc⟩ := HS.out
    refine Ret.mk (bool_eq ?_) (below_one _ _)
    rw [Bool.eq_iff_iff, hs]
    clear HS hs n0 n1 n2
    grind

set_option maxRecDepth 100000 in
set_option maxHeartbeats 8000000 in
theorem qParent_any (k : Nat) (hk : k < 18446744073709551616) (w : World) : Calls Tryz.prog 113 #[.int .u64 k] w (Ret (.int .u64 (par k : Nat)) w) := by
  obtain ⟨a, ha⟩ : ∃ a, k / 65536 / 65536 = a := ⟨_, rfl⟩
  obtain ⟨b, hb⟩ : ∃ b, k / 65536 % 65536 = b := ⟨_, rfl⟩
  obtain ⟨c, hc⟩ : ∃ c, k % 65536 = c := ⟨_, rfl⟩
  have HN := Lib.hid (fun W => qNames_any k a b c hk ha hb hc W)
  have hp : par k = if c ≠ 0 then a * 4294967296 + b * 65536 + 0 else if b ≠ 0 then a * 4294967296 + 0 * 65536 + 0 else 0 * 4294967296 + 0 * 65536 + 0 := by
    unfold par
    rw [hc, hb]
    split
    · omega
    · split <;> omega
  have hlt : par k < 18446744073709551616 := Nat.lt_of_le_of_lt (par_le k) hk
  have HK := Lib.hid (fun x y z h W => qKey_any x y z (par k) h hlt W)
  generalize par k = p at *
  clear ha hb hc hk hlt
  have n0 := fun a b c W => (nm_at a b c W).1
  have n1 := fun a b c W => (nm_at a b c W).2.1
  have n2 := fun a b c W => (nm_at a b c W).2.2
  have HP := Lib.hid hp
  clear hp
  rcases Nat.eq_zero_or_pos c with rfl | hc
  · rcases Nat.eq_zero_or_pos b with rfl | hb
    · have HK2 := Lib.hid (HK.out 0 0 0 (by rw [HP.out]; simp))
      clear HK HP
      go_enter Tryz.func113, Tryz.ntmps113
      go_wp2_with (go_at_call 112; refine (HN.out _).mono ?_; rintro e w1 ⟨rfl, hb1⟩; obtain ⟨hc1, hf1⟩ := bcell hb1)
      refine wp_loop_rounds 4 ?_
      rw [rounds_succ]
      go_wp2
      all_goals (try (rw [rounds_succ]; go_wp2))
      all_goals (try (rw [rounds_succ]; go_wp2))
      all_goals (try (rw [rounds_succ]; go_wp2_with (go_at_call 117; refine (HK2.out _).mono ?_; rintro e w2 ⟨rfl, hb2⟩)))
      all_goals
        go_ret
        exact Ret.mk rfl (below_then (below_then hb1 (below_one _ _)) hb2)
    · have HK2 := Lib.hid (HK.out a 0 0 (by rw [HP.out, if_neg (by simp), if_pos (by omega)]))
      have hb2 : ((b : Int) != 0) = true := bne_iff_ne.2 (by omega)
      clear HK HP
      go_enter Tryz.func113, Tryz.ntmps113
      go_wp2_with (go_at_call 112; refine (HN.out _).mono ?_; rintro e w1 ⟨rfl, hb1⟩; obtain ⟨hc1, hf1⟩ := bcell hb1)
      refine wp_loop_rounds 4 ?_
      rw [rounds_succ]
      go_wp2
      all_goals (try (rw [rounds_succ]; go_wp2))
      all_goals (try (rw [rounds_succ]; go_wp2))
      all_goals (try (rw [rounds_succ]; go_wp2_with (go_at_call 117; refine (HK2.out _).mono ?_; rintro e w2 ⟨rfl, hbk⟩)))
      all_goals
        go_ret
        exact Ret.mk rfl (below_then (below_then hb1 (below_one _ _)) hbk)
  · have HK2 := Lib.hid (HK.out a b 0 (by rw [HP.out, if_pos (by omega)]))
    have hc2 : ((c : Int) != 0) = true := bne_iff_ne.2 (by omega)
    clear HK HP
    go_enter Tryz.func113, Tryz.ntmps113
    go_wp2_with (go_at_call 112; refine (HN.out _).mono ?_; rintro e w1 ⟨rfl, hb1⟩; obtain ⟨hc1, hf1⟩ := bcell hb1)
    refine wp_loop_rounds 4 ?_
    rw [rounds_succ]
    go_wp2
    all_goals (try (rw [rounds_succ]; go_wp2))
    all_goals (try (rw [rounds_succ]; go_wp2))
    all_goals (try (rw [rounds_succ]; go_wp2_with (go_at_call 117; refine (HK2.out _).mono ?_; rintro e w2 ⟨rfl, hb2⟩)))
    all_goals
      go_ret
      exact Ret.mk rfl (below_then (below_then hb1 (below_one _ _)) hb2)
end Go.Proofs.YtnepdbfnbikplaaGreatDoor

namespace Go.Proofs.YtnepdbfnbikplaaGreatDoor
open Go.RowKit Go.Lib Tb Pt Opn

set_option maxRecDepth 100000 in
set_option maxHeartbeats 1000000 in
theorem qisOf_any (c : Cf) (w : World) : Calls Tryz.prog 106 #[cfv c] w (Ret (.bool (decide (Ok c ∧ c.obj = 4))) w) := by
  have HC := Lib.hid (check_any c)
  have e : decide (Ok c ∧ c.obj = 4) = (okB c && decide (c.obj = 4)) := by unfold okB; rw [Bool.eq_iff_iff]; simp
  rw [e]
  clear e
  generalize okB c = k at *
  unfold cfv at *
  go_enter Tryz.func106, Tryz.ntmps106
  go_wp2_with (go_at_call 12; refine (HC.out _).mono ?_; rintro e w1 ⟨rfl, hb1⟩; obtain ⟨hc1, hf1⟩ := bcell hb1)
  all_goals go_ret
  all_goals refine Ret.mk (bool_eq ?_) (below_b1 hb1)
  · rename_i h
    cases k with
    | true => rw [Bool.eq_iff_iff]; simp
    | false => exact absurd h (by decide)
  · rename_i h
    cases k with
    | true => exact absurd rfl h
    | false => rfl

/-- Rows lie in no map. -/
theorem isr_grown {W X : World} {b n : Nat} {m : List R} {A : Option Addr} {l : List R} (h : IsR W A l) (hm : IsMp W b n m) (hg : W.grownBy X (some b)) : IsR X A l := fun i x hx => by
  obtain ⟨bk, off, e, h1⟩ := h i x hx
  obtain ⟨D, ⟨es, cl, hb, _⟩, _⟩ := hm
  refine ⟨bk, off, e, fun j u hj => ?_⟩
  have hc := h1 j u hj
  have hne : bk ≠ b := fun e => by subst e; simp [World.cell?, hb] at hc
  exact (World.cell?_of_block (w := W) (hg.block bk (World.block_lt_of_cell? _ _ hc) (fun e => hne (by injection e)))).trans hc
theorem made_map_ne {W : World} {b n B : Nat} {m : List R} {v : Value} {l : List R} (h : MadeX W B 44 2 rowL v l) (hm : IsMp W b n m) : v.ownBlock = none ∨ v.ownBlock ≠ some b := by
  rcases h.2 with ⟨rfl, _⟩ | ⟨g, cap, cur, rfl, _, h3, _⟩
  · exact .inl rfl
  · refine .inr fun e => ?_
    obtain ⟨D, ⟨es, cl, hb, _⟩, _⟩ := hm
    have e' : g = b := by simpa [Value.ownBlock] using e
    subst e'
    rw [hb] at h3
    cases h3

set_option maxRecDepth 100000 in
set_option maxHeartbeats 4000000 in
theorem lacking_any (b n : Nat) (m : List R) (A : Option Addr) (l : List R) (d : Nat) (hl : l.length ≤ 1000000) (hw64 : ∀ x ∈ l, x.1 < 18446744073709551616) (w : World) (h : IsR w A l) (hm : IsMp w b n m) :
    Calls Tryz.prog 114 #[.map (some b), .slice A l.length d] w fun e w' => e = .returned (.map (some b)) ∧ IsMp w' b n (lack l m) ∧ w.grownBy w' (some b) := by
  have HA := Lib.hid h
  have HM := Lib.hid hm
  have HWW := Lib.hid hw64
  clear h hm hw64
  obtain ⟨N, hN⟩ : ∃ N, l.length = N := ⟨_, rfl⟩
  have HN := Lib.hid hN
  rw [hN] at hl ⊢
  clear hN
  obtain ⟨T, hT⟩ : ∃ T, lack l m = T := ⟨_, rfl⟩
  have HT := Lib.hid hT
  rw [hT]
  clear hT
  go_enter Tryz.func114, Tryz.ntmps114
  go_wp2
  go_loopw [9] (fun iv wr => ∃ j : Nat, j ≤ N ∧ iv = .int .i64 j ∧ Hid (IsMp wr b n (lack (l.take j) m) ∧ w.grownBy wr (some b))) (fun iv _ => N - (intOf iv).toNat)
  case atStart => exact ⟨0, Nat.zero_le _, rfl, Lib.hid ⟨by rw [List.take_zero, lack_nil]; exact HM.out, World.grownBy.refl w _⟩⟩
  case round =>
    obtain ⟨j, hj, rfl, HR⟩ := hrel
    have i1 : (0 : Int) ≤ (j : Int) := by omega
    by_cases hlt : j < N
    · have j1 : j < l.length := by rw [HN.out]; exact hlt
      have i2 : (j : Int) < (N : Int) := by omega
      obtain ⟨bk, off, rfl, h1, h2⟩ := (isr_grown HA.out HM.out HR.out.2).row j1
      have hk := HWW.out _ (List.getElem_mem j1)
      have HST := Lib.hid (show ∀ X k, (l[j]'j1).1 = k → IsMp X b n ((lack (l.take j) m).filter fun y => y.1 != k) → IsMp X b n (lack (l.take (j + 1)) m) from fun X k e g => by
        rw [List.take_succ_eq_append_getElem j1, lack_snoc, e]; exact g)
      obtain ⟨x, hx⟩ : ∃ x, (l[j]'j1).1 = x := ⟨_, rfl⟩
      obtain ⟨y, hy⟩ : ∃ y, (l[j]'j1).2 = y := ⟨_, rfl⟩
      rw [hx] at h1 hk
      rw [hy] at h2
      have HX := Lib.hid hx
      have HK := Lib.hid (key64 hk)
      clear hx hy hk
      obtain ⟨⟨D, hown, hrep⟩, hgr⟩ := HR.out
      have HOW := Lib.hid hown
      have HRP := Lib.hid hrep
      have HGR := Lib.hid hgr
      clear hown hrep hgr HR
      go_wp2_with (at_delete; refine wpList_delete_own _ rfl _ _ 125 22 rfl 22 lawK Tryz.underlying125 _ b n D rfl (HOW.out.alloc _) _ _ rfl HK.out ?_; intro w1 hown1 hturn1; have HO1 := Lib.hid hown1; have HT1 := Lib.hid hturn1; clear hown1 hturn1)
      go_roundw
      case rel => exact ⟨j + 1, by omega, by go_num, Lib.hid ⟨HST.out _ x HX.out ⟨_, HO1.out, rep_del HRP.out x⟩, HGR.out.andThen (row' := some b) ((World.grownBy_alloc _ _ (some b)).andThen (row' := some b) HT1.out.grown (fun _ h => .inr h)) (fun _ h => .inr h)⟩⟩
      case measure => simp [intOf]; omega
    · obtain rfl : j = N := by omega
      have i2 : ¬ (j : Int) < (j : Int) := by omega
      go_wp2
      go_ret
      refine ⟨rfl, ?_, HR.out.2⟩
      have g := HR.out.1
      rw [← HN.out, List.take_length, HT.out] at g
      exact g

theorem own_below {P : Program} {k : TypeId} {R' : Value → Option (DataW Unit × List MemPlace)} {W X : World} {b n : Nat} {D : DataW Unit} (h : W.ownsMap P k R' b n D) (hb : Below W.heap.size W X) : X.ownsMap P k R' b n D :=
  h.kept (row := none) ⟨hb.os, hb.tape, hb.output, hb.size, fun i hi _ => hb.block i hi⟩ (by simp)
/-- How far rows are good: the first j, and the last key. -/
def GoodP (l : List R) (j a : Nat) : Prop := Up (l.take j) ∧ (∀ x ∈ l.take j, PaOk x ∧ x.1 ≤ a) ∧ (a = 0 ∨ ∃ x ∈ l.take j, x.1 = a)
theorem goodP_zero (l : List R) : GoodP l 0 0 := ⟨List.Pairwise.nil, fun x hx => by simp at hx, .inl rfl⟩
theorem goodP_step {l : List R} {j a : Nat} (h : GoodP l j a) (hj : j < l.length) (h1 : a < l[j].1) (h2 : PaOk l[j]) : GoodP l (j + 1) l[j].1 := by
  obtain ⟨g1, g2, g3⟩ := h
  unfold GoodP
  rw [List.take_succ_eq_append_getElem hj]
  refine ⟨?_, fun x hx => ?_, .inr ⟨l[j], List.mem_append_right _ (List.mem_singleton.2 rfl), rfl⟩⟩
  · unfold Up
    rw [List.pairwise_append]
    exact ⟨g1, List.pairwise_singleton _ _, fun x hx y hy => by rw [List.mem_singleton.1 hy]; exact Nat.lt_of_le_of_lt (g2 x hx).2 h1⟩
  · rcases List.mem_append.1 hx with hx | hx
    · exact ⟨(g2 x hx).1, by have := (g2 x hx).2; omega⟩
    · rw [List.mem_singleton.1 hx]; exact ⟨h2, Nat.le_refl _⟩
theorem goodP_not {l : List R} {j a : Nat} (h : GoodP l j a) (hj : j < l.length) (h1 : ¬ (a < l[j].1 ∧ PaOk l[j])) : ¬ (Up l ∧ ∀ x ∈ l, PaOk x ∧ Kin l x.1) := fun ⟨hu, hr⟩ => by
  obtain ⟨g1, g2, g3⟩ := h
  have hp := (hr _ (List.getElem_mem hj)).1
  refine h1 ⟨?_, hp⟩
  rcases g3 with rfl | ⟨x, hx, rfl⟩
  · have := hp.1.1; omega
  · obtain ⟨m, hm, rfl⟩ := List.getElem_of_mem hx
    rw [List.length_take] at hm
    rw [List.getElem_take]
    exact up_lt hu (by omega) hj
theorem goodP_all {l : List R} {a : Nat} (h : GoodP l l.length a) : Up l ∧ ∀ x ∈ l, PaOk x := by
  obtain ⟨g1, g2, _⟩ := h
  rw [List.take_length] at g1 g2
  exact ⟨g1, fun x hx => (g2 x hx).1⟩

set_option maxRecDepth 100000 in
set_option maxHeartbeats 8000000 in
theorem pare_any (c : Cf) (A : Option Addr) (l : List R) (d : Nat) (hl : l.length ≤ 1000000) (hw64 : ∀ x ∈ l, x.1 < 18446744073709551616) (w : World) (h : IsR w A l) :
    Calls Tryz.prog 107 #[cfv c, .slice A l.length d] w (Ret (.bool (decide ((l.length : Int) ≤ c.cap ∧ Up l ∧ ∀ x ∈ l, PaOk x ∧ Kin l x.1))) w) := by
  have HA := Lib.hid h
  have HWW := Lib.hid hw64
  have HLA := Lib.hid (fun b n m W hA hm => lacking_any b n m A l d hl hw64 W hA hm)
  clear h hw64
  obtain ⟨N, hN⟩ : ∃ N, l.length = N := ⟨_, rfl⟩
  rw [hN] at hl HLA ⊢
  have HN := Lib.hid hN
  clear hN
  unfold cfv
  by_cases hcap : (N : Int) ≤ c.cap
  · obtain ⟨u, hu⟩ : ∃ u, decide ((N : Int) ≤ c.cap ∧ Up l ∧ ∀ x ∈ l, PaOk x ∧ Kin l x.1) = u := ⟨_, rfl⟩
    rw [hu]
    have HU := Lib.hid hu
    clear hu
    have hc2 : ¬ c.cap < (N : Int) := by omega
    have hmm := @run_makeMap Tryz.prog
    go_enter Tryz.func107, Tryz.ntmps107
    go_wp2
    obtain ⟨W, hW⟩ : ∃ W, W = w.alloc (.cells #[.int .u8 c.obj, .int .i64 c.inst, .int .i64 c.thr, .int .u8 c.kind, .int .i64 c.str, .int .i64 c.bits, .int .i64 c.cap, .int .i64 c.node, .int .i64 c.bat, .int .i64 c.chunk, .int .u64 c.lim, .int .u64 c.most] 24) := ⟨_, rfl⟩
    have hb2 : Below w.heap.size w W := by rw [hW]; exact below_one _ _
    rw [← hW]
    have HA2 := Lib.hid (HA.out.below hb2)
    have HWS := Lib.hid (show W.heap.size = w.heap.size + 1 by rw [hW]; simp)
    clear hW
    go_loopw [5, 18] (fun av iv wr => Below W.heap.size W wr ∧ ∃ a j : Nat, ∃ m : List R, j ≤ N ∧ av = .int .u64 a ∧ iv = .int .i64 j ∧ Hid (GoodP l j a ∧ ParsOf (l.take j) m ∧ IsMp wr (w.heap.size + 1) j m)) (fun _ iv _ => N - (intOf iv).toNat)
    case atStart => exact ⟨below_one _ _, 0, 0, [], Nat.zero_le _, rfl, rfl, Lib.hid ⟨goodP_zero l, by rw [List.take_zero]; exact pars_nil, by rw [← HWS.out]; exact isMp_made W⟩⟩
    case round =>
      obtain ⟨hbr, a, j, m, hj, rfl, rfl, HR⟩ := hrel
      have i1 : (0 : Int) ≤ (j : Int) := by omega
      by_cases hlt : j < N
      · have j1 : j < l.length := by rw [HN.out]; exact hlt
        have i2 : (j : Int) < (N : Int) := by omega
        obtain ⟨bk, off, rfl, h1, h2⟩ := HA2.out.row j1
        replace h1 := (hbr.cell (World.block_lt_of_cell? _ _ h1)).trans h1
        replace h2 := (hbr.cell (World.block_lt_of_cell? _ _ h2)).trans h2
        have hk := HWW.out _ (List.getElem_mem j1)
        have hs := goodP_step HR.out.1 j1
        have hf := goodP_not HR.out.1 j1
        have hz := @pars_zero (l.take j) m l[j] HR.out.2.1
        have ho := @pars_old (l.take j) m l[j] HR.out.2.1
        have hn := @pars_new (l.take j) m l[j] HR.out.2.1
        rw [← List.take_succ_eq_append_getElem j1] at hz ho hn
        obtain ⟨x, hx⟩ : ∃ x, (l[j]'j1).1 = x := ⟨_, rfl⟩
        obtain ⟨y, hy⟩ : ∃ y, (l[j]'j1).2 = y := ⟨_, rfl⟩
        have hxy : l[j] = (x, y) := Prod.ext hx hy
        rw [hxy] at hs hf hz ho hn hk
        rw [hx] at h1
        rw [hy] at h2
        simp only at hs hf hz ho hn hk
        unfold PaOk at hs hf
        simp only at hs hf
        have HPA := Lib.hid (qParent_any x hk)
        have HNM := Lib.hid (qNames_any x (x / 4294967296) (x / 65536 % 65536) (x % 65536) hk (by omega) rfl rfl)
        have HIP := Lib.hid (qIsPath_any x (x / 4294967296) (x / 65536 % 65536) (x % 65536) rfl rfl rfl)
        obtain ⟨z, hzz⟩ : ∃ z, decide (IsPa x) = z := ⟨_, rfl⟩
        rw [hzz] at HIP
        have HZ := Lib.hid hzz
        obtain ⟨p, hp⟩ : ∃ p, par x = p := ⟨_, rfl⟩
        have hpk : p < 18446744073709551616 := by rw [← hp]; exact Nat.lt_of_le_of_lt (par_le x) hk
        rw [hp] at HPA hz ho hn
        have HKY := Lib.hid (key64 hpk)
        have HPP := Lib.hid (And.intro hz (And.intro ho hn))
        have HGS := Lib.hid (And.intro hs hf)
        obtain ⟨na, hna⟩ : ∃ q, x / 4294967296 = q := ⟨_, rfl⟩
        obtain ⟨nb, hnb⟩ : ∃ q, x / 65536 % 65536 = q := ⟨_, rfl⟩
        obtain ⟨nc, hnc⟩ : ∃ q, x % 65536 = q := ⟨_, rfl⟩
        rw [hna, hnb, hnc] at HNM HIP
        clear hs hf hz ho hn hx hy hxy hzz hp hpk hna hnb hnc hk
        by_cases hg : a < x ∧ z = true ∧ y ≤ 2147483648
        · obtain ⟨g1, rfl, g3⟩ := hg
          have k1 : ¬ (x : Int) ≤ (a : Int) := by omega
          have k3 : ¬ (y : Int) > 2147483648 := by omega
          have HS := Lib.hid (HGS.out.1 g1 ⟨of_decide_eq_true HZ.out, g3⟩)
          clear HGS HZ g1 g3
          by_cases hp0 : p = 0
          · subst hp0
            go_wp2_with (first
              | (go_at_call 112; refine (HNM.out _).mono ?_; rintro e w2 ⟨rfl, hb2⟩; obtain ⟨hc2, hf2⟩ := bcell hb2)
              | (go_at_call 111; refine (HIP.out _).mono ?_; rintro e w3 ⟨rfl, hb3⟩; replace hb2 := below_then hb2 hb3; clear hc2 hf2 hb3; obtain ⟨hc2, hf2⟩ := bcell hb2)
              | (go_at_call 113; refine (HPA.out _).mono ?_; rintro e w4 ⟨rfl, hb4⟩; replace hb2 := below_then hb2 hb4; clear hc2 hf2 hb4; obtain ⟨hc2, hf2⟩ := bcell hb2))
            go_roundw
            case rel => exact ⟨below_then (below_then hbr (below_one _ _)) hb2, x, j + 1, m, by omega, rfl, by go_num, Lib.hid ⟨HS.out, HPP.out.1 (by simp), IsMp.below (IsMp.mono HR.out.2.2 (by omega)) (below_then (below_one _ _) hb2)⟩⟩
            case measure => simp [intOf]; omega
          · have hp2 : ((p : Int) != 0) = true := bne_iff_ne.2 (by omega)
            obtain ⟨hgood, hpars, ⟨D, hown, hrep⟩⟩ := HR.out
            have HOW := Lib.hid hown
            have HRP := Lib.hid (And.intro hpars hrep)
            clear hgood hpars hown hrep HR
            go_wp2_with (first
              | (go_at_call 112; refine (HNM.out _).mono ?_; rintro e w2 ⟨rfl, hb2⟩; obtain ⟨hc2, hf2⟩ := bcell hb2)
              | (go_at_call 111; refine (HIP.out _).mono ?_; rintro e w3 ⟨rfl, hb3⟩; replace hb2 := below_then hb2 hb3; clear hc2 hf2 hb3; obtain ⟨hc2, hf2⟩ := bcell hb2)
              | (go_at_call 113; refine (HPA.out _).mono ?_; rintro e w4 ⟨rfl, hb4⟩; replace hb2 := below_then hb2 hb4; clear hc2 hf2 hb4; obtain ⟨hc2, hf2⟩ := bcell hb2)
              | (at_mapUpdate; refine wpList_mapUpdate_own _ rfl _ _ _ 125 rfl 22 22 lawK Tryz.underlying125 _ (w.heap.size + 1) j D rfl (own_below HOW.out (below_then (below_one _ _) hb2)) (by unfold maxLen; omega) _ _ _ rfl rfl HKY.out _ [] (elem64 (k := 0) (by omega)) ?_; intro w5 hown5 hg5; have HO5 := Lib.hid hown5; have HG5 := Lib.hid hg5; clear hown5 hg5))
            have HBF := Lib.hid ((below_then (below_then hbr (below_one _ _)) hb2).grown HG5.out (below_then (below_then hbr (below_one _ _)) hb2).size (fun k hk => by injection hk with hk; rw [← hk, HWS.out]; exact Nat.le_refl _))
            obtain ⟨m', hm'⟩ : ∃ m', Hid (ParsOf (l.take (j + 1)) m' ∧ IsMp w5 (w.heap.size + 1) (j + 1) m') := by
              by_cases hh : hasM m p = true
              · obtain ⟨y', hy', e'⟩ := hasM_iff.1 hh
                have : y'.2 = 0 := HRP.out.1.nil _ hy'
                have hmem : (p, 0) ∈ m := by rw [← e', ← this]; exact hy'
                exact ⟨m, Lib.hid ⟨HPP.out.2.1 hh, _, HO5.out, rep_same HRP.out.2 hmem⟩⟩
              · exact ⟨m ++ [(p, 0)], Lib.hid ⟨HPP.out.2.2 hp0, _, HO5.out, rep_new HRP.out.2 0 (Bool.eq_false_iff.2 hh)⟩⟩
            go_roundw
            case rel => exact ⟨HBF.out, x, j + 1, m', by omega, rfl, by go_num, Lib.hid ⟨HS.out, hm'.out⟩⟩
            case measure => simp [intOf]; omega
        · have e : u = false := by
            rw [← HU.out]; exact decide_eq_false fun g => HGS.out.2 (fun g' => hg ⟨g'.1, by rw [← HZ.out]; exact decide_eq_true g'.2.1, g'.2.2⟩) g.2
          subst e
          clear HGS
          rcases (by cases z <;> simp at hg ⊢ <;> omega : x ≤ a ∨ (¬ x ≤ a ∧ z = false) ∨ (¬ x ≤ a ∧ z = true ∧ 2147483648 < y)) with k1 | ⟨k1, rfl⟩ | ⟨k1, rfl, k3⟩
          · have k1 : (x : Int) ≤ (a : Int) := by omega
            go_wp2
            go_ret
            exact Ret.mk rfl (hb2.trans ((below_then hbr (below_one _ _)).mono hb2.size))
          · have k1 : ¬ (x : Int) ≤ (a : Int) := by omega
            go_wp2_with (first
              | (go_at_call 112; refine (HNM.out _).mono ?_; rintro e w2 ⟨rfl, hbb⟩; obtain ⟨hc2, hf2⟩ := bcell hbb)
              | (go_at_call 111; refine (HIP.out _).mono ?_; rintro e w3 ⟨rfl, hb3⟩; replace hbb := below_then hbb hb3; clear hc2 hf2 hb3; obtain ⟨hc2, hf2⟩ := bcell hbb))
            go_ret
            exact Ret.mk rfl (hb2.trans ((below_then (below_then hbr (below_one _ _)) hbb).mono hb2.size))
          · have k1 : ¬ (x : Int) ≤ (a : Int) := by omega
            have k3 : (y : Int) > 2147483648 := by omega
            go_wp2_with (first
              | (go_at_call 112; refine (HNM.out _).mono ?_; rintro e w2 ⟨rfl, hbb⟩; obtain ⟨hc2, hf2⟩ := bcell hbb)
              | (go_at_call 111; refine (HIP.out _).mono ?_; rintro e w3 ⟨rfl, hb3⟩; replace hbb := below_then hbb hb3; clear hc2 hf2 hb3; obtain ⟨hc2, hf2⟩ := bcell hbb))
            go_ret
            exact Ret.mk rfl (hb2.trans ((below_then (below_then hbr (below_one _ _)) hbb).mono hb2.size))
      · obtain rfl : j = N := by omega
        have i2 : ¬ (j : Int) < (j : Int) := by omega
        have HLL := Lib.hid (HLA.out _ _ _ wr (HA2.out.below hbr) HR.out.2.2)
        have hgood := goodP_all (by rw [HN.out]; exact HR.out.1)
        have hkin := pars_kin (by have g := HR.out.2.1; rw [← HN.out, List.take_length] at g; exact g)
        have HE := Lib.hid (show u = decide ((lack l m).length = 0) by
          rw [← HU.out, Bool.eq_iff_iff, decide_eq_true_iff, decide_eq_true_iff, hkin]
          exact ⟨fun g x hx => (g.2.2 x hx).2, fun g => ⟨hcap, hgood.1, fun x hx => ⟨hgood.2 x hx, g x hx⟩⟩⟩)
        clear hgood hkin HR
        obtain ⟨M, hM⟩ : ∃ M, lack l m = M := ⟨_, rfl⟩
        rw [hM] at HLL HE
        clear hM
        go_wp2_with (go_at_call 114; refine HLL.out.mono ?_; rintro e w4 ⟨rfl, ⟨D, hown, hrep⟩, hg4⟩; have HO4 := Lib.hid hown; have HR4 := Lib.hid hrep; have HG4 := Lib.hid hg4; clear hown hrep hg4; go_wp2_with (at_len; refine wpList_len_own _ rfl _ 125 rfl 22 22 Tryz.underlying125 _ (w.heap.size + 1) j D rfl HO4.out ?_; rw [HR4.out.size]))
        go_ret
        refine Ret.mk (bool_eq ?_) (hb2.trans (Below.mono (hbr.grown HG4.out hbr.size (fun k hk => by injection hk with hk; rw [← hk, HWS.out]; exact Nat.le_refl _)) hb2.size))
        rw [HE.out, Bool.eq_iff_iff]
        simp
        try omega
  · rw [decide_eq_false (fun g => hcap g.1)]
    have hc2 : c.cap < (N : Int) := by omega
    go_enter Tryz.func107, Tryz.ntmps107
    go_wp2
    go_ret
    exact Ret.mk rfl (below_one _ _)
end Go.Proofs.YtnepdbfnbikplaaGreatDoor

namespace Go.Proofs.YtnepdbfnbikplaaGreatDoor
open Go.Shelf
def sortRow_ren : Go.Shelf.Ren := ⟨fun | 6 => 122 | 15 => 66 | 14 => 126 | 28 => 68 | 29 => 69 | 20 => 128 | 21 => 129 | 22 => 130 | 23 => 131 | 24 => 132 | 25 => 133 | 26 => 134 | 27 => 135 | 46 => 136 | 47 => 137 | 48 => 138 | 49 => 139 | 50 => 140 | 57 => 141 | n => n, fun | 22 => 30 | 24 => 44 | 25 => 138 | 3 => 3 | 39 => 102 | 0 => 0 | 53 => 26 | 55 => 22 | 4 => 4 | 46 => 144 | 45 => 143 | 50 => 89 | 5 => 5 | 9 => 9 | 66 => 149 | 70 => 153 | 76 => 155 | 77 => 156 | n => n, fun | n => n⟩
theorem sortRow : Go.Proofs.SlLaysF0.n6 Tryz.prog sortRow_ren := {
  mixed := by kernel_rfl
  f6 := ⟨Tryz.f122.name, by decide, Tryz.func122.trans (congrArg some (by kernel_rfl))⟩
  f14 := ⟨Tryz.f126.name, by decide, Tryz.func126.trans (congrArg some (by kernel_rfl))⟩
  f15 := Tryz.func66.trans (congrArg some (by kernel_rfl))
  f20 := ⟨Tryz.f128.name, by decide, Tryz.func128.trans (congrArg some (by kernel_rfl))⟩
  f21 := ⟨Tryz.f129.name, by decide, Tryz.func129.trans (congrArg some (by kernel_rfl))⟩
  f22 := ⟨Tryz.f130.name, by decide, Tryz.func130.trans (congrArg some (by kernel_rfl))⟩
  f23 := ⟨Tryz.f131.name, by decide, Tryz.func131.trans (congrArg some (by kernel_rfl))⟩
  f24 := ⟨Tryz.f132.name, by decide, Tryz.func132.trans (congrArg some (by kernel_rfl))⟩
  f25 := ⟨Tryz.f133.name, by decide, Tryz.func133.trans (congrArg some (by kernel_rfl))⟩
  f26 := ⟨Tryz.f134.name, by decide, Tryz.func134.trans (congrArg some (by kernel_rfl))⟩
  f27 := ⟨Tryz.f135.name, by decide, Tryz.func135.trans (congrArg some (by kernel_rfl))⟩
  f28 := Tryz.func68.trans (congrArg some (by kernel_rfl))
  f29 := Tryz.func69.trans (congrArg some (by kernel_rfl))
  f46 := ⟨Tryz.f136.name, by decide, Tryz.func136.trans (congrArg some (by kernel_rfl))⟩
  f47 := Tryz.func137.trans (congrArg some (by kernel_rfl))
  f48 := Tryz.func138.trans (congrArg some (by kernel_rfl))
  f49 := ⟨Tryz.f139.name, by decide, Tryz.func139.trans (congrArg some (by kernel_rfl))⟩
  f50 := ⟨Tryz.f140.name, by decide, Tryz.func140.trans (congrArg some (by kernel_rfl))⟩
  f57 := ⟨Tryz.f141.name, by decide, Tryz.func141.trans (congrArg some (by kernel_rfl))⟩
  t0 := Tryz.underlying0
  a0 := Tryz.isAgg0
  z0 := Tryz.sizeOf0
  v0 := Tryz.zeroValue0
  t3 := Tryz.underlying3
  a3 := Tryz.isAgg3
  z3 := Tryz.sizeOf3
  v3 := Tryz.zeroValue3
  t4 := Tryz.underlying4
  a4 := Tryz.isAgg4
  z4 := Tryz.sizeOf4
  v4 := Tryz.zeroValue4
  t5 := Tryz.underlying5
  a5 := Tryz.isAgg5
  z5 := Tryz.sizeOf5
  v5 := Tryz.zeroValue5
  t9 := Tryz.underlying9
  a9 := Tryz.isAgg9
  z9 := Tryz.sizeOf9
  v9 := Tryz.zeroValue9
  t22 := Tryz.underlying30
  a22 := Tryz.isAgg30
  z22 := Tryz.sizeOf30
  v22 := Tryz.zeroValue30
  t25 := Tryz.underlying138
  a25 := Tryz.isAgg138
  z25 := Tryz.sizeOf138
  v25 := Tryz.zeroValue138
  t39 := Tryz.underlying102
  a39 := Tryz.isAgg102
  z39 := Tryz.sizeOf102
  v39 := Tryz.zeroValue102
  t45 := Tryz.underlying143
  a45 := Tryz.isAgg143
  z45 := Tryz.sizeOf143
  v45 := Tryz.zeroValue143
  t46 := Tryz.underlying144
  a46 := Tryz.isAgg144
  z46 := Tryz.sizeOf144
  v46 := Tryz.zeroValue144
  t50 := Tryz.underlying89
  a50 := Tryz.isAgg89
  z50 := Tryz.sizeOf89
  v50 := Tryz.zeroValue89
  t53 := Tryz.underlying26
  a53 := Tryz.isAgg26
  z53 := Tryz.sizeOf26
  v53 := Tryz.zeroValue26
  t55 := Tryz.underlying22
  a55 := Tryz.isAgg22
  z55 := Tryz.sizeOf22
  v55 := Tryz.zeroValue22
  t66 := Tryz.underlying149
  a66 := Tryz.isAgg149
  z66 := Tryz.sizeOf149
  v66 := Tryz.zeroValue149
  t70 := Tryz.underlying153
  a70 := Tryz.isAgg153
  z70 := Tryz.sizeOf153
  v70 := Tryz.zeroValue153
  t76 := Tryz.underlying155
  a76 := Tryz.isAgg155
  z76 := Tryz.sizeOf155
  v76 := Tryz.zeroValue155
  t77 := Tryz.underlying156
  a77 := Tryz.isAgg156
  z77 := Tryz.sizeOf156
  v77 := Tryz.zeroValue156 }
end Go.Proofs.YtnepdbfnbikplaaGreatDoor

namespace Go.Proofs.YtnepdbfnbikplaaGreatDoor
open Go.RowKit Go.Lib Tb Pt Opn

set_option maxRecDepth 100000 in
set_option maxHeartbeats 1000000 in
theorem nan_at (x : Nat) (w : World) : Calls Tryz.prog 64 #[.int .u64 x] w fun e w' => e = .returned (.bool false) ∧ w' = w := by
  go_enter Tryz.func64, Tryz.ntmps64
  go_wp2
  go_ret
  exact ⟨by simp, rfl⟩

set_option maxRecDepth 100000 in
set_option maxHeartbeats 1000000 in
theorem compare_at (x y : Nat) (w : World) : Calls Tryz.prog 59 #[.int .u64 x, .int .u64 y] w fun e w' => e = .returned (.int .i64 (cmpI x y)) ∧ w' = w := by
  by_cases h1 : x < y
  · rw [show cmpI x y = -1 by unfold cmpI; rw [if_pos h1]]
    have i1 : (x : Int) < (y : Int) := by omega
    go_enter Tryz.func59, Tryz.ntmps59
    go_wp2_with (go_at_call 64; refine (nan_at _ _).mono ?_; rintro e w' ⟨rfl, rfl⟩)
    go_ret
    exact ⟨rfl, rfl⟩
  · by_cases h2 : y < x
    · rw [show cmpI x y = 1 by unfold cmpI; rw [if_neg h1, if_pos h2]]
      have i1 : ¬ (x : Int) < (y : Int) := by omega
      have i2 : (x : Int) > (y : Int) := by omega
      go_enter Tryz.func59, Tryz.ntmps59
      go_wp2_with (go_at_call 64; refine (nan_at _ _).mono ?_; rintro e w' ⟨rfl, rfl⟩)
      go_ret
      exact ⟨rfl, rfl⟩
    · rw [show cmpI x y = 0 by unfold cmpI; rw [if_neg h1, if_neg h2]]
      obtain rfl : x = y := by omega
      go_enter Tryz.func59, Tryz.ntmps59
      go_wp2_with (go_at_call 64; refine (nan_at _ _).mono ?_; rintro e w' ⟨rfl, rfl⟩)
      go_ret
      exact ⟨rfl, rfl⟩

set_option maxRecDepth 100000 in
set_option maxHeartbeats 1000000 in
/-- The program's own comparison of two rows: it lays two blocks. -/
theorem rowcmp_at (x1 x2 y1 y2 : Nat) (w : World) : Calls Tryz.prog 123 #[.agg #[.int .u64 x1, .int .u64 x2], .agg #[.int .u64 y1, .int .u64 y2]] w fun e w' => e = .returned (.int .i64 (cmpI x1 y1)) ∧ ∃ q os', w' = Sort.grow (w.drewN q) os' := by
  have hcon := fun W => compare_at x1 y1 W
  generalize cmpI x1 y1 = r at hcon ⊢
  go_enter Tryz.func123, Tryz.ntmps123
  go_wp2_with (go_at_call 59; refine (hcon _).mono ?_; rintro e w' ⟨rfl, rfl⟩)
  go_ret
  exact ⟨rfl, 0, _, by rw [Sort.alloc_eq_grow, Sort.alloc_eq_grow, Sort.grow_grow]; rfl⟩

/-- What the sort compares by. -/
def cfR (x y : R) : Int := cmpI x.1 y.1
theorem ltR (x y : R) : ltOf cfR x y = decide (x.1 < y.1) := by unfold ltOf cfR; rw [Bool.eq_iff_iff, decide_eq_true_iff, decide_eq_true_iff, cmp_lt]
theorem swoR : Sort.SWO (ltOf cfR) where
  irrefl x := by rw [ltR]; simp
  trans x y z h1 h2 := by rw [ltR] at *; simp at *; omega
  ntrans x y z h1 h2 := by rw [ltR] at *; simp at *; omega

theorem flat_K (l : List R) : Sort.flatK rowL 2 l.toArray = (flatL rowL l).toArray := by
  refine Sort.ext_get! (by simp [flatR]) fun t ht => ?_
  have ht' : t < l.length * 2 := by simpa using ht
  rw [Sort.get_flatK _ _ _ t (by simpa using ht')]
  have hi : t / 2 < l.length := by omega
  have h := flatL_at (L := rowL) (s := 2) rowL_len (List.getElem?_eq_getElem hi) (j := t % 2) (by omega)
  rw [show t / 2 * 2 + t % 2 = t by omega] at h
  have e1 : l.toArray[t / 2]! = l[t / 2] := by rw [getElem!_pos _ _ (by simpa using hi)]; simp
  have hj : t % 2 < (rowL l[t / 2]).length := by rw [rowL_len]; omega
  have hf : t < (flatL rowL l).length := by rw [flatR]; omega
  rw [e1, getElem!_pos (rowL l[t / 2]) (t % 2) hj, getElem!_pos (flatL rowL l).toArray t (by simpa using hf)]
  rw [List.getElem?_eq_getElem hf, List.getElem?_eq_getElem hj] at h
  injection h with h
  simpa using h.symm
theorem put_flat (l t : List R) (rest : List Value) (h : l.length = t.length) : Sort.putCells id 0 (flatL rowL t).toArray (flatL rowL l ++ rest).toArray = (flatL rowL t ++ rest).toArray := by
  have e : (flatL rowL l).length = (flatL rowL t).length := by rw [flatR, flatR, h]
  apply Array.ext_getElem?
  intro k
  simp only [Sort.putCells, Array.getElem?_mapIdx, List.getElem?_toArray, List.size_toArray, Nat.zero_le, true_and, Nat.zero_add, Nat.sub_zero, id]
  by_cases hk : k < (flatL rowL t).length
  · rw [List.getElem?_append_left (by omega), List.getElem?_append_left hk, List.getElem?_eq_getElem (by omega), List.getElem?_eq_getElem hk, Option.map_some, if_pos hk, getElem!_pos _ _ (by simpa using hk)]
    simp
  · rw [List.getElem?_append_right (by omega), List.getElem?_append_right (by omega), e]
    cases rest[k - (flatL rowL t).length]? with
    | none => rfl
    | some y => rw [Option.map_some, if_neg hk]

set_option maxRecDepth 100000 in
theorem psort_any (w : World) (B : Nat) (v : Value) (l t : List R) (hpos : 0 < l.length) (hl : l.length ≤ 1000000) (ht : Up t) (hp : l.Perm t) (hm : MadeX w B 44 2 rowL v l) :
    Calls Tryz.prog 122 #[v, .func (.func 123) #[] #[]] w fun e w' => e = .returned (.tuple #[]) ∧ MadeX w' B 44 2 rowL v t ∧ w.grownBy w' v.ownBlock := by
  rcases made_cells hm with ⟨_, h⟩ | ⟨g, cap, rest, rfl, hB, hg, hc, hcm, hr⟩
  · rw [h] at hpos; simp at hpos
  · have hgl : g < w.heap.size := (Array.getElem?_eq_some_iff.1 hg).1
    have hH : Sort.HoldsK rowL 2 w g 0 l.toArray := by
      unfold Sort.HoldsK
      rw [flat_K]
      intro j hj
      have hj' : j < (flatL rowL l).length := by simpa using hj
      refine ⟨?_, ?_⟩
      · rw [Nat.zero_add]
        simp only [World.cell?, hg]
        rw [getElem!_pos _ _ (by simpa using hj')]
        simp [List.getElem?_append_left hj', hj']
      · simp [World.frozen?, hg]
    have eg : ∀ args w, (callFunc 123 args).run Tryz.prog w = .ok (.enter 123 args) w := enters_of Tryz.func123 (by kernel_rfl) rfl
    have hcon := AnyQ.slices_SortFunc sortRow 2 Tryz.isAgg44 Tryz.sizeOf44 rowL rowL_len (fun x u hu => by simp [rowL] at hu; rcases hu with rfl | rfl <;> rfl) cfR swoR 123 #[] g 0 cap l.toArray w eg (fun _ _ _ _ x y => rowcmp_at x.1 x.2 y.1 y.2 _) hH hgl (by simp; omega)
    change Calls Tryz.prog 122 _ _ _ at hcon
    have hsz : l.toArray.size = l.length := by simp
    rw [hsz] at hcon
    refine hcon.mono ?_
    rintro e w' ⟨rfl, d', n, os, hp', hs', rfl⟩
    have hd : d'.size = l.length := by rw [hp'.1, hsz]
    have ed : d'.toList = t := by
      refine sort_is (a := l) ht ?_ hp ?_
      · have h := hp'.2.2
        rw [Array.extract_eq_self_of_le (by omega), Array.extract_eq_self_of_le (by rw [hsz]; exact Nat.le_refl _)] at h
        simpa using h
      · intro i j hi hj hij
        have h := hs' i j (Nat.zero_le _) hij (by rw [← hd, ← Array.length_toList]; exact hj)
        rw [ltR] at h
        have h1 : d'[i]! = d'.toList[i] := by rw [getElem!_pos _ _ (by simpa using hi)] <;> simp
        have h2 : d'[j]! = d'.toList[j] := by rw [getElem!_pos _ _ (by simpa using hj)] <;> simp
        rw [h1, h2] at h
        simpa using h
    have ed' : d' = t.toArray := by rw [← ed]
    have htl : t.length = l.length := hp.length_eq.symm
    subst ed'
    have hb : (sortWorldK rowL 2 w g 0 n t.toArray os).heap[g]? = some (.cells (flatL rowL t ++ rest).toArray 44 (0, 0)) := by
      unfold sortWorldK Sort.putRowK
      rw [flat_K]
      unfold Sort.grow Sort.putRow Sort.mapBlock Sort.ahead
      simp only
      rw [Array.getElem?_append_left (by simpa using hgl), Array.getElem?_modify, if_pos rfl, hg]
      simp only [Option.map_some, Sort.onCells]
      rw [put_flat l t rest htl.symm]
    refine ⟨rfl, ?_, ?_⟩
    · have h := made_of (B := B) (cap := cap) (l := t) (rest := rest) hB hb (by omega) hcm (by omega)
      rw [htl] at h
      exact h
    · refine ⟨rfl, rfl, rfl, ?_, fun k hk hne => ?_⟩
      · unfold sortWorldK Sort.putRowK Sort.grow Sort.putRow Sort.mapBlock Sort.ahead
        simp
      · unfold sortWorldK Sort.putRowK Sort.grow Sort.putRow Sort.mapBlock Sort.ahead
        simp only
        have hk' : k ≠ g := fun e => hne (by rw [e]; rfl)
        rw [Array.getElem?_append_left (by simpa using hk), Array.getElem?_modify, if_neg (fun e => hk' e.symm)]
end Go.Proofs.YtnepdbfnbikplaaGreatDoor

namespace Go.Proofs.YtnepdbfnbikplaaGreatDoor
open Go.RowKit Tb

set_option maxRecDepth 100000 in
set_option maxHeartbeats 1000000 in
theorem plit_any (x y k : Nat) (w : World) : Calls Tryz.prog 121 #[.agg #[.int .u64 x, .int .u64 y], .int .u64 k] w (Ret (.int .i64 (cmpI x k)) w) := by
  go_enter Tryz.func121, Tryz.ntmps121
  go_wp2_with (go_at_call 59; refine (compare_any _ _ _).mono ?_; rintro e w' ⟨rfl, hb⟩)
  go_ret
  exact Ret.mk rfl (below_b1 (by assumption))
end Go.Proofs.YtnepdbfnbikplaaGreatDoor

namespace Go.Proofs.YtnepdbfnbikplaaGreatDoor
open Go.RowKit Tb Pt Opn

set_option maxHeartbeats 4000000 in
set_option maxRecDepth 100000 in
theorem pbin_any (A : Option Addr) (l : List R) (c : Nat) (hl : l.length ≤ 1000000) (hu : Up l) (k : Nat) (w : World) (h : IsR w A l) :
    Calls Tryz.prog 57 #[.slice A l.length c, .int .u64 k, .func (.func 121) #[] #[]] w (Ret2 (.int .i64 (pos l k)) (.bool (Tb.get l k).isSome) w) := by
  have HU := Lib.hid hu
  clear hu
  have HA := Lib.hid h
  clear h
  obtain ⟨N, hN⟩ : ∃ N, l.length = N := ⟨_, rfl⟩
  have HN := Lib.hid hN
  rw [hN] at hl ⊢
  clear hN
  obtain ⟨p, hp⟩ : ∃ p, pos l k = p := ⟨_, rfl⟩
  obtain ⟨s, hs⟩ : ∃ s, (Tb.get l k).isSome = s := ⟨_, rfl⟩
  have HP := Lib.hid (And.intro hp hs)
  rw [hp, hs]
  clear hp hs
  go_enter Tryz.func57, Tryz.ntmps57
  go_wp2
  go_loopw [9, 10] (fun iv jv wr => Below w.heap.size w wr ∧ ∃ i j : Nat, iv = .int .i64 i ∧ jv = .int .i64 j ∧ i ≤ j ∧ j ≤ N ∧ Hid (Half l k i j)) (fun iv jv _ => (intOf jv - intOf iv).toNat)
  case atStart => exact ⟨Below.refl _ _, 0, N, rfl, rfl, by omega, by omega, Lib.hid (by rw [← HN.out]; exact half_zero l k)⟩
  case round =>
    obtain ⟨hb, i, j, rfl, rfl, hij, hj, HH⟩ := hrel
    by_cases hlt : i < j
    · have j1 : (i + j) / 2 < l.length := by rw [HN.out]; omega
      have i1 : (i : Int) < (j : Int) := by omega
      obtain ⟨b, off, rfl, h1, h2⟩ := HA.out.row j1
      replace h1 := (hb.cell (World.block_lt_of_cell? _ _ h1)).trans h1
      replace h2 := (hb.cell (World.block_lt_of_cell? _ _ h2)).trans h2
      obtain ⟨h, hh⟩ : ∃ h, (i + j) / 2 = h := ⟨_, rfl⟩
      have ei : ((i : Int) + (j : Int)) / 2 = (h : Nat) := by omega
      have HJ := Lib.hid j1
      obtain ⟨x, hx⟩ : ∃ x, (l[(i + j) / 2]'j1).1 = x := ⟨_, rfl⟩
      obtain ⟨y, hy⟩ : ∃ y, (l[(i + j) / 2]'j1).2 = y := ⟨_, rfl⟩
      rw [hx] at h1
      rw [hy] at h2
      rw [hh] at h1 h2
      have HX := Lib.hid hx
      clear hx hy
      by_cases hk : x < k
      · have hc := cmp_lt.2 hk
        go_wp2_with (go_at_call 121; refine (plit_any _ _ _ _).mono ?_; rintro e w2 ⟨rfl, hb2⟩)
        go_roundw
        case rel => exact ⟨below_then hb hb2, h + 1, j, by go_num, rfl, by omega, hj, Lib.hid (half_up HU.out HH.out (by omega) (hh ▸ j1) (by subst hh; rw [HX.out]; exact hk) (by omega))⟩
        case measure => simp [intOf]; omega
      · have hc : ¬ cmpI x k < 0 := fun h => hk (cmp_lt.1 h)
        go_wp2_with (go_at_call 121; refine (plit_any _ _ _ _).mono ?_; rintro e w2 ⟨rfl, hb2⟩)
        go_roundw
        case rel => exact ⟨below_then hb hb2, i, h, rfl, rfl, by omega, by omega, Lib.hid (half_down HU.out HH.out (by omega) (by omega) (hh ▸ j1) (by subst hh; rw [HX.out]; exact hk))⟩
        case measure => simp [intOf]; omega
    · obtain rfl : i = j := by omega
      have hp := half_end HH.out
      rw [HP.out.1] at hp
      subst hp
      by_cases hlt2 : p < N
      · have j1 : p < l.length := by rw [HN.out]; exact hlt2
        have i1 : (p : Int) < (N : Int) := by omega
        have i2 : (0 : Int) ≤ (p : Int) := by omega
        obtain ⟨b, off, rfl, h1, h2⟩ := HA.out.row j1
        replace h1 := (hb.cell (World.block_lt_of_cell? _ _ h1)).trans h1
        replace h2 := (hb.cell (World.block_lt_of_cell? _ _ h2)).trans h2
        have HG := pos_get HU.out k
        rw [HP.out.1] at HG
        have es : s = decide (cmpI (l[p]'j1).1 k = 0) := by
          rw [← HP.out.2]
          rcases HG with ⟨e, h3⟩ | ⟨hm, h3, e⟩
          · rw [e]; exact (decide_eq_false (fun h => h3 j1 (cmp_eq.1 h))).symm
          · rw [e]; exact (decide_eq_true (cmp_eq.2 h3)).symm
        clear HG
        obtain ⟨x, hx⟩ : ∃ x, (l[p]'j1).1 = x := ⟨_, rfl⟩
        obtain ⟨y, hy⟩ : ∃ y, (l[p]'j1).2 = y := ⟨_, rfl⟩
        rw [hx] at h1 es
        rw [hy] at h2
        have ES := Lib.hid es
        clear es hx hy
        go_wp2_with (go_at_call 121; refine (plit_any _ _ _ _).mono ?_; rintro e w2 ⟨rfl, hb2⟩)
        go_ret2
        exact Ret2.mk rfl (bool_eq (by rw [ES.out, Bool.eq_iff_iff]; simp)) (below_then hb hb2)
      · have i1 : ¬ (p : Int) < (N : Int) := by omega
        have es : s = false := by
          rw [← HP.out.2]
          rcases pos_get HU.out k with ⟨e, _⟩ | ⟨hm, _⟩
          · rw [e]; rfl
          · rw [HP.out.1, HN.out] at hm; exact absurd hm hlt2
        subst es
        go_wp2
        go_ret2
        exact Ret2.mk rfl rfl hb

set_option maxRecDepth 100000 in
set_option maxHeartbeats 2000000 in
/-- The program's own search. -/
theorem pseek_any (A : Option Addr) (l : List R) (c : Nat) (hl : l.length ≤ 1000000) (hu : Up l) (o : O) (ho : Wf o) (w : World) (h : IsR w A l) :
    Calls Tryz.prog 115 #[.slice A l.length c, opv o] w (Ret2 (.int .i64 (pos l (pth o))) (.bool (Tb.get l (pth o)).isSome) w) := by
  have HNM := Lib.hid (fun W => qNamed_any o ho W)
  have HK := Lib.hid (fun W => qKey_any (o.a % 65536) (o.a / 65536) o.b (pth o) rfl (by unfold Wf at ho; unfold pth; omega) W)
  have HB := Lib.hid (fun k W hA => pbin_any A l c hl hu k W hA)
  have HA := Lib.hid h
  generalize o.a % 65536 = na at *
  generalize o.a / 65536 = nb at *
  generalize l.length = N at *
  generalize hk : pth o = k at *
  clear h hu hk
  unfold opv at *
  go_enter Tryz.func115, Tryz.ntmps115
  go_wp2_with (first
    | (go_at_call 118; refine (HNM.out _).mono ?_; rintro e w1 ⟨rfl, hb1⟩)
    | (go_at_call 117; refine (HK.out _).mono ?_; rintro e w2 ⟨rfl, hb2⟩)
    | (go_at_call 57; refine (HB.out _ _ (HA.out.below (below_then (below_b1 hb1) hb2))).mono ?_; rintro e w3 ⟨rfl, hb3⟩))
  go_ret2
  exact Ret2.mk rfl rfl (below_then (below_then (below_b1 hb1) hb2) hb3)
end Go.Proofs.YtnepdbfnbikplaaGreatDoor

namespace Go.Proofs.YtnepdbfnbikplaaGreatDoor
open Go.RowKit Go.Lib Tb Pt Opn

theorem ups_zero (n : Nat) : ups n 0 = [] := by cases n <;> simp [ups]
theorem chain_len (k v : Nat) : (chainM k v).length ≤ 3 := by
  have : ∀ n j, (ups n j).length ≤ n := fun n => by
    induction n with
    | zero => intro j; simp [ups]
    | succ n ih => intro j; rw [ups]; split; simp; have := ih (par j); simp; omega
  have := this 2 (par k)
  simp [chainM]; omega

set_option maxRecDepth 100000 in
set_option maxHeartbeats 4000000 in
theorem withAbove_any (k v : Nat) (hk0 : k ≠ 0) (hk : k < 18446744073709551616) (hv : v < 18446744073709551616) (w : World) :
    Calls Tryz.prog 116 #[.int .u64 k, .int .u64 v] w fun e w' => ∃ b, e = .returned (.map (some b)) ∧ w.heap.size ≤ b ∧ IsMp w' b 3 (chainM k v) ∧ Below w.heap.size w w' := by
  obtain ⟨w1, hrun, hown1, hgr1⟩ := (World.ownsMap_made (H := Unit) w Tryz.prog 22 (plainElem Tryz.prog 22)).update (t := 125) (e := 22) lawK Tryz.underlying125 (by unfold maxLen; omega) (key64 hk) (elem64 hv)
  have HO1 := Lib.hid (show IsMp w1 w.heap.size 1 [(k, v)] from ⟨_, hown1, rep_new rep_nil v rfl⟩)
  have HB1 := Lib.hid (show Below w.heap.size w w1 from (below_one w _).grown hgr1 (by simp) (fun j hj => by injection hj with hj; rw [← hj]; exact Nat.le_refl _))
  have HPA := Lib.hid (fun x hx W => qParent_any x hx W)
  have HP1 := Lib.hid (fun W => qParent_any k hk W)
  have HON := Lib.hid (once_chain hk0 v)
  have HLN := Lib.hid (chain_len k v)
  obtain ⟨C, hC⟩ : ∃ C, chainM k v = C := ⟨_, rfl⟩
  have HC := Lib.hid hC
  have hch : Chain 2 (par k) := (chain_three k).resolve_left hk0
  have hlt : par k < 18446744073709551616 := Nat.lt_of_le_of_lt (par_le k) hk
  rw [hC] at HON HLN ⊢
  obtain ⟨p, hp⟩ : ∃ p, par k = p := ⟨_, rfl⟩
  rw [hp] at HP1 hch hlt
  have HS := Lib.hid (show [(k, v)] ++ (ups 2 p).map (fun j => ((j, 0) : R)) = C by rw [← HC.out, ← hp]; rfl)
  have HCH := Lib.hid hch
  clear hown1 hgr1 hC HC hch hp hk hk0 hv
  have hmm := @run_makeMap Tryz.prog
  go_enter Tryz.func116, Tryz.ntmps116
  go_wp2_with (go_at_call 113; refine (HP1.out _).mono ?_; rintro e w2 ⟨rfl, hb2⟩)
  go_loopw [6] (fun iv wr => Below w.heap.size w wr ∧ ∃ n kk : Nat, ∃ m : List R, n ≤ 2 ∧ kk < 18446744073709551616 ∧ iv = .int .u64 kk ∧ Hid (Chain n kk ∧ IsMp wr w.heap.size m.length m ∧ m ++ (ups n kk).map (fun j => ((j, 0) : R)) = C)) (fun iv _ => (intOf iv).toNat)
  case atStart => exact ⟨HB1.out.trans (hb2.mono HB1.out.size), 2, p, [(k, v)], Nat.le_refl _, hlt, rfl, Lib.hid ⟨HCH.out, HO1.out.below hb2, HS.out⟩⟩
  case round =>
    obtain ⟨hbr, n, kk, m, hn, hkk, rfl, HR⟩ := hrel
    by_cases hk0 : kk = 0
    · subst hk0
      have HE := Lib.hid (show IsMp wr w.heap.size 3 C by
        obtain ⟨_, h2, h3⟩ := HR.out
        rw [ups_zero, List.map_nil, List.append_nil] at h3
        subst h3
        exact h2.mono HLN.out)
      go_wp2
      go_ret
      exact ⟨_, rfl, Nat.le_refl _, HE.out, hbr⟩
    · have hk2 : ((kk : Int) != 0) = true := bne_iff_ne.2 (by omega)
      obtain ⟨hch, ⟨D, hown, hrep⟩, hcc⟩ := HR.out
      obtain ⟨n1, rfl⟩ : ∃ n1, n = n1 + 1 := by
        cases n with
        | zero => exact absurd hch hk0
        | succ n1 => exact ⟨n1, rfl⟩
      have hch : Chain n1 (par kk) := hch.resolve_left hk0
      rw [ups, if_neg hk0, List.map_cons] at hcc
      have hnew : hasM m kk = false := by
        rw [Bool.eq_false_iff]
        intro g
        obtain ⟨y, hy, e⟩ := hasM_iff.1 g
        have ho := HON.out
        rw [← hcc] at ho
        exact (List.pairwise_append.1 ho).2.2 y hy (kk, 0) (List.mem_cons_self ..) e
      have hml : m.length ≤ 3 := by
        have h1 := HLN.out
        rw [← hcc, List.length_append] at h1
        omega
      have HN := Lib.hid (show IsMp wr w.heap.size m.length m → True from fun _ => trivial)
      have HOW := Lib.hid hown
      have HRP := Lib.hid (rep_new hrep 0 hnew)
      have HCC := Lib.hid (show (m ++ [(kk, 0)]) ++ (ups n1 (par kk)).map (fun j => ((j, 0) : R)) = C by rw [← hcc]; simp)
      have HCH2 := Lib.hid hch
      have hlt := par_lt hk0
      have HPK := Lib.hid (HPA.out kk hkk)
      obtain ⟨q, hq⟩ : ∃ q, par kk = q := ⟨_, rfl⟩
      rw [hq] at HPK HCC HCH2 hlt
      have HKY := Lib.hid (key64 hkk)
      clear hown hrep hnew hcc hch HR HN hq
      go_wp2_with (first
        | (at_mapUpdate; refine wpList_mapUpdate_own _ rfl _ _ _ 125 rfl 22 22 lawK Tryz.underlying125 _ w.heap.size m.length D rfl HOW.out (by unfold maxLen; omega) _ _ _ rfl rfl HKY.out _ [] (elem64 (k := 0) (by omega)) ?_; intro w5 hown5 hg5; have HO5 := Lib.hid hown5; have HG5 := Lib.hid hg5; clear hown5 hg5)
        | (go_at_call 113; refine (HPK.out _).mono ?_; rintro e w6 ⟨rfl, hb6⟩))
      go_roundw
      case rel => exact ⟨below_then (hbr.grown HG5.out hbr.size (fun j hj => by injection hj with hj; rw [← hj]; exact Nat.le_refl _)) hb6, n1, q, m ++ [(kk, 0)], by omega, by omega, rfl, Lib.hid ⟨HCH2.out, by rw [List.length_append]; exact IsMp.below ⟨_, HO5.out, HRP.out⟩ hb6, HCC.out⟩⟩
      case measure => simp [intOf]; omega

theorem made_iter_ne {W : World} {r B : Nat} {m : Option Nat} {s : Nat} {seen : Array Nat} {c : Nat} {v : Value} {l : List R} (h : MadeX W B 44 2 rowL v l) (hm : W.heap[r]? = some (.mapIter m s seen c)) : v.ownBlock = none ∨ v.ownBlock ≠ some r := by
  rcases h.2 with ⟨rfl, _⟩ | ⟨g, cap, cur, rfl, _, h3, _⟩
  · exact .inl rfl
  · refine .inr fun e => ?_
    have e' : g = r := by simpa [Value.ownBlock] using e
    subst e'
    rw [hm] at h3
    cases h3
theorem ranges_iter {W : World} {b r n : Nat} {D : DataW Unit} {left : Lit → Bool} {cnt : Nat} (h : W.ranges Tryz.prog 22 (plainElem Tryz.prog 22) b r n D left cnt) : ∃ m s seen c, W.heap[r]? = some (.mapIter m s seen c) := by
  obtain ⟨es, clock, since, seen, c0, _, _, _, _, hr, _⟩ := h
  exact ⟨_, _, _, _, hr⟩

/-- How far a map has been gone through: those that were met. -/
structure Met (m acc : List R) (left : Lit → Bool) : Prop where
  once : Once acc
  done : ∀ x ∈ acc, left (.int .u64 (x.1 : Nat)) = false ∧ x ∈ m
  rest : ∀ x ∈ m, left (.int .u64 (x.1 : Nat)) = true ∨ x ∈ acc
  come : ∀ k : Nat, left (.int .u64 k) = true → hasM m k = true
theorem met_start {D : DataW Unit} {m : List R} (h : Rep D m) : Met m [] (Maps.has D) := by
  refine ⟨List.Pairwise.nil, (fun x hx => by cases hx), fun x hx => .inl ?_, fun k hk => ?_⟩
  · rw [h.has]; exact hasM_iff.2 ⟨x, hx, rfl⟩
  · rw [← h.has]; exact hk
theorem met_step {D : DataW Unit} {m acc : List R} {left : Lit → Bool} (hD : Rep D m) (h : Met m acc left) {x c : Nat} (hl : left (.int .u64 x) = true) (hat : ∀ zd, D.atKey (.int .u64 (x : Int)) zd = .lit (.int .u64 (c : Int))) :
    Met m (acc ++ [(x, c)]) (fun z => left z && !z.sameKey (.int .u64 x)) := by
  have hmem : (x, c) ∈ m := by
    obtain ⟨y, hy, e⟩ := hasM_iff.1 (h.come x hl)
    have h1 := hD.val y hy .nil
    rw [e, hat .nil] at h1
    injection h1 with h1
    injection h1 with _ h1
    have : y = (x, c) := Prod.ext e (by have : (c : Int) = (y.2 : Int) := h1; show y.2 = c; omega)
    rw [← this]; exact hy
  have hself : (Lit.int .u64 (x : Int)).sameKey (.int .u64 (x : Int)) = true := WideAt.sameKey_self (isk x)
  have hna : hasM acc x = false := by
    rw [Bool.eq_false_iff]
    intro g
    obtain ⟨y, hy, e⟩ := hasM_iff.1 g
    have := (h.done y hy).1
    rw [e, hl] at this
    cases this
  refine ⟨once_snoc h.once hna, fun y hy => ?_, fun y hy => ?_, fun k hk => h.come k ?_⟩
  · rcases List.mem_append.1 hy with hy | hy
    · exact ⟨by rw [(h.done y hy).1]; rfl, (h.done y hy).2⟩
    · rw [List.mem_singleton.1 hy]; exact ⟨by rw [hself]; simp, hmem⟩
  · rcases h.rest y hy with g | g
    · by_cases e : y.1 = x
      · have : y = (x, c) := Prod.ext e (once_val hD.once (show (x, y.2) ∈ m by rw [← e]; exact hy) hmem)
        exact .inr (List.mem_append_right _ (List.mem_singleton.2 this))
      · exact .inl (by rw [g, Maps.sameKey_ne (lit_ne e)]; rfl)
    · exact .inr (List.mem_append_left _ g)
  · simp at hk; exact hk.1
theorem met_end {m acc : List R} {left : Lit → Bool} (hm : Once m) (h : Met m acc left) (hl : ∀ kl, left kl = false) : acc.Perm m :=
  once_perm h.once hm fun x => ⟨fun hx => (h.done x hx).2, fun hx => (h.rest x hx).resolve_left (by rw [hl]; simp)⟩
theorem len_le : ∀ (a m : List R), a.Nodup → (∀ x ∈ a, x ∈ m) → a.length ≤ m.length
  | [], m, _, _ => Nat.zero_le _
  | x :: a, m, h, hs => by
    obtain ⟨h1, h2⟩ := List.nodup_cons.1 h
    have hx := hs x (List.mem_cons_self ..)
    have := len_le a (m.erase x) h2 fun y hy => (List.mem_erase_of_ne (fun e => h1 (by rw [← e]; exact hy))).2 (hs y (List.mem_cons_of_mem _ hy))
    rw [List.length_erase_of_mem hx] at this
    have : 0 < m.length := List.length_pos_of_mem hx
    simp only [List.length_cons]
    omega
theorem met_len {m acc : List R} {left : Lit → Bool} (h : Met m acc left) : acc.length ≤ m.length :=
  len_le acc m (h.once.imp fun h e => h (by rw [e])) fun x hx => (h.done x hx).2

set_option maxRecDepth 100000 in
set_option maxHeartbeats 4000000 in
theorem putIn_any (w : World) (B : Nat) (hB : B ≤ w.heap.size) (v : Value) (l t m : List R) (b n : Nat) (hl : l.length ≤ 100000) (hn : m.length ≤ 1000) (hpos : 0 < m.length) (ht : Up t) (hp : (l ++ m).Perm t) (hm : MadeX w B 44 2 rowL v l) (hM : IsMp w b n m) :
    Calls Tryz.prog 119 #[v, .map (some b)] w fun e w' => ∃ u, e = .returned u ∧ MadeX w' B 44 2 rowL u t ∧ w.grownBy w' v.ownBlock := by
  obtain ⟨D, hown, hrep⟩ := hM
  have HR := Lib.hid hrep
  have HM := Lib.hid hm
  have HP := Lib.hid (And.intro ht hp)
  have HNE := Lib.hid (made_map_ne hm ⟨D, hown, hrep⟩)
  have HLT := Lib.hid (MadeX.lt hm)
  have HOW := Lib.hid hown
  clear hrep hm ht hp hown
  go_enter Tryz.func119, Tryz.ntmps119
  go_wp2_with (at_range; refine wpList_range_own _ rfl _ 125 rfl 22 22 lawK Tryz.underlying125 _ b n _ rfl HOW.out ?_; intro w0 hrg0 hg0 hs0; have HRG := Lib.hid hrg0; have HG0 := Lib.hid hg0; clear hrg0 hg0)
  go_frame
  obtain ⟨q, hq⟩ : ∃ q, w.heap.size = q := ⟨_, rfl⟩
  have HQ := Lib.hid hq
  rw [hq] at HRG hs0 hB ⊢
  clear hq
  go_loopw [0] (fun u wr => Hid (∃ left cnt acc, wr.ranges Tryz.prog 22 (plainElem Tryz.prog 22) b q n D left cnt ∧ Met m acc left ∧ MadeX wr B 44 2 rowL u (l ++ acc) ∧ w.grownBy wr v.ownBlock ∧ (u.ownBlock = v.ownBlock ∨ ∃ g, u.ownBlock = some g ∧ q < g))) (fun _ wr => wr.rangeLeft b q)
  case atStart => exact Lib.hid ⟨_, _, [], HRG.out, met_start HR.out, by rw [List.append_nil]; exact HM.out.grown HG0.out (by cases v.ownBlock <;> simp), HG0.out.but _, .inl rfl⟩
  case round =>
    obtain ⟨left, cnt, acc, hrg, hmet, hmade, hgr, hown⟩ := hrel.out
    have hmx : l.length + m.length ≤ 101000 := by omega
    have hal := met_len hmet
    have HMD := Lib.hid hmade
    have HMT := Lib.hid hmet
    have HRG1 := Lib.hid hrg
    have HGR := Lib.hid hgr
    have HON := Lib.hid hown
    have HIT := Lib.hid (made_iter_ne hmade (ranges_iter hrg).choose_spec.choose_spec.choose_spec.choose_spec)
    clear hmade hmet hrg hgr hown hrel
    go_wp2_with (at_next; refine wpList_next_ranges_ii _ rfl _ rfl 22 22 .u64 .u64 lawK Tryz.underlying22 Tryz.underlying22 b q n _ _ _ rfl HRG1.out ?_ ?_)
    · intro hc0 hl0
      have HPM := Lib.hid (met_end HR.out.once HMT.out hl0)
      have HSR := Lib.hid (fun W u hm => psort_any W B u (l ++ acc) t (by rw [List.length_append, HPM.out.length_eq]; omega) (by rw [List.length_append]; omega) HP.out.1 ((List.Perm.append_left l HPM.out).trans HP.out.2) hm)
      go_wp2_with (go_at_call 122; refine (HSR.out _ _ HMD.out).mono ?_; rintro e w2 ⟨rfl, hm2, hg2⟩)
      go_ret
      refine ⟨_, rfl, hm2, HGR.out.andThen hg2 fun j hj => ?_⟩
      rcases HON.out with e | ⟨g, e, hg⟩
      · exact .inr (by rw [← e]; exact hj)
      · rw [e] at hj; injection hj with hj; exact .inl (by rw [HQ.out]; omega)
    · intro x c w1 cnt1 hwx hwc hlx hat hrg1 hlt hg1 hs1 hen
      obtain ⟨x, rfl, hx64⟩ := u64_nat hwx
      obtain ⟨c, rfl, hc64⟩ := u64_nat hwc
      have HST := Lib.hid (met_step HR.out HMT.out hlx hat)
      have HM1 := Lib.hid (HMD.out.grown hg1 HIT.out)
      have HG1 := Lib.hid hg1
      have HRG2 := Lib.hid hrg1
      have HS1 := Lib.hid hs1
      clear hg1 hrg1 hat hlx hwx hwc HMT hs1
      have hsz : q < w1.heap.size := by have := HRG2.out.lt; omega
      have hbq : b < q := by rw [← HQ.out]; exact HOW.out.lt
      have hub : ∀ u : Value, (u.ownBlock = v.ownBlock ∨ ∃ g, u.ownBlock = some g ∧ q < g) → some b ≠ u.ownBlock := fun u h e => by
        rcases h with h | ⟨g, h, hg⟩
        · rcases HNE.out with h' | h'
          · rw [h, h'] at e; cases e
          · exact h' (by rw [← h, ← e])
        · rw [h] at e; injection e with e; omega
      have HRK := Lib.hid (fun W4 (hg4 : (w1.alloc (.cells #[.int .u64 (x : Nat), .int .u64 (c : Nat)] 44)).grownBy W4 _) => (HRG2.out.alloc _).kept hg4 (hub _ HON.out) (fun e => by
        rcases HIT.out with h' | h'
        · rw [h'] at e; cases e
        · exact h' e.symm))
      have HGK := Lib.hid (fun W4 (hg4 : (w1.alloc (.cells #[.int .u64 (x : Nat), .int .u64 (c : Nat)] 44)).grownBy W4 _) => ((HGR.out.andThen HG1.out (fun j hj => .inl (by injection hj with hj; rw [HQ.out]; omega))).andThen (World.grownBy_alloc w1 (.cells #[.int .u64 (x : Nat), .int .u64 (c : Nat)] 44) none) (fun j hj => by cases hj)).andThen hg4 (fun j hj => by
        rcases HON.out with e | ⟨g, e, hg⟩
        · exact .inr (by rw [← e]; exact hj)
        · rw [e] at hj; injection hj with hj; exact .inl (by rw [HQ.out]; omega)))
      have HOK := Lib.hid (fun (v' : Value) (ho : v'.ownBlock = _ ∨ v'.ownBlock = some (w1.alloc (.cells #[.int .u64 (x : Nat), .int .u64 (c : Nat)] 44)).heap.size) => show v'.ownBlock = v.ownBlock ∨ ∃ g, v'.ownBlock = some g ∧ q < g from by
        rcases ho with e | e
        · rcases HON.out with e' | ⟨g, e', hg⟩
          · exact .inl (e.trans e')
          · exact .inr ⟨g, e.trans e', hg⟩
        · exact .inr ⟨_, e, by simp; omega⟩)
      clear hub
      go_wp2_with (at_builtin
                   refine wpList_pushX (w0 := w1) rfl (.tmp 14) (.tmp 18) _ rfl Tryz.underlying30 row_info rfl (by decide) (by decide) (B := B) (l := l ++ acc) (x, c) rfl rfl (HM1.out.alloc _) w1.heap.size 0 1 rfl (fun j u h => rowBoxed _ x c j u h) (row_one _) (by rw [List.length_append]; omega) (by omega) ((below_one _ _).mono (by omega)) ?_
                   intro v' w4 HV4 hbW4 Hg4 Ho4)
      go_roundw
      case rel => exact Lib.hid ⟨_, cnt1, acc ++ [(x, c)], HRK.out _ Hg4.out, HST.out, by rw [← List.append_assoc]; exact HV4.out, HGK.out _ Hg4.out, HOK.out _ Ho4.out⟩
      case measure => rw [(HRK.out _ Hg4.out).left_eq, HRG1.out.left_eq]; exact hlt
end Go.Proofs.YtnepdbfnbikplaaGreatDoor

namespace Go.Proofs.YtnepdbfnbikplaaGreatDoor
open Go.RowKit Go.Lib Tb Pt Opn

/-- What a setting does. -/
def setS (cap : Nat) (l : List R) (k v : Nat) : List R × Int × Int := match Tb.get l k with
  | some u => (put l k (v + 1), 0, ((u : Nat) : Int))
  | none => if cap < (mk 3 l k).length then (l, 9, 0) else (setR l k v, 0, 0)

set_option maxHeartbeats 8000000 in
set_option maxRecDepth 100000 in
theorem pset_any (c : Cf) (cap : Nat) (hcc : c.cap = cap) (o : O) (ho : Wf o) (hK0 : pth o ≠ 0) (w : World) (B : Nat) (hB : B ≤ w.heap.size) (v : Value) (l : List R) (hl : l.length ≤ 100000) (hu : Up l) (hw64 : ∀ x ∈ l, x.1 < 18446744073709551616) (hhop : ∀ x ∈ l, x.2 ≤ 2147483648) (hm : MadeX w B 44 2 rowL v l) :
    Calls Tryz.prog 108 #[cfv c, v, opv o] w (Own4 (setS cap l (pth o) o.c) B w v) := by
  have hKlt : pth o < 18446744073709551616 := by unfold Wf at ho; unfold pth; omega
  have HNM := Lib.hid (fun W => qNamed_any o ho W)
  have HKY := Lib.hid (fun W => qKey_any (o.a % 65536) (o.a / 65536) o.b (pth o) rfl hKlt W)
  have HSE := Lib.hid (fun A l d hl hu W hA => pseek_any A l d hl hu o ho W hA)
  generalize o.a % 65536 = na at *
  generalize o.a / 65536 = nb at *
  obtain ⟨K, hK⟩ : ∃ K, pth o = K := ⟨_, rfl⟩
  obtain ⟨V, hV⟩ : ∃ V, o.c = V := ⟨_, rfl⟩
  have hV32 : V < 4294967296 := by rw [← hV]; exact ho.2.2.2
  have hVw : IntKind.u64.wrap (V : Int) = (V : Int) := by rw [IntKind.wrap_u64]; omega
  obtain ⟨Z, hZ⟩ : ∃ Z, V + 1 = Z := ⟨_, rfl⟩
  have hVz : IntKind.u64.wrap ((V : Int) + 1) = (Z : Int) := by rw [IntKind.wrap_u64]; omega
  have HZ := Lib.hid hZ
  have HM := Lib.hid hm
  obtain ⟨A, d, rfl, ⟨hd1, hd2⟩, hAn, hA⟩ := hm.form rowL_len
  rw [hK] at HSE HKY hK0 hKlt ⊢
  have HWA := Lib.hid (fun W => withAbove_any K Z hK0 hKlt (by omega) W)
  have HLA := Lib.hid (fun b n m W hA hm => lacking_any b n m A l d (by omega) hw64 W hA hm)
  have HK0 := Lib.hid (And.intro hK0 hKlt)
  unfold cfv opv at *
  rw [hV] at HSE HNM ⊢
  rw [hcc]
  obtain ⟨s, hs⟩ : ∃ s, setS cap l K V = s := ⟨_, rfl⟩
  rw [hs]
  have HS := Lib.hid hs
  have HC := Lib.hid (And.intro hu hhop)
  have HAA := Lib.hid hA
  obtain ⟨N, hN⟩ : ∃ N, l.length = N := ⟨_, rfl⟩
  have HNL := Lib.hid hN
  have HSK := Lib.hid (fun W hA => HSE.out A l d (by omega) hu W hA)
  rw [hN] at hl hd1 HM HSK HLA ⊢
  have hov : ∀ b, (Value.slice A N d).ownBlock = some b → b < w.heap.size := fun b hb => (MadeX.lt HM.out b (by rw [hN] at *; exact hb)).2
  have HOV := Lib.hid hov
  clear hs hu hhop hAn hA hm hN hov hV hcc hK HSE hw64 hK0 hKlt hZ
  go_enter Tryz.func108, Tryz.ntmps108
  go_wp2_with fail
  obtain ⟨W, hW⟩ : ∃ W, W = ((w.alloc (.cells #[.int .u8 c.obj, .int .i64 c.inst, .int .i64 c.thr, .int .u8 c.kind, .int .i64 c.str, .int .i64 c.bits, .int .i64 (cap : Nat), .int .i64 c.node, .int .i64 c.bat, .int .i64 c.chunk, .int .u64 c.lim, .int .u64 c.most] 24)).alloc (.cells #[.int .u8 (o.k : Nat), .int .u32 (o.a : Nat), .int .u32 (o.b : Nat), .int .u32 (V : Nat)] 28)).alloc (.cells #[.int .i64 0, .int .u32 0, .slice none 0 0] 36) := ⟨_, rfl⟩
  have hb2 : Below w.heap.size w W := by rw [hW]; exact below_three _ _ _ _
  rw [← hW]
  have hcap : W.cell? ⟨w.heap.size, 6, none⟩ = some (.int .i64 (cap : Nat)) := by rw [hW]; simp [go_sem]
  have a0 : W.cell? ⟨w.heap.size + 1, 0, none⟩ = some (.int .u8 (o.k : Nat)) := by rw [hW]; simp [go_sem]
  have a1 : W.cell? ⟨w.heap.size + 1, 1, none⟩ = some (.int .u32 (o.a : Nat)) := by rw [hW]; simp [go_sem]
  have a2 : W.cell? ⟨w.heap.size + 1, 2, none⟩ = some (.int .u32 (o.b : Nat)) := by rw [hW]; simp [go_sem]
  have a3 : W.cell? ⟨w.heap.size + 1, 3, none⟩ = some (.int .u32 (V : Nat)) := by rw [hW]; simp [go_sem]
  have HRES : W.heap[w.heap.size + 1 + 1]? = some (.cells #[.int .i64 0, .int .u32 0, .slice none 0 0] 36 (0, 0)) := by
    rw [hW]; exact third_new _ _ _ _
  have hww : W.heap.size = w.heap.size + 3 := by rw [hW]; simp
  obtain ⟨q, hq⟩ : ∃ q, w.heap.size = q := ⟨_, rfl⟩
  have HB2 := Lib.hid hb2
  have HQ := Lib.hid hq
  rw [hq] at a0 a1 a2 a3 hcap hww HRES ⊢
  have hAx := Lib.hid (HAA.out.below hb2)
  have hMx := Lib.hid (MadeX.below HM.out hb2)
  clear hW hb2 hq
  refine (HSK.out W hAx.out).mono ?_
  rintro e w2 ⟨rfl, hb2⟩
  have HR2 := Lib.hid ((hb2.block _ (by omega)).trans HRES)
  have HB3 := Lib.hid (HB2.out.trans (hb2.mono HB2.out.size))
  replace a0 := (hb2.cell (World.block_lt_of_cell? _ _ a0)).trans a0
  replace a1 := (hb2.cell (World.block_lt_of_cell? _ _ a1)).trans a1
  replace a2 := (hb2.cell (World.block_lt_of_cell? _ _ a2)).trans a2
  replace a3 := (hb2.cell (World.block_lt_of_cell? _ _ a3)).trans a3
  replace hcap := (hb2.cell (World.block_lt_of_cell? _ _ hcap)).trans hcap
  have hs2 : q + 3 ≤ w2.heap.size := by have := hb2.size; omega
  have hM2 := Lib.hid (MadeX.below hMx.out hb2)
  have hA2 := Lib.hid (hAx.out.below hb2)
  clear hb2 HSK hww hAx hMx HRES
  rcases hget : Tb.get l K with _ | u
  · have HGT := Lib.hid hget
    clear hget
    simp only [Option.isSome]
    obtain ⟨p, hp⟩ : ∃ p, pos l K = p := ⟨_, rfl⟩
    rw [hp]
    clear hp
    go_wp2_with fail
    refine (HNM.out w2).mono ?_
    rintro e w3 ⟨rfl, hb3⟩
    go_wp2_with fail
    refine (HKY.out w3).mono ?_
    rintro e w4 ⟨rfl, hb4⟩
    go_wp2_with fail
    refine (HWA.out w4).mono ?_
    rintro e w5 ⟨b, rfl, hbb, hM5, hb5⟩
    have hb35 := below_then (below_then hb3 hb4) hb5
    have hA5 := Lib.hid (hA2.out.below hb35)
    have HM5 := Lib.hid hM5
    have HL5 := Lib.hid (hM2.out.below hb35)
    clear hM5
    go_wp2_with fail
    refine (HLA.out b 3 _ w5 hA5.out HM5.out).mono ?_
    rintro e w6 ⟨rfl, hM6, hg6⟩
    have hbw2 : w2.heap.size ≤ b := by have := hb3.size; have := hb4.size; omega
    have hb6 := hb35.grown hg6 hb35.size (fun j hj => by injection hj with hj; rw [← hj]; exact hbw2)
    have HL6 := Lib.hid (HL5.out.grown hg6 (made_map_ne HL5.out HM5.out))
    have HR6 := Lib.hid ((hb6.block (q + 1 + 1) (by omega)).trans HR2.out)
    replace hcap := (hb6.cell (World.block_lt_of_cell? _ _ hcap)).trans hcap
    have HB6 := Lib.hid (HB3.out.trans (hb6.mono HB3.out.size))
    have hs6 : q + 3 ≤ w6.heap.size := Nat.le_trans hs2 hb6.size
    have HM6 := Lib.hid hM6
    clear hM6 hg6 hb6 hb35 hb3 hb4 hb5 a0 a1 a2 a3 HNM HKY HWA HLA HL5 HM5 hA5
    have hcount := set_count HC.out.1 HK0.out.1 V HGT.out
    have hperm := set_perm HC.out.1 HK0.out.1 V HGT.out
    have hpos := List.length_pos_of_mem (lack_pos (v := Z) HGT.out)
    rw [HZ.out] at hcount hperm
    have hmle : (lack l (chainM K Z)).length ≤ 3 := Nat.le_trans (List.length_filter_le _ _) (chain_len K Z)
    have HPT := Lib.hid (fun W (hB2 : B ≤ W.heap.size) hm hM => putIn_any W B hB2 (.slice A N d) l (setR l K V) (lack l (chainM K Z)) b 3 (by rw [HNL.out]; exact hl) (by omega) hpos (up_set HC.out.1 K V) hperm.symm hm hM)
    obtain ⟨D, hown, hrep⟩ := HM6.out
    have HOW := Lib.hid hown
    have HSZ := Lib.hid hrep.size
    rw [HNL.out] at hcount
    obtain ⟨M, hMM⟩ : ∃ M, (lack l (chainM K Z)).length = M := ⟨_, rfl⟩
    have HMM := Lib.hid hMM
    rw [hMM] at hcount hmle HSZ
    have hadd : IntKind.i64.wrap ((N : Int) + (M : Int)) = (N : Int) + (M : Int) := by rw [IntKind.wrap_i64]; omega
    have HCT := Lib.hid hcount
    clear hown hrep hMM hcount hperm hpos
    by_cases hfull : cap < N + M
    · have hcn : (N : Int) + (M : Int) > (cap : Int) := by omega
      obtain ⟨r0, f0, r1, f1, r2, f2⟩ := res_cells HR6.out
      have es : s = (l, 9, 0) := by rw [← HS.out]; unfold setS; rw [HGT.out]; simp only; rw [if_pos (by rw [← HCT.out]; exact hfull)]
      go_wp2_with (at_len; refine wpList_len_own _ rfl _ 125 rfl 22 22 Tryz.underlying125 _ b 3 D rfl HOW.out ?_; rw [HSZ.out])
      refine bodyPost_ret (v := .tuple #[.slice A N d, .agg #[.int .i64 9, .int .u32 0, .slice none 0 0]]) ?_ rfl ⟨.slice A N d, ?_, ?_, ?_⟩
      · simp [results, Tryz.results108, go_sem, r0, r1, r2]
      · rw [es]; rfl
      · rw [es]; exact made_stored3 HL6.out (made_ne HL6.out HR6.out (by decide)) _ _ _
      · have hq := HQ.out
        exact grown_set (grown_set (grown_set (grown_below HB6.out _) (by omega) _ _) (by omega) _ _) (by omega) _ _
    · have hcn : ¬ (N : Int) + (M : Int) > (cap : Int) := by omega
      have ES := Lib.hid (show s = (setR l K V, 0, 0) by rw [← HS.out]; unfold setS; rw [HGT.out]; simp only; rw [if_neg (by rw [← HCT.out]; exact hfull)])
      go_wp2_with (first
        | (at_len; refine wpList_len_own _ rfl _ 125 rfl 22 22 Tryz.underlying125 _ b 3 D rfl HOW.out ?_; rw [HSZ.out])
        | (go_at_call 119
           refine (HPT.out w6 (by have := HQ.out; omega) HL6.out HM6.out).mono ?_
           rintro e w7 ⟨u, rfl, hM7, hg7⟩
           have HR7 := Lib.hid ((hg7.block (q + 1 + 1) (by omega) (fun e => by have := HOV.out _ e.symm; have := HQ.out; omega)).trans HR6.out)
           obtain ⟨r0, f0, r1, f1, r2, f2⟩ := res_cells HR7.out
           have HM7 := Lib.hid hM7
           clear hM7))
      refine bodyPost_ret (v := .tuple #[u, .agg #[.int .i64 0, .int .u32 0, .slice none 0 0]]) ?_ rfl ⟨u, ?_, ?_, ?_⟩
      · simp [results, Tryz.results108, go_sem, r0, r1, r2]
      · rw [ES.out]; rfl
      · rw [ES.out]; exact made_stored3 HM7.out (made_ne HM7.out HR7.out (by decide)) _ _ _
      · have hq := HQ.out
        exact grown_set (grown_set (grown_set (grown_trans (grown_below HB6.out _) hg7) (by omega) _ _) (by omega) _ _) (by omega) _ _
  · have HGT := Lib.hid hget
    clear hget HNM HKY HWA HLA
    simp only [Option.isSome]
    have HIT := Lib.hid (up_there HC.out.1 HGT.out)
    obtain ⟨hpl, hlp⟩ := there_at HIT.out.1
    have hp : pos l K = (lo l K).length := rfl
    rw [hp]
    have hhop : u ≤ 2147483648 := HC.out.2 (K, u) (by rw [← hlp]; exact List.getElem_mem hpl)
    obtain ⟨p, hpp⟩ : ∃ p, (lo l K).length = p := ⟨_, rfl⟩
    obtain ⟨bk, off, eA, x0, x1⟩ := hA2.out.row hpl
    rw [hlp] at x0 x1
    rw [hpp] at x0 x1 ⊢
    have hpN : p < N := by rw [← hpp, ← HNL.out]; exact hpl
    have HPP := Lib.hid hpp
    obtain ⟨gA, rfl, hgA, hgB⟩ : ∃ gA, A = some ⟨gA, 0, none⟩ ∧ (∀ o, w2.frozen? ⟨gA, o, none⟩ = false) ∧ gA < q := by
      rcases (show _ from hM2.out).2 with ⟨h, _⟩ | ⟨g', cap', cur', h, _, h3, _⟩
      · injection h with h; rw [eA] at h; cases h
      · injection h with h
        exact ⟨g', h, (alloc_shape h3).2, by rw [← HQ.out]; exact HOV.out g' (by rw [h]; rfl)⟩
    injection eA with eA
    injection eA with e1 e2 _
    subst e1 e2
    clear hp hpp hpl hlp
    have i1 : (0 : Int) ≤ (p : Int) := by omega
    have i2 : (p : Int) < (N : Int) := by omega
    have huw : IntKind.u32.wrap (u : Int) = (u : Int) := by rw [IntKind.wrap_u32]; omega
    have es : s = (put l K Z, 0, (u : Int)) := by rw [← HS.out]; unfold setS; rw [HGT.out]; simp only; rw [HZ.out]
    have ES := Lib.hid es
    clear es
    rw [Nat.zero_add] at x0 x1
    have fz1 := hgA (p * 2 + 1)
    have hgq : gA < w2.heap.size := by omega
    have hq2 : q + 1 + 1 < w2.heap.size := by omega
    have HR3 := Lib.hid ((Below.heap_setCell w2 ⟨gA, p * 2 + 1, none⟩ (.int .u64 (Z : Nat)) (q + 1 + 1) (by simp; omega)).trans HR2.out)
    obtain ⟨r0, f0, r1, f1, r2, f2⟩ := res_cells HR3.out
    clear a0 a1 a2 a3 hcap
    go_wp2
    have hb4 := grown_below HB3.out (some gA)
    have hm2 : MadeX w2 B 44 2 rowL (.slice (some ⟨gA, 0, none⟩) N d) (lo l K ++ (K, u) :: hi l K) := by rw [← HIT.out.1]; exact hM2.out
    have hmt := made_turned1 (v := Z) (by rw [← HIT.out.1]; exact HNL.out) hm2
    rw [HPP.out] at hmt
    refine bodyPost_ret (v := .tuple #[.slice (some ⟨gA, 0, none⟩) N d, .agg #[.int .i64 0, .int .u32 u, .slice none 0 0]]) ?_ rfl ⟨.slice (some ⟨gA, 0, none⟩) N d, ?_, ?_, ?_⟩
    · simp [results, Tryz.results108, go_sem, r0, r1, r2]
    · rw [ES.out]; rfl
    · rw [ES.out]; exact made_stored3 hmt (made_ne hmt HR3.out (by decide)) _ _ _
    · have hq := HQ.out
      refine grown_set (grown_set (grown_set ?_ (by omega) _ _) (by omega) _ _) (by omega) _ _
      have h5 : w2.grownBy (w2.setCell ⟨gA, p * 2 + 1, none⟩ (.int .u64 (Z : Nat))) (some gA) := ⟨rfl, rfl, rfl, by simp [World.setCell], fun i hi hne => Below.heap_setCell _ ⟨gA, _, none⟩ _ i (fun e => hne (by rw [e]))⟩
      exact grown_trans hb4 h5
end Go.Proofs.YtnepdbfnbikplaaGreatDoor

namespace Go.Proofs.YtnepdbfnbikplaaGreatDoor
open Go.RowKit Go.Lib Tb Pt Opn

set_option maxRecDepth 100000 in
set_option maxHeartbeats 4000000 in
theorem below1_any (x y k g : Nat) (hx : x < 18446744073709551616) (w : World) (hg : w.cell? ⟨g, 0, none⟩ = some (.int .u64 k)) :
    Calls Tryz.prog 125 #[.agg #[.int .u64 x, .int .u64 y], .pointer (some ⟨g, 0, none⟩)] w (Ret (.bool (decide (par x = k))) w) := by
  have HP := Lib.hid (fun W => qParent_any x hx W)
  obtain ⟨p, hp⟩ : ∃ p, par x = p := ⟨_, rfl⟩
  rw [hp] at HP ⊢
  clear hp hx
  have hgl := World.block_lt_of_cell? _ _ hg
  go_enter Tryz.func125, Tryz.ntmps125
  go_wp2
  obtain ⟨W, hW⟩ : ∃ W, W = w.alloc (.cells #[.int .u64 x, .int .u64 y] 44) := ⟨_, rfl⟩
  have hb := below_one w (.cells #[.int .u64 x, .int .u64 y] 44)
  rw [← hW] at hb ⊢
  have k0 := cell_regrown (show W.cell? ⟨w.heap.size, 0, none⟩ = some (.int .u64 x) by rw [hW]; simp [go_sem])
  have k1 := cell_regrown (show W.cell? ⟨g, 0, none⟩ = some (.int .u64 k) from (hb.cell hgl).trans hg)
  clear hW hg
  refine wp_region_quiet_below (by kernel_rfl) (by kernel_rfl) ?_
  repeat (go_big_quiet_step (exact Calls.regrown_of (HP.out _)))
  refine wpQuiet_nil ?_
  intro W3 hw'
  obtain ⟨⟨dq, osq⟩, hw''⟩ := hw'
  have hb3 := below_regrown W dq osq
  rw [← hw''] at hb3
  have hb4 := below_then hb hb3
  clear hw'' k0 k1
  go_wp2
  go_ret
  refine Ret.mk (bool_eq ?_) hb4
  rw [Bool.eq_iff_iff]
  simp
  try omega

/-- The first row whose parent is that one. -/
theorem used_step {l : List R} {j k : Nat} (hj : j < l.length) (h : ∀ m, (hm : m < l.length) → m < j → par l[m].1 ≠ k) (hn : par l[j].1 ≠ k) : ∀ m, (hm : m < l.length) → m < j + 1 → par l[m].1 ≠ k := fun m hm hlt => by
  rcases Nat.lt_or_eq_of_le (Nat.le_of_lt_succ hlt) with g | rfl
  · exact h m hm g
  · exact hn
theorem used_none {l : List R} {k : Nat} (h : ∀ m, (hm : m < l.length) → m < l.length → par l[m].1 ≠ k) : usedB l k = false := by
  rw [Bool.eq_false_iff]
  intro g
  obtain ⟨x, hx, e⟩ := used_yes.1 g
  obtain ⟨m, hm, rfl⟩ := List.getElem_of_mem hx
  exact h m hm hm e

set_option maxRecDepth 100000 in
set_option maxHeartbeats 4000000 in
theorem indexBelow_any (A : Option Addr) (l : List R) (d k g : Nat) (hl : l.length ≤ 1000000) (hw64 : ∀ x ∈ l, x.1 < 18446744073709551616) (w : World) (h : IsR w A l) (hg : w.cell? ⟨g, 0, none⟩ = some (.int .u64 k)) :
    Calls Tryz.prog 127 #[.slice A l.length d, .func (.func 125) #[] #[.pointer (some ⟨g, 0, none⟩)]] w fun e w' => ∃ i : Int, e = .returned (.int .i64 i) ∧ (0 ≤ i ↔ usedB l k = true) ∧ Below w.heap.size w w' := by
  have HA := Lib.hid h
  have HWW := Lib.hid hw64
  have HG := Lib.hid hg
  have hgl := World.block_lt_of_cell? _ _ hg
  clear h hw64 hg
  obtain ⟨N, hN⟩ : ∃ N, l.length = N := ⟨_, rfl⟩
  have HN := Lib.hid hN
  rw [hN] at hl ⊢
  clear hN
  go_enter Tryz.func127, Tryz.ntmps127
  go_wp2
  go_loopw [8] (fun iv wr => Below w.heap.size w wr ∧ ∃ j : Nat, j ≤ N ∧ iv = .int .i64 j ∧ Hid (∀ m, (hm : m < l.length) → m < j → par l[m].1 ≠ k)) (fun iv _ => N - (intOf iv).toNat)
  case atStart => exact ⟨Below.refl _ _, 0, Nat.zero_le _, rfl, Lib.hid fun m _ hm => by omega⟩
  case round =>
    obtain ⟨hbr, j, hj, rfl, HO⟩ := hrel
    have i1 : (0 : Int) ≤ (j : Int) := by omega
    by_cases hlt : j < N
    · have j1 : j < l.length := by rw [HN.out]; exact hlt
      have i2 : (j : Int) < (N : Int) := by omega
      obtain ⟨bk, off, rfl, h1, h2⟩ := HA.out.row j1
      replace h1 := (hbr.cell (World.block_lt_of_cell? _ _ h1)).trans h1
      replace h2 := (hbr.cell (World.block_lt_of_cell? _ _ h2)).trans h2
      have hk := HWW.out _ (List.getElem_mem j1)
      have HST := Lib.hid (used_step j1 HO.out)
      have HUY := Lib.hid (fun e : par (l[j]'j1).1 = k => used_yes.2 ⟨_, List.getElem_mem j1, e⟩)
      obtain ⟨x, hx⟩ : ∃ x, (l[j]'j1).1 = x := ⟨_, rfl⟩
      obtain ⟨y, hy⟩ : ∃ y, (l[j]'j1).2 = y := ⟨_, rfl⟩
      rw [hx] at h1 hk HST HUY
      rw [hy] at h2
      have HB1 := Lib.hid (fun W hc => below1_any x y k g hk W hc)
      have hgr := (hbr.cell hgl).trans HG.out
      clear hx hy hk HO
      by_cases hp : par x = k
      · rw [decide_eq_true hp] at HB1
        have HU := Lib.hid (HUY.out hp)
        clear HST HUY hp
        go_wp2_with (go_at_call 125; refine (HB1.out _ hgr).mono ?_; rintro e w2 ⟨rfl, hb2⟩)
        go_ret
        exact ⟨_, rfl, by simp [HU.out], below_then hbr hb2⟩
      · rw [decide_eq_false hp] at HB1
        have HT := Lib.hid (HST.out hp)
        clear HST HUY hp
        go_wp2_with (go_at_call 125; refine (HB1.out _ hgr).mono ?_; rintro e w2 ⟨rfl, hb2⟩)
        go_roundw
        case rel => exact ⟨below_then hbr hb2, j + 1, by omega, by go_num, HT⟩
        case measure => simp [intOf]; omega
    · obtain rfl : j = N := by omega
      have HU := Lib.hid (used_none (fun m hm _ => HO.out m hm (by rw [← HN.out]; exact hm)))
      go_wp2
      go_ret
      exact ⟨_, rfl, by simp [HU.out], hbr⟩

set_option maxRecDepth 100000 in
set_option maxHeartbeats 4000000 in
theorem hasBelow_any (A : Option Addr) (l : List R) (d k : Nat) (hl : l.length ≤ 1000000) (hw64 : ∀ x ∈ l, x.1 < 18446744073709551616) (w : World) (h : IsR w A l) :
    Calls Tryz.prog 120 #[.slice A l.length d, .int .u64 k] w (Ret (.bool (usedB l k)) w) := by
  have HI := Lib.hid (fun g W hA hc => indexBelow_any A l d k g hl hw64 W hA hc)
  have HA := Lib.hid h
  clear h hw64
  generalize l.length = N at *
  generalize usedB l k = u at *
  have HC := Lib.hid (show ∀ g W, IsR W A l → W.cell? ⟨g, 0, none⟩ = some (.int .u64 k) → Calls Tryz.prog 124 #[.slice A N d, .func (.func 125) #[] #[.pointer (some ⟨g, 0, none⟩)]] W (Ret (.bool u) W) from fun g W hA hc => by
    have HI2 := Lib.hid (HI.out g W hA hc)
    clear hc hA HI HA
    go_enter Tryz.func124, Tryz.ntmps124
    go_wp2_with (go_at_call 127; refine HI2.out.mono ?_; rintro e w2 ⟨i, rfl, hi, hb2⟩)
    go_ret
    refine Ret.mk (bool_eq ?_) hb2
    rw [Bool.eq_iff_iff, ← hi]
    all_goals simp)
  clear HI
  go_enter Tryz.func120, Tryz.ntmps120
  go_wp2_with (go_at_call 124; refine (HC.out _ _ (HA.out.below (below_one _ _)) (by simp [go_sem])).mono ?_; rintro e w2 ⟨rfl, hb2⟩)
  go_ret
  exact Ret.mk rfl (below_b1 hb2)

/-- What a taking out does. -/
def unsetS (l : List R) (k : Nat) : List R × Int × Int := match Tb.get l k with
  | some u => if usedB l k = true then (l, 90, 0) else (cut l k, 0, ((u : Nat) : Int))
  | none => (l, 6, 0)
/-- What a reading tells. -/
def readS (l : List R) (k : Nat) : Int × Int := match Tb.get l k with
  | some u => if u = 0 then (6, 0) else (0, ((u : Nat) : Int))
  | none => (6, 0)

set_option maxHeartbeats 4000000 in
set_option maxRecDepth 100000 in
theorem punset_any (o : O) (ho : Wf o) (w : World) (B : Nat) (v : Value) (l : List R) (hl : l.length ≤ 100000) (hu : Up l) (hw64 : ∀ x ∈ l, x.1 < 18446744073709551616) (hhop : ∀ x ∈ l, x.2 ≤ 2147483648) (hm : MadeX w B 44 2 rowL v l) :
    Calls Tryz.prog 109 #[v, opv o] w (Own4 (unsetS l (pth o)) B w v) := by
  have HM := Lib.hid hm
  obtain ⟨A, d, rfl, ⟨hd1, hd2⟩, hAn, hA⟩ := hm.form rowL_len
  have HSK := Lib.hid (fun W hA => pseek_any A l d (by omega) hu o ho W hA)
  have HHB := Lib.hid (fun k W hA => hasBelow_any A l d k (by omega) hw64 W hA)
  obtain ⟨K, hK⟩ : ∃ K, pth o = K := ⟨_, rfl⟩
  rw [hK] at HSK ⊢
  obtain ⟨s, hs⟩ : ∃ s, unsetS l K = s := ⟨_, rfl⟩
  rw [hs]
  have HS := Lib.hid hs
  have HC := Lib.hid (And.intro hu hhop)
  have HAA := Lib.hid hA
  obtain ⟨N, hN⟩ : ∃ N, l.length = N := ⟨_, rfl⟩
  have HNL := Lib.hid hN
  rw [hN] at hl hd1 HM HSK HHB ⊢
  have hov : ∀ b, (Value.slice A N d).ownBlock = some b → b < w.heap.size := fun b hb => (MadeX.lt HM.out b (by rw [hN] at *; exact hb)).2
  have HOV := Lib.hid hov
  clear hs hu hhop hAn hA hm hN hov hK hw64
  unfold opv at *
  obtain ⟨W, hW⟩ : ∃ W, W = (w.alloc (.cells #[.int .u8 (o.k : Nat), .int .u32 (o.a : Nat), .int .u32 (o.b : Nat), .int .u32 (o.c : Nat)] 28)).alloc (.cells #[.int .i64 0, .int .u32 0, .slice none 0 0] 36) := ⟨_, rfl⟩
  have HRES : W.heap[w.heap.size + 1]? = some (.cells #[.int .i64 0, .int .u32 0, .slice none 0 0] 36 (0, 0)) := by
    rw [hW]
    exact heap_alloc_new (w.alloc (.cells #[.int .u8 (o.k : Nat), .int .u32 (o.a : Nat), .int .u32 (o.b : Nat), .int .u32 (o.c : Nat)] 28)) _ |> fun h => by simpa using h
  have hbW : Below w.heap.size w W := by rw [hW]; exact below_two _ _ _
  have hww : W.heap.size = w.heap.size + 2 := by rw [hW]; simp
  have HW := Lib.hid hW
  have mixed : Tryz.prog.follows Departure.mixedOrders = true := by kernel_rfl
  go_enter Tryz.func109, Tryz.ntmps109
  go_wp2_with fail
  rw [← HW.out]
  obtain ⟨q, hq⟩ : ∃ q, w.heap.size = q := ⟨_, rfl⟩
  have HQ := Lib.hid hq
  rw [hq] at HRES hww ⊢
  have hAx := Lib.hid (HAA.out.below hbW)
  have hMx := Lib.hid (MadeX.below HM.out hbW)
  have HBW := Lib.hid hbW
  clear hW hq hbW HW
  refine (HSK.out W hAx.out).mono ?_
  rintro e w2 ⟨rfl, hb2⟩
  have hs2 : q + 2 ≤ w2.heap.size := by have := hb2.size; omega
  have HR2 := Lib.hid ((hb2.block _ (by omega)).trans HRES)
  have HB2 := Lib.hid (HBW.out.trans (hb2.mono HBW.out.size))
  have hM2 := Lib.hid (MadeX.below hMx.out hb2)
  have hA2 := Lib.hid (hAx.out.below hb2)
  clear hb2 HRES hww
  rcases hget : Tb.get l K with _ | u
  · have ES := Lib.hid (show s = (l, 6, 0) by rw [← HS.out]; unfold unsetS; rw [hget])
    simp only [Option.isSome]
    clear hget
    obtain ⟨r0, f0, r1, f1, r2, f2⟩ := res_cells HR2.out
    go_wp2
    have hq := HQ.out
    refine bodyPost_ret (v := .tuple #[.slice A N d, .agg #[.int .i64 6, .int .u32 0, .slice none 0 0]]) ?_ rfl ⟨.slice A N d, ?_, ?_, ?_⟩
    · simp [results, Tryz.results109, go_sem, r0, r1, r2]
    · rw [ES.out]; rfl
    · rw [ES.out]; exact made_stored3 hM2.out (made_ne hM2.out HR2.out (by decide)) _ _ _
    · exact grown_set (grown_set (grown_set (grown_below HB2.out _) (by omega) _ _) (by omega) _ _) (by omega) _ _
  · have HGT := Lib.hid hget
    clear hget
    simp only [Option.isSome]
    have HIT := Lib.hid (up_there HC.out.1 HGT.out)
    obtain ⟨hpl, hlp⟩ := there_at HIT.out.1
    have hp : pos l K = (lo l K).length := rfl
    rw [hp]
    have hhop : u ≤ 2147483648 := HC.out.2 (K, u) (by rw [← hlp]; exact List.getElem_mem hpl)
    obtain ⟨p, hpp⟩ : ∃ p, (lo l K).length = p := ⟨_, rfl⟩
    obtain ⟨bk, off, eA, x0, x1⟩ := hA2.out.row hpl
    rw [hlp] at x0 x1
    rw [hpp] at x0 x1 ⊢
    have hpN : p < N := by rw [← hpp, ← HNL.out]; exact hpl
    have HPP := Lib.hid hpp
    obtain ⟨gA, rfl, hgB⟩ : ∃ gA, A = some ⟨gA, 0, none⟩ ∧ gA < q := by
      rcases (show _ from hM2.out).2 with ⟨h, _⟩ | ⟨g', cap', cur', h, _, h3, _⟩
      · injection h with h; rw [eA] at h; cases h
      · injection h with h
        exact ⟨g', h, by rw [← HQ.out]; exact HOV.out g' (by rw [h]; rfl)⟩
    injection eA with eA
    injection eA with e1 e2 _
    subst e1 e2
    clear hp hpp hpl hlp
    have i1 : (0 : Int) ≤ (p : Int) := by omega
    have i2 : (p : Int) < (N : Int) := by omega
    rw [Nat.zero_add] at x0 x1
    have HH2 := Lib.hid (HHB.out K w2 hA2.out)
    go_wp2_with fail
    refine HH2.out.mono ?_
    rintro e w3 ⟨rfl, hb3⟩
    replace x0 := (hb3.cell (World.block_lt_of_cell? _ _ x0)).trans x0
    replace x1 := (hb3.cell (World.block_lt_of_cell? _ _ x1)).trans x1
    have HR3 := Lib.hid ((hb3.block _ (by omega)).trans HR2.out)
    have HB3 := Lib.hid (HB2.out.trans (hb3.mono HB2.out.size))
    have hM3 := Lib.hid (MadeX.below hM2.out hb3)
    have hs3 : q + 2 ≤ w3.heap.size := Nat.le_trans hs2 hb3.size
    clear hb3 HR2 HB2 hM2 hA2 HH2 HHB HSK hs2
    cases hub : usedB l K with
    | true =>
      have ES := Lib.hid (show s = (l, 90, 0) by rw [← HS.out]; unfold unsetS; rw [HGT.out]; simp only; rw [if_pos hub])
      clear hub
      obtain ⟨r0, f0, r1, f1, r2, f2⟩ := res_cells HR3.out
      go_wp2
      have hq := HQ.out
      refine bodyPost_ret (v := .tuple #[.slice (some ⟨gA, 0, none⟩) N d, .agg #[.int .i64 90, .int .u32 0, .slice none 0 0]]) ?_ rfl ⟨.slice (some ⟨gA, 0, none⟩) N d, ?_, ?_, ?_⟩
      · simp [results, Tryz.results109, go_sem, r0, r1, r2]
      · rw [ES.out]; rfl
      · rw [ES.out]; exact made_stored3 hM3.out (made_ne hM3.out HR3.out (by decide)) _ _ _
      · exact grown_set (grown_set (grown_set (grown_below HB3.out _) (by omega) _ _) (by omega) _ _) (by omega) _ _
    | false =>
      have ES := Lib.hid (show s = (cut l K, 0, ((u : Nat) : Int)) by rw [← HS.out]; unfold unsetS; rw [HGT.out]; simp only; rw [if_neg (by rw [hub]; simp)])
      clear hub
      have HD := Lib.hid (show ∀ X, MadeX X B 44 2 rowL (.slice (some ⟨gA, 0, none⟩) N d) l → Calls Tryz.prog 54 #[.slice (some ⟨gA, 0, none⟩) N d, .int .i64 p, .int .i64 ((p : Int) + 1)] X (RetI (cut l K) B X (.slice (some ⟨gA, 0, none⟩) N d)) from fun X hX => by
        have h := delete_any X B (.slice (some ⟨gA, 0, none⟩) N d) (lo l K) (hi l K) (K, u) (by rw [← HIT.out.1, HNL.out]; omega) (by rw [← HIT.out.1]; exact hX) ((p : Int) + 1) (by rw [HPP.out])
        rw [HPP.out, ← cut_eq K HC.out.1] at h
        exact h)
      have hw : IntKind.i64.wrap ((p : Int) + 1) = (p : Int) + 1 := by rw [IntKind.wrap_i64]; omega
      have huw : IntKind.u32.wrap (u : Int) = (u : Int) := by rw [IntKind.wrap_u32]; omega
      go_wp2_with fail
      refine (HD.out w3 hM3.out).mono ?_
      rintro e w5 ⟨v5, rfl, hM5, hg5⟩
      have HR5 := Lib.hid ((hg5.block (q + 1) (by omega) (own_ne (by omega))).trans HR3.out)
      obtain ⟨r0, f0, r1, f1, r2, f2⟩ := res_cells HR5.out
      have HG5 := Lib.hid (grown_trans (grown_below HB3.out _) hg5)
      have HM5 := Lib.hid hM5
      obtain ⟨A5, c5, rfl, _⟩ := MadeX.form rowL_len hM5
      obtain ⟨M, hM⟩ : ∃ M, (cut l K).length = M := ⟨_, rfl⟩
      rw [hM] at HM5 ⊢
      clear hg5 hM5 hM
      go_wp2
      have hq := HQ.out
      refine bodyPost_ret (v := .tuple #[.slice A5 M c5, .agg #[.int .i64 0, .int .u32 u, .slice none 0 0]]) ?_ rfl ⟨.slice A5 M c5, ?_, ?_, ?_⟩
      · simp [results, Tryz.results109, go_sem, r0, r1, r2]
      · rw [ES.out]; rfl
      · rw [ES.out]; exact made_stored3 HM5.out (made_ne HM5.out HR5.out (by decide)) _ _ _
      · exact grown_set (grown_set (grown_set HG5.out (by omega) _ _) (by omega) _ _) (by omega) _ _

set_option maxHeartbeats 4000000 in
set_option maxRecDepth 100000 in
theorem pread_any (o : O) (ho : Wf o) (A : Option Addr) (l : List R) (d : Nat) (hl : l.length ≤ 100000) (hu : Up l) (hhop : ∀ x ∈ l, x.2 ≤ 2147483648) (w : World) (hA : IsR w A l) :
    Calls Tryz.prog 110 #[.slice A l.length d, opv o] w (Ret (resv (readS l (pth o)).1 (readS l (pth o)).2 none 0 0) w) := by
  have HSK := Lib.hid (fun W hA => pseek_any A l d (by omega) hu o ho W hA)
  obtain ⟨K, hK⟩ : ∃ K, pth o = K := ⟨_, rfl⟩
  rw [hK] at HSK ⊢
  obtain ⟨s, hs⟩ : ∃ s, readS l K = s := ⟨_, rfl⟩
  rw [hs]
  have HS := Lib.hid hs
  have HC := Lib.hid (And.intro hu hhop)
  have HAA := Lib.hid hA
  obtain ⟨N, hN⟩ : ∃ N, l.length = N := ⟨_, rfl⟩
  have HNL := Lib.hid hN
  rw [hN] at hl HSK ⊢
  clear hs hu hhop hA hN hK
  unfold opv at *
  obtain ⟨W, hW⟩ : ∃ W, W = (w.alloc (.cells #[.int .u8 (o.k : Nat), .int .u32 (o.a : Nat), .int .u32 (o.b : Nat), .int .u32 (o.c : Nat)] 28)).alloc (.cells #[.int .i64 0, .int .u32 0, .slice none 0 0] 36) := ⟨_, rfl⟩
  have HRES : W.heap[w.heap.size + 1]? = some (.cells #[.int .i64 0, .int .u32 0, .slice none 0 0] 36 (0, 0)) := by
    rw [hW]
    exact heap_alloc_new (w.alloc (.cells #[.int .u8 (o.k : Nat), .int .u32 (o.a : Nat), .int .u32 (o.b : Nat), .int .u32 (o.c : Nat)] 28)) _ |> fun h => by simpa using h
  have hbW : Below w.heap.size w W := by rw [hW]; exact below_two _ _ _
  have hww : W.heap.size = w.heap.size + 2 := by rw [hW]; simp
  have HW := Lib.hid hW
  go_enter Tryz.func110, Tryz.ntmps110
  go_wp2_with fail
  rw [← HW.out]
  obtain ⟨q, hq⟩ : ∃ q, w.heap.size = q := ⟨_, rfl⟩
  have HQ := Lib.hid hq
  rw [hq] at HRES hww ⊢
  have hAx := Lib.hid (HAA.out.below hbW)
  have HBW := Lib.hid hbW
  clear hW hq hbW HW
  refine (HSK.out W hAx.out).mono ?_
  rintro e w2 ⟨rfl, hb2⟩
  have hs2 : q + 2 ≤ w2.heap.size := by have := hb2.size; omega
  have HR2 := Lib.hid ((hb2.block _ (by omega)).trans HRES)
  have HB2 := Lib.hid (HBW.out.trans (hb2.mono HBW.out.size))
  have hA2 := Lib.hid (hAx.out.below hb2)
  clear hb2 HRES hww HSK
  obtain ⟨r0, f0, r1, f1, r2, f2⟩ := res_cells HR2.out
  have HFB := Lib.hid (show ∀ a b c, Below w.heap.size w (((w2.setCell ⟨q + 1, 0, none⟩ a).setCell ⟨q + 1, 1, none⟩ b).setCell ⟨q + 1, 2, none⟩ c) from fun a b c => by
    have hq := HQ.out
    exact ((HB2.out.setCell (by simp; omega) _).setCell (by simp; omega) _).setCell (by simp; omega) _)
  rcases hget : Tb.get l K with _ | u
  · have ES := Lib.hid (show s = (6, 0) by rw [← HS.out]; unfold readS; rw [hget])
    simp only [Option.isSome]
    clear hget
    go_wp2
    refine bodyPost_ret (v := .agg #[.int .i64 6, .int .u32 0, .slice none 0 0]) ?_ rfl ⟨?_, ?_⟩
    · simp [results, Tryz.results110, go_sem, r0, r1, r2]
    · rw [ES.out]; rfl
    · exact HFB.out _ _ _
  · have HGT := Lib.hid hget
    simp only [Option.isSome]
    clear hget
    have HIT := Lib.hid (up_there HC.out.1 HGT.out)
    obtain ⟨hpl, hlp⟩ := there_at HIT.out.1
    have hp : pos l K = (lo l K).length := rfl
    rw [hp]
    have hhop : u ≤ 2147483648 := HC.out.2 (K, u) (by rw [← hlp]; exact List.getElem_mem hpl)
    obtain ⟨p, hpp⟩ : ∃ p, (lo l K).length = p := ⟨_, rfl⟩
    obtain ⟨bk, off, rfl, x0, x1⟩ := hA2.out.row hpl
    rw [hlp] at x0 x1
    rw [hpp] at x0 x1 ⊢
    have hpN : p < N := by rw [← hpp, ← HNL.out]; exact hpl
    clear hp hpp hpl hlp
    have i1 : (0 : Int) ≤ (p : Int) := by omega
    have i2 : (p : Int) < (N : Int) := by omega
    have huw : IntKind.u32.wrap (u : Int) = (u : Int) := by rw [IntKind.wrap_u32]; omega
    by_cases hu0 : u = 0
    · have ES := Lib.hid (show s = (6, 0) by rw [← HS.out]; unfold readS; rw [HGT.out]; simp only; rw [if_pos hu0])
      subst hu0
      go_wp2
      refine bodyPost_ret (v := .agg #[.int .i64 6, .int .u32 0, .slice none 0 0]) ?_ rfl ⟨?_, ?_⟩
      · simp [results, Tryz.results110, go_sem, r0, r1, r2]
      · rw [ES.out]; rfl
      · exact HFB.out _ _ _
    · have ES := Lib.hid (show s = (0, ((u : Nat) : Int)) by rw [← HS.out]; unfold readS; rw [HGT.out]; simp only; rw [if_neg hu0])
      have hu2 : ((u : Int) == 0) = false := by simpa using (by omega : ¬ (u : Int) = 0)
      go_wp2
      refine bodyPost_ret (v := .agg #[.int .i64 0, .int .u32 u, .slice none 0 0]) ?_ rfl ⟨?_, ?_⟩
      · simp [results, Tryz.results110, go_sem, r0, r1, r2]
      · rw [ES.out]; rfl
      · exact HFB.out _ _ _
end Go.Proofs.YtnepdbfnbikplaaGreatDoor

namespace Go.Proofs.YtnepdbfnbikplaaGreatDoor
open Go.RowKit Go.Lib Tb Pt Opn
set_option maxRecDepth 100000 in
set_option maxHeartbeats 4000000 in
theorem pdo_conf (c : Cf) (A : Option Addr) (N d : Nat) (o : O) (hno : ¬ (Ok c ∧ c.obj = 4)) (w : World) :
    Calls Tryz.prog 105 #[cfv c, .slice A N d, opv o] w (Did4 ([], 0, 0) 40 w) := by
  have HM := Lib.hid (qisOf_any c)
  rw [decide_eq_false hno] at HM
  clear hno
  unfold cfv opv at *
  go_enter Tryz.func105, Tryz.ntmps105
  go_wp2_with (go_at_call 106; refine (HM.out _).mono ?_; rintro e w1 ⟨rfl, hb1⟩; obtain ⟨hc1, hf1⟩ := bcell hb1)
  refine bodyPost_ret (v := .tuple #[.slice none 0 0, .agg #[.int .i64 0, .int .u32 0, .slice none 0 0], .int .i64 40]) ?_ rfl ⟨_, rfl, MadeX.nil _ _ _ _ _, ?_⟩
  · simp [results, Tryz.results105, go_sem, hc1]
  · exact (((below_then (below_three _ _ _ _) hb1).setCell (by simp; omega) _).setCell (by simp; omega) _).setCell (by simp; omega) _

set_option maxRecDepth 100000 in
set_option maxHeartbeats 4000000 in
theorem pdo_arg (c : Cf) (A : Option Addr) (l : List R) (d : Nat) (o : O) (hl : l.length ≤ 1000000) (hw64 : ∀ x ∈ l, x.1 < 18446744073709551616) (hg : Ok c ∧ c.obj = 4) (hno : ¬ IsPt c l) (w : World) (h : IsR w A l) :
    Calls Tryz.prog 105 #[cfv c, .slice A l.length d, opv o] w (Did4 ([], 0, 0) 2 w) := by
  have HM := Lib.hid (qisOf_any c)
  rw [decide_eq_true hg] at HM
  have HR := Lib.hid (fun W hA => pare_any c A l d hl hw64 W hA)
  have e : decide ((l.length : Int) ≤ c.cap ∧ Up l ∧ ∀ x ∈ l, PaOk x ∧ Kin l x.1) = false := decide_eq_false fun g => hno ⟨hg.1, hg.2, g.1, g.2.1, g.2.2⟩
  rw [e] at HR
  have HA := Lib.hid h
  clear e hg hno h hw64
  generalize l.length = N at *
  unfold cfv opv at *
  go_enter Tryz.func105, Tryz.ntmps105
  go_wp2_with (first
    | (go_at_call 106; refine (HM.out _).mono ?_; rintro e w1 ⟨rfl, hb1⟩; obtain ⟨hc1, hf1⟩ := bcell hb1)
    | (go_at_call 107; refine (HR.out _ (HA.out.below (below_then (below_three _ _ _ _) hb1))).mono ?_; rintro e w2 ⟨rfl, hb2⟩; replace hb1 := below_then hb1 hb2; clear hc1 hf1 hb2; obtain ⟨hc1, hf1⟩ := bcell hb1))
  refine bodyPost_ret (v := .tuple #[.slice none 0 0, .agg #[.int .i64 0, .int .u32 0, .slice none 0 0], .int .i64 2]) ?_ rfl ⟨_, rfl, MadeX.nil _ _ _ _ _, ?_⟩
  · simp [results, Tryz.results105, go_sem, hc1]
  · exact (((below_then (below_three _ _ _ _) hb1).setCell (by simp; omega) _).setCell (by simp; omega) _).setCell (by simp; omega) _

set_option maxRecDepth 100000 in
set_option maxHeartbeats 4000000 in
theorem pdo_bad (c : Cf) (A : Option Addr) (l : List R) (d : Nat) (o : O) (ho : Wf o) (hAn : A = none → l.length = 0 ∧ d = 0) (hl : l.length ≤ 100000) (hw64 : ∀ x ∈ l, x.1 < 18446744073709551616) (ht : IsPt c l) (hbad : chk c o ≠ 0) (w : World) (hp : Obs w) (h : IsR w A l) :
    Calls Tryz.prog 105 #[cfv c, .slice A l.length d, opv o] w (Did4 (l, chk c o, 0) 0 w) := by
  have HM := Lib.hid (qisOf_any c)
  have hg : Ok c ∧ c.obj = 4 := ⟨ht.1, ht.2.1⟩
  rw [decide_eq_true hg] at HM
  obtain ⟨cap, hcap⟩ : ∃ cap : Nat, c.cap = cap := by
    have hb := hg.1.2.2
    unfold RestOk at hb
    exact ⟨c.cap.toNat, by omega⟩
  have HR := Lib.hid (fun W hA => pare_any c A l d (by omega) hw64 W hA)
  have e : decide ((l.length : Int) ≤ c.cap ∧ Up l ∧ ∀ x ∈ l, PaOk x ∧ Kin l x.1) = true := decide_eq_true ⟨ht.2.2.1, ht.2.2.2.1, ht.2.2.2.2⟩
  rw [e] at HR
  have HA := Lib.hid h
  have HCL := Lib.hid (fun W hA => clone_any A l d (by omega) hAn W hA)
  have HCK := Lib.hid (check_op c o ho)
  have HP := Lib.hid hp
  have hob := hg.2
  have hlc : l.length ≤ cap := by have := ht.2.2.1; omega
  have HV := Lib.hid (And.intro ht.2.2.2.1 (show ∀ x ∈ l, x.2 ≤ 2147483648 from fun x hx => (ht.2.2.2.2 x hx).1.2))
  have hbad2 : (chk c o != 0) = true := bne_iff_ne.2 hbad
  generalize chk c o = x at *
  clear e h ht hAn ho hp hg hw64
  unfold cfv opv at *
  rw [hob] at HM HR HCK ⊢
  rw [hcap] at HM HR HCK ⊢
  clear hob hcap
  generalize hN : l.length = N at *
  have HNL := Lib.hid hN
  clear hN
  go_enter Tryz.func105, Tryz.ntmps105
  go_wp2_with (first
    | (go_at_call 106; refine (HM.out _).mono ?_; rintro e w1 ⟨rfl, hb1⟩; obtain ⟨hc1, hf1⟩ := bcell hb1)
    | (go_at_call 107; refine (HR.out _ (HA.out.below (below_then (below_three _ _ _ _) hb1))).mono ?_; rintro e w2 ⟨rfl, hb2⟩; replace hb1 := below_then hb1 hb2; clear hc1 hf1 hb2; obtain ⟨hc1, hf1⟩ := bcell hb1)
    | (go_at_call 46; refine (HCL.out _ (HA.out.below (below_then (below_three _ _ _ _) hb1))).mono ?_; rintro e w3 ⟨u3, rfl, hM3, hb3⟩; have hs1 := hb1.size; replace hb1 := below_then hb1 hb3; clear hc1 hf1 hb3; obtain ⟨hc1, hf1⟩ := bcell hb1; have HM3 := Lib.hid hM3; clear hM3)
    | (go_at_call 7; refine (HCK.out _ (HP.out.below (below_then (below_three _ _ _ _) hb1))).mono ?_; rintro e w4 ⟨rfl, hb4⟩; replace hb1 := below_then hb1 hb4; clear hc1 hf1; obtain ⟨hc1, hf1⟩ := bcell hb1))
  have HM4 := Lib.hid (HM3.out.below hb4)
  have hne : u3.ownBlock ≠ some (w.heap.size + 1 + 1) := fun e => by
    have := (MadeX.lt HM3.out _ e).1
    simp at hs1; omega
  refine bodyPost_ret (v := .tuple #[u3, .agg #[.int .i64 x, .int .u32 0, .slice none 0 0], .int .i64 0]) ?_ rfl ⟨_, rfl, ?_, ?_⟩
  · simp [results, Tryz.results105, go_sem, hc1]
  · exact made_stored3 (MadeX.down HM4.out (by simp at hs1; omega)) hne _ _ _
  · exact (((below_then (below_three _ _ _ _) hb1).setCell (by simp; omega) _).setCell (by simp; omega) _).setCell (by simp; omega) _

set_option maxRecDepth 100000 in
set_option maxHeartbeats 4000000 in
theorem pdo_set (c : Cf) (A : Option Addr) (l : List R) (d : Nat) (o : O) (ho : Wf o) (hAn : A = none → l.length = 0 ∧ d = 0) (hl : l.length ≤ 100000) (hw64 : ∀ x ∈ l, x.1 < 18446744073709551616) (ht : IsPt c l) (hk : o.k = 12) (hgood : chk c o = 0) (w : World) (hp : Obs w) (h : IsR w A l) :
    Calls Tryz.prog 105 #[cfv c, .slice A l.length d, opv o] w (Did4 (setS c.cap.toNat l (pth o) o.c) 0 w) := by
  have HM := Lib.hid (qisOf_any c)
  have hg : Ok c ∧ c.obj = 4 := ⟨ht.1, ht.2.1⟩
  rw [decide_eq_true hg] at HM
  obtain ⟨cap, hcap⟩ : ∃ cap : Nat, c.cap = cap := by
    have hb := hg.1.2.2
    unfold RestOk at hb
    exact ⟨c.cap.toNat, by omega⟩
  have HR := Lib.hid (fun W hA => pare_any c A l d (by omega) hw64 W hA)
  have e : decide ((l.length : Int) ≤ c.cap ∧ Up l ∧ ∀ x ∈ l, PaOk x ∧ Kin l x.1) = true := decide_eq_true ⟨ht.2.2.1, ht.2.2.2.1, ht.2.2.2.2⟩
  rw [e] at HR
  have HA := Lib.hid h
  have HCL := Lib.hid (fun W hA => clone_any A l d (by omega) hAn W hA)
  have HCK := Lib.hid (check_op c o ho)
  have HP := Lib.hid hp
  have hob := hg.2
  have hlc : l.length ≤ cap := by have := ht.2.2.1; omega
  have HV := Lib.hid (And.intro ht.2.2.2.1 (show ∀ x ∈ l, x.2 ≤ 2147483648 from fun x hx => (ht.2.2.2.2 x hx).1.2))
  have hK0 : pth o ≠ 0 := (pth_path ho (fits_four hob hgood).1).2.1
  rw [hgood] at HCK
  have HI := Lib.hid (fun W B (hB : B ≤ W.heap.size) v hm => pset_any c cap hcap o ho hK0 W B hB v l (by omega) HV.out.1 hw64 HV.out.2 hm)
  rw [show c.cap.toNat = cap by omega]
  obtain ⟨s, hs⟩ : ∃ s, setS cap l (pth o) o.c = s := ⟨_, rfl⟩
  rw [hs] at HI ⊢
  clear hs
  obtain ⟨rows, x, y⟩ := s
  clear e h ht hAn ho hp hg hw64 hgood hK0
  unfold cfv opv at *
  rw [hob] at HM HR HCK HI ⊢
  rw [hcap] at HM HR HCK HI ⊢
  rw [hk] at HCK HI ⊢
  clear hob hcap hk
  generalize hN : l.length = N at *
  have HNL := Lib.hid hN
  clear hN
  go_enter Tryz.func105, Tryz.ntmps105
  go_wp2_with (first
    | (go_at_call 106; refine (HM.out _).mono ?_; rintro e w1 ⟨rfl, hb1⟩; obtain ⟨hc1, hf1⟩ := bcell hb1)
    | (go_at_call 107; refine (HR.out _ (HA.out.below (below_then (below_three _ _ _ _) hb1))).mono ?_; rintro e w2 ⟨rfl, hb2⟩; replace hb1 := below_then hb1 hb2; clear hc1 hf1 hb2; obtain ⟨hc1, hf1⟩ := bcell hb1)
    | (go_at_call 46; refine (HCL.out _ (HA.out.below (below_then (below_three _ _ _ _) hb1))).mono ?_; rintro e w3 ⟨u3, rfl, hM3, hb3⟩; have hs1 := hb1.size; replace hb1 := below_then hb1 hb3; clear hc1 hf1 hb3; obtain ⟨hc1, hf1⟩ := bcell hb1; have HM3 := Lib.hid hM3; clear hM3)
    | (go_at_call 7; refine (HCK.out _ (HP.out.below (below_then (below_three _ _ _ _) hb1))).mono ?_; rintro e w4 ⟨rfl, hb4⟩; replace hb1 := below_then hb1 hb4; clear hc1 hf1; obtain ⟨hc1, hf1⟩ := bcell hb1))
  have HM4 := Lib.hid (HM3.out.below hb4)
  have hne : u3.ownBlock ≠ some (w.heap.size + 1 + 1) := fun e => by
    have := (MadeX.lt HM3.out _ e).1
    simp at hs1; omega
  have hq : w.heap.size + 1 + 1 < w4.heap.size := by have := hb1.size; simp at this; omega
  have hbw := below_then (below_three _ _ _ _) hb1
  refine (HI.out w4 w.heap.size hbw.size u3 (MadeX.down HM4.out (by simp at hs1; omega))).mono ?_
  rintro e w5 ⟨u, rfl, hM5, hg5⟩
  have hx : ∀ j, w5.cell? ⟨w.heap.size + 1 + 1, j, none⟩ = w4.cell? ⟨w.heap.size + 1 + 1, j, none⟩ := fun j => World.cell?_of_block (hg5.block _ hq (fun e => hne e.symm))
  have hy : ∀ j, w5.frozen? ⟨w.heap.size + 1 + 1, j, none⟩ = w4.frozen? ⟨w.heap.size + 1 + 1, j, none⟩ := fun j => World.frozen?_of_block (hg5.block _ hq (fun e => hne e.symm))
  have r0 : w5.cell? ⟨w.heap.size + 1 + 1, 0, none⟩ = some (.int .i64 0) := (hx 0).trans ((hc1 _ _ (by simp)).trans (by simp [go_sem]))
  have r1 : w5.cell? ⟨w.heap.size + 1 + 1, 1, none⟩ = some (.int .u32 0) := (hx 1).trans ((hc1 _ _ (by simp)).trans (by simp [go_sem]))
  have r2 : w5.cell? ⟨w.heap.size + 1 + 1, 2, none⟩ = some (.slice none 0 0) := (hx 2).trans ((hc1 _ _ (by simp)).trans (by simp [go_sem]))
  have f0 : w5.frozen? ⟨w.heap.size + 1 + 1, 0, none⟩ = false := (hy 0).trans ((hf1 _ _ (by simp)).trans (by simp [go_sem]))
  have f1 : w5.frozen? ⟨w.heap.size + 1 + 1, 1, none⟩ = false := (hy 1).trans ((hf1 _ _ (by simp)).trans (by simp [go_sem]))
  have f2 : w5.frozen? ⟨w.heap.size + 1 + 1, 2, none⟩ = false := (hy 2).trans ((hf1 _ _ (by simp)).trans (by simp [go_sem]))
  have h3 := HM3.out
  have hb5 := Lib.hid (hbw.grown hg5 hbw.size (fun k hk => by have := (MadeX.lt h3 k hk).1; simp at hs1; omega))
  have hre : w5.heap[w.heap.size + 1 + 1]? = some (.cells #[.int .i64 0, .int .u32 0, .slice none 0 0] 36 (0, 0)) := (hg5.block _ hq (fun e => hne e.symm)).trans ((hb1.block (w.heap.size + 1 + 1) (by simp)).trans (third_new _ _ _ _))
  have hnu := made_ne hM5 hre (by decide)
  have HNU := Lib.hid hnu
  have HM5 := Lib.hid hM5
  clear hx hy hc1 hf1 hre hbw hM5 hg5 h3 hnu
  have mixed : Tryz.prog.follows Departure.mixedOrders = true := by kernel_rfl
  unfold resv
  go_wp2
  obtain ⟨W6, hW6⟩ : ∃ W6, W6 = ((w5.setCell ⟨w.heap.size + 1 + 1, 0, none⟩ (.int .i64 x)).setCell ⟨w.heap.size + 1 + 1, 1, none⟩ (.int .u32 y)).setCell ⟨w.heap.size + 1 + 1, 2, none⟩ (.slice none 0 0) := ⟨_, rfl⟩
  rw [← hW6]
  have s0 : W6.cell? ⟨w.heap.size + 1 + 1, 0, none⟩ = some (.int .i64 x) := by rw [hW6]; simp [go_sem, r0]
  have s1 : W6.cell? ⟨w.heap.size + 1 + 1, 1, none⟩ = some (.int .u32 y) := by rw [hW6]; simp [go_sem, r1]
  have s2 : W6.cell? ⟨w.heap.size + 1 + 1, 2, none⟩ = some (.slice none 0 0) := by rw [hW6]; simp [go_sem, r2]
  have t0 : W6.frozen? ⟨w.heap.size + 1 + 1, 0, none⟩ = false := by rw [hW6]; simp [go_sem, f0]
  have t1 : W6.frozen? ⟨w.heap.size + 1 + 1, 1, none⟩ = false := by rw [hW6]; simp [go_sem, f1]
  have t2 : W6.frozen? ⟨w.heap.size + 1 + 1, 2, none⟩ = false := by rw [hW6]; simp [go_sem, f2]
  have HM6 := Lib.hid (show MadeX W6 w.heap.size 44 2 rowL u rows by rw [hW6]; exact made_stored3 HM5.out HNU.out _ _ _)
  have hb6 := Lib.hid (show Below w.heap.size w W6 by rw [hW6]; exact ((hb5.out.setCell (by simp; omega) _).setCell (by simp; omega) _).setCell (by simp; omega) _)
  clear hW6 r0 r1 r2 f0 f1 f2
  go_region
  go_wp2
  refine bodyPost_ret (v := .tuple #[u, .agg #[.int .i64 x, .int .u32 y, .slice none 0 0], .int .i64 0]) ?_ rfl ⟨_, rfl, ?_, ?_⟩
  · simp [results, Tryz.results105, go_sem, s0, s1, s2]
  · exact made_stored3 (MadeX.below HM6.out ⟨rfl, rfl, rfl, Nat.le_refl _, fun _ _ => rfl⟩) HNU.out _ _ _
  · exact ((hb6.out.drew.setCell (by simp; omega) _).setCell (by simp; omega) _).setCell (by simp; omega) _

set_option maxRecDepth 100000 in
set_option maxHeartbeats 4000000 in
theorem pdo_unset (c : Cf) (A : Option Addr) (l : List R) (d : Nat) (o : O) (ho : Wf o) (hAn : A = none → l.length = 0 ∧ d = 0) (hl : l.length ≤ 100000) (hw64 : ∀ x ∈ l, x.1 < 18446744073709551616) (ht : IsPt c l) (hk : o.k = 13) (hgood : chk c o = 0) (w : World) (hp : Obs w) (h : IsR w A l) :
    Calls Tryz.prog 105 #[cfv c, .slice A l.length d, opv o] w (Did4 (unsetS l (pth o)) 0 w) := by
  have HM := Lib.hid (qisOf_any c)
  have hg : Ok c ∧ c.obj = 4 := ⟨ht.1, ht.2.1⟩
  rw [decide_eq_true hg] at HM
  obtain ⟨cap, hcap⟩ : ∃ cap : Nat, c.cap = cap := by
    have hb := hg.1.2.2
    unfold RestOk at hb
    exact ⟨c.cap.toNat, by omega⟩
  have HR := Lib.hid (fun W hA => pare_any c A l d (by omega) hw64 W hA)
  have e : decide ((l.length : Int) ≤ c.cap ∧ Up l ∧ ∀ x ∈ l, PaOk x ∧ Kin l x.1) = true := decide_eq_true ⟨ht.2.2.1, ht.2.2.2.1, ht.2.2.2.2⟩
  rw [e] at HR
  have HA := Lib.hid h
  have HCL := Lib.hid (fun W hA => clone_any A l d (by omega) hAn W hA)
  have HCK := Lib.hid (check_op c o ho)
  have HP := Lib.hid hp
  have hob := hg.2
  have hlc : l.length ≤ cap := by have := ht.2.2.1; omega
  have HV := Lib.hid (And.intro ht.2.2.2.1 (show ∀ x ∈ l, x.2 ≤ 2147483648 from fun x hx => (ht.2.2.2.2 x hx).1.2))
  rw [hgood] at HCK
  have HI := Lib.hid (fun W B (hB : B ≤ W.heap.size) v hm => punset_any o ho W B v l (by omega) HV.out.1 hw64 HV.out.2 hm)
  obtain ⟨s, hs⟩ : ∃ s, unsetS l (pth o) = s := ⟨_, rfl⟩
  rw [hs] at HI ⊢
  clear hs
  obtain ⟨rows, x, y⟩ := s
  clear e h ht hAn ho hp hg hw64 hgood
  unfold cfv opv at *
  rw [hob] at HM HR HCK  ⊢
  rw [hcap] at HM HR HCK  ⊢
  rw [hk] at HCK HI ⊢
  clear hob hcap hk
  generalize hN : l.length = N at *
  have HNL := Lib.hid hN
  clear hN
  go_enter Tryz.func105, Tryz.ntmps105
  go_wp2_with (first
    | (go_at_call 106; refine (HM.out _).mono ?_; rintro e w1 ⟨rfl, hb1⟩; obtain ⟨hc1, hf1⟩ := bcell hb1)
    | (go_at_call 107; refine (HR.out _ (HA.out.below (below_then (below_three _ _ _ _) hb1))).mono ?_; rintro e w2 ⟨rfl, hb2⟩; replace hb1 := below_then hb1 hb2; clear hc1 hf1 hb2; obtain ⟨hc1, hf1⟩ := bcell hb1)
    | (go_at_call 46; refine (HCL.out _ (HA.out.below (below_then (below_three _ _ _ _) hb1))).mono ?_; rintro e w3 ⟨u3, rfl, hM3, hb3⟩; have hs1 := hb1.size; replace hb1 := below_then hb1 hb3; clear hc1 hf1 hb3; obtain ⟨hc1, hf1⟩ := bcell hb1; have HM3 := Lib.hid hM3; clear hM3)
    | (go_at_call 7; refine (HCK.out _ (HP.out.below (below_then (below_three _ _ _ _) hb1))).mono ?_; rintro e w4 ⟨rfl, hb4⟩; replace hb1 := below_then hb1 hb4; clear hc1 hf1; obtain ⟨hc1, hf1⟩ := bcell hb1))
  have HM4 := Lib.hid (HM3.out.below hb4)
  have hne : u3.ownBlock ≠ some (w.heap.size + 1 + 1) := fun e => by
    have := (MadeX.lt HM3.out _ e).1
    simp at hs1; omega
  have hq : w.heap.size + 1 + 1 < w4.heap.size := by have := hb1.size; simp at this; omega
  have hbw := below_then (below_three _ _ _ _) hb1
  refine (HI.out w4 w.heap.size hbw.size u3 (MadeX.down HM4.out (by simp at hs1; omega))).mono ?_
  rintro e w5 ⟨u, rfl, hM5, hg5⟩
  have hx : ∀ j, w5.cell? ⟨w.heap.size + 1 + 1, j, none⟩ = w4.cell? ⟨w.heap.size + 1 + 1, j, none⟩ := fun j => World.cell?_of_block (hg5.block _ hq (fun e => hne e.symm))
  have hy : ∀ j, w5.frozen? ⟨w.heap.size + 1 + 1, j, none⟩ = w4.frozen? ⟨w.heap.size + 1 + 1, j, none⟩ := fun j => World.frozen?_of_block (hg5.block _ hq (fun e => hne e.symm))
  have r0 : w5.cell? ⟨w.heap.size + 1 + 1, 0, none⟩ = some (.int .i64 0) := (hx 0).trans ((hc1 _ _ (by simp)).trans (by simp [go_sem]))
  have r1 : w5.cell? ⟨w.heap.size + 1 + 1, 1, none⟩ = some (.int .u32 0) := (hx 1).trans ((hc1 _ _ (by simp)).trans (by simp [go_sem]))
  have r2 : w5.cell? ⟨w.heap.size + 1 + 1, 2, none⟩ = some (.slice none 0 0) := (hx 2).trans ((hc1 _ _ (by simp)).trans (by simp [go_sem]))
  have f0 : w5.frozen? ⟨w.heap.size + 1 + 1, 0, none⟩ = false := (hy 0).trans ((hf1 _ _ (by simp)).trans (by simp [go_sem]))
  have f1 : w5.frozen? ⟨w.heap.size + 1 + 1, 1, none⟩ = false := (hy 1).trans ((hf1 _ _ (by simp)).trans (by simp [go_sem]))
  have f2 : w5.frozen? ⟨w.heap.size + 1 + 1, 2, none⟩ = false := (hy 2).trans ((hf1 _ _ (by simp)).trans (by simp [go_sem]))
  have h3 := HM3.out
  have hb5 := Lib.hid (hbw.grown hg5 hbw.size (fun k hk => by have := (MadeX.lt h3 k hk).1; simp at hs1; omega))
  have hre : w5.heap[w.heap.size + 1 + 1]? = some (.cells #[.int .i64 0, .int .u32 0, .slice none 0 0] 36 (0, 0)) := (hg5.block _ hq (fun e => hne e.symm)).trans ((hb1.block (w.heap.size + 1 + 1) (by simp)).trans (third_new _ _ _ _))
  have hnu := made_ne hM5 hre (by decide)
  have HNU := Lib.hid hnu
  have HM5 := Lib.hid hM5
  clear hx hy hc1 hf1 hre hbw hM5 hg5 h3 hnu
  have mixed : Tryz.prog.follows Departure.mixedOrders = true := by kernel_rfl
  unfold resv
  go_wp2
  obtain ⟨W6, hW6⟩ : ∃ W6, W6 = ((w5.setCell ⟨w.heap.size + 1 + 1, 0, none⟩ (.int .i64 x)).setCell ⟨w.heap.size + 1 + 1, 1, none⟩ (.int .u32 y)).setCell ⟨w.heap.size + 1 + 1, 2, none⟩ (.slice none 0 0) := ⟨_, rfl⟩
  rw [← hW6]
  have s0 : W6.cell? ⟨w.heap.size + 1 + 1, 0, none⟩ = some (.int .i64 x) := by rw [hW6]; simp [go_sem, r0]
  have s1 : W6.cell? ⟨w.heap.size + 1 + 1, 1, none⟩ = some (.int .u32 y) := by rw [hW6]; simp [go_sem, r1]
  have s2 : W6.cell? ⟨w.heap.size + 1 + 1, 2, none⟩ = some (.slice none 0 0) := by rw [hW6]; simp [go_sem, r2]
  have t0 : W6.frozen? ⟨w.heap.size + 1 + 1, 0, none⟩ = false := by rw [hW6]; simp [go_sem, f0]
  have t1 : W6.frozen? ⟨w.heap.size + 1 + 1, 1, none⟩ = false := by rw [hW6]; simp [go_sem, f1]
  have t2 : W6.frozen? ⟨w.heap.size + 1 + 1, 2, none⟩ = false := by rw [hW6]; simp [go_sem, f2]
  have HM6 := Lib.hid (show MadeX W6 w.heap.size 44 2 rowL u rows by rw [hW6]; exact made_stored3 HM5.out HNU.out _ _ _)
  have hb6 := Lib.hid (show Below w.heap.size w W6 by rw [hW6]; exact ((hb5.out.setCell (by simp; omega) _).setCell (by simp; omega) _).setCell (by simp; omega) _)
  clear hW6 r0 r1 r2 f0 f1 f2
  go_region
  go_wp2
  refine bodyPost_ret (v := .tuple #[u, .agg #[.int .i64 x, .int .u32 y, .slice none 0 0], .int .i64 0]) ?_ rfl ⟨_, rfl, ?_, ?_⟩
  · simp [results, Tryz.results105, go_sem, s0, s1, s2]
  · exact made_stored3 (MadeX.below HM6.out ⟨rfl, rfl, rfl, Nat.le_refl _, fun _ _ => rfl⟩) HNU.out _ _ _
  · exact ((hb6.out.drew.setCell (by simp; omega) _).setCell (by simp; omega) _).setCell (by simp; omega) _

set_option maxRecDepth 100000 in
set_option maxHeartbeats 4000000 in
theorem pdo_read (c : Cf) (A : Option Addr) (l : List R) (d : Nat) (o : O) (ho : Wf o) (hAn : A = none → l.length = 0 ∧ d = 0) (hl : l.length ≤ 100000) (hw64 : ∀ x ∈ l, x.1 < 18446744073709551616) (ht : IsPt c l) (hk : o.k = 14) (hgood : chk c o = 0) (w : World) (hp : Obs w) (h : IsR w A l) :
    Calls Tryz.prog 105 #[cfv c, .slice A l.length d, opv o] w (Did4 (l, (readS l (pth o)).1, (readS l (pth o)).2) 0 w) := by
  have HM := Lib.hid (qisOf_any c)
  have hg : Ok c ∧ c.obj = 4 := ⟨ht.1, ht.2.1⟩
  rw [decide_eq_true hg] at HM
  obtain ⟨cap, hcap⟩ : ∃ cap : Nat, c.cap = cap := by
    have hb := hg.1.2.2
    unfold RestOk at hb
    exact ⟨c.cap.toNat, by omega⟩
  have HR := Lib.hid (fun W hA => pare_any c A l d (by omega) hw64 W hA)
  have e : decide ((l.length : Int) ≤ c.cap ∧ Up l ∧ ∀ x ∈ l, PaOk x ∧ Kin l x.1) = true := decide_eq_true ⟨ht.2.2.1, ht.2.2.2.1, ht.2.2.2.2⟩
  rw [e] at HR
  have HA := Lib.hid h
  have HCL := Lib.hid (fun W hA => clone_any A l d (by omega) hAn W hA)
  have HCK := Lib.hid (check_op c o ho)
  have HP := Lib.hid hp
  have hob := hg.2
  have hlc : l.length ≤ cap := by have := ht.2.2.1; omega
  have HV := Lib.hid (And.intro ht.2.2.2.1 (show ∀ x ∈ l, x.2 ≤ 2147483648 from fun x hx => (ht.2.2.2.2 x hx).1.2))
  rw [hgood] at HCK
  have HI := Lib.hid (fun W A' d' hA => pread_any o ho A' l d' (by omega) HV.out.1 HV.out.2 W hA)
  obtain ⟨x, hx⟩ : ∃ x, (readS l (pth o)).1 = x := ⟨_, rfl⟩
  obtain ⟨y, hy⟩ : ∃ y, (readS l (pth o)).2 = y := ⟨_, rfl⟩
  rw [hx, hy] at HI ⊢
  clear hx hy
  clear e h ht hAn ho hp hg hw64 hgood
  unfold cfv opv at *
  rw [hob] at HM HR HCK ⊢
  rw [hcap] at HM HR HCK ⊢
  rw [hk] at HCK HI ⊢
  clear hob hcap hk
  generalize hN : l.length = N at *
  have HNL := Lib.hid hN
  clear hN
  go_enter Tryz.func105, Tryz.ntmps105
  go_wp2_with (first
    | (go_at_call 106; refine (HM.out _).mono ?_; rintro e w1 ⟨rfl, hb1⟩; obtain ⟨hc1, hf1⟩ := bcell hb1)
    | (go_at_call 107; refine (HR.out _ (HA.out.below (below_then (below_three _ _ _ _) hb1))).mono ?_; rintro e w2 ⟨rfl, hb2⟩; replace hb1 := below_then hb1 hb2; clear hc1 hf1 hb2; obtain ⟨hc1, hf1⟩ := bcell hb1)
    | (go_at_call 46; refine (HCL.out _ (HA.out.below (below_then (below_three _ _ _ _) hb1))).mono ?_; rintro e w3 ⟨u3, rfl, hM3, hb3⟩; have hs1 := hb1.size; replace hb1 := below_then hb1 hb3; clear hc1 hf1 hb3; obtain ⟨hc1, hf1⟩ := bcell hb1; have HM3 := Lib.hid hM3; clear hM3)
    | (go_at_call 7; refine (HCK.out _ (HP.out.below (below_then (below_three _ _ _ _) hb1))).mono ?_; rintro e w4 ⟨rfl, hb4⟩; replace hb1 := below_then hb1 hb4; clear hc1 hf1; obtain ⟨hc1, hf1⟩ := bcell hb1))
  have HM4 := Lib.hid (HM3.out.below hb4)
  have hne : u3.ownBlock ≠ some (w.heap.size + 1 + 1) := fun e => by
    have := (MadeX.lt HM3.out _ e).1
    simp at hs1; omega
  have hq : w.heap.size + 1 + 1 < w4.heap.size := by have := hb1.size; simp at this; omega
  have hbw := below_then (below_three _ _ _ _) hb1
  obtain ⟨A', d', hu3, _, _, hA'⟩ := MadeX.form rowL_len HM4.out
  rw [HNL.out] at hu3
  have HA' := Lib.hid hA'
  have HU3 := Lib.hid hu3
  rw [hu3]
  refine (HI.out w4 A' d' HA'.out).mono ?_
  rintro e w5 ⟨rfl, hbl⟩
  have hg5 : w4.grownBy w5 u3.ownBlock := grown_below hbl _
  have hM5 : MadeX w5 w.heap.size 44 2 rowL u3 l := MadeX.below (MadeX.down HM4.out (by simp at hs1; omega)) hbl
  rw [← HU3.out]
  clear hu3 hA'
  have hx : ∀ j, w5.cell? ⟨w.heap.size + 1 + 1, j, none⟩ = w4.cell? ⟨w.heap.size + 1 + 1, j, none⟩ := fun j => World.cell?_of_block (hg5.block _ hq (fun e => hne e.symm))
  have hy : ∀ j, w5.frozen? ⟨w.heap.size + 1 + 1, j, none⟩ = w4.frozen? ⟨w.heap.size + 1 + 1, j, none⟩ := fun j => World.frozen?_of_block (hg5.block _ hq (fun e => hne e.symm))
  have r0 : w5.cell? ⟨w.heap.size + 1 + 1, 0, none⟩ = some (.int .i64 0) := (hx 0).trans ((hc1 _ _ (by simp)).trans (by simp [go_sem]))
  have r1 : w5.cell? ⟨w.heap.size + 1 + 1, 1, none⟩ = some (.int .u32 0) := (hx 1).trans ((hc1 _ _ (by simp)).trans (by simp [go_sem]))
  have r2 : w5.cell? ⟨w.heap.size + 1 + 1, 2, none⟩ = some (.slice none 0 0) := (hx 2).trans ((hc1 _ _ (by simp)).trans (by simp [go_sem]))
  have f0 : w5.frozen? ⟨w.heap.size + 1 + 1, 0, none⟩ = false := (hy 0).trans ((hf1 _ _ (by simp)).trans (by simp [go_sem]))
  have f1 : w5.frozen? ⟨w.heap.size + 1 + 1, 1, none⟩ = false := (hy 1).trans ((hf1 _ _ (by simp)).trans (by simp [go_sem]))
  have f2 : w5.frozen? ⟨w.heap.size + 1 + 1, 2, none⟩ = false := (hy 2).trans ((hf1 _ _ (by simp)).trans (by simp [go_sem]))
  have h3 := HM3.out
  have hb5 := Lib.hid (hbw.grown hg5 hbw.size (fun k hk => by have := (MadeX.lt h3 k hk).1; simp at hs1; omega))
  have hre : w5.heap[w.heap.size + 1 + 1]? = some (.cells #[.int .i64 0, .int .u32 0, .slice none 0 0] 36 (0, 0)) := (hg5.block _ hq (fun e => hne e.symm)).trans ((hb1.block (w.heap.size + 1 + 1) (by simp)).trans (third_new _ _ _ _))
  have hnu := made_ne hM5 hre (by decide)
  have HNU := Lib.hid hnu
  have HM5 := Lib.hid hM5
  clear hx hy hc1 hf1 hre hbw hM5 hg5 h3 hnu
  have mixed : Tryz.prog.follows Departure.mixedOrders = true := by kernel_rfl
  unfold resv
  go_wp2
  obtain ⟨W6, hW6⟩ : ∃ W6, W6 = ((w5.setCell ⟨w.heap.size + 1 + 1, 0, none⟩ (.int .i64 x)).setCell ⟨w.heap.size + 1 + 1, 1, none⟩ (.int .u32 y)).setCell ⟨w.heap.size + 1 + 1, 2, none⟩ (.slice none 0 0) := ⟨_, rfl⟩
  rw [← hW6]
  have s0 : W6.cell? ⟨w.heap.size + 1 + 1, 0, none⟩ = some (.int .i64 x) := by rw [hW6]; simp [go_sem, r0]
  have s1 : W6.cell? ⟨w.heap.size + 1 + 1, 1, none⟩ = some (.int .u32 y) := by rw [hW6]; simp [go_sem, r1]
  have s2 : W6.cell? ⟨w.heap.size + 1 + 1, 2, none⟩ = some (.slice none 0 0) := by rw [hW6]; simp [go_sem, r2]
  have t0 : W6.frozen? ⟨w.heap.size + 1 + 1, 0, none⟩ = false := by rw [hW6]; simp [go_sem, f0]
  have t1 : W6.frozen? ⟨w.heap.size + 1 + 1, 1, none⟩ = false := by rw [hW6]; simp [go_sem, f1]
  have t2 : W6.frozen? ⟨w.heap.size + 1 + 1, 2, none⟩ = false := by rw [hW6]; simp [go_sem, f2]
  have HM6 := Lib.hid (show MadeX W6 w.heap.size 44 2 rowL u3 l by rw [hW6]; exact made_stored3 HM5.out HNU.out _ _ _)
  have hb6 := Lib.hid (show Below w.heap.size w W6 by rw [hW6]; exact ((hb5.out.setCell (by simp; omega) _).setCell (by simp; omega) _).setCell (by simp; omega) _)
  clear hW6 r0 r1 r2 f0 f1 f2
  go_region
  go_wp2
  refine bodyPost_ret (v := .tuple #[u3, .agg #[.int .i64 x, .int .u32 y, .slice none 0 0], .int .i64 0]) ?_ rfl ⟨_, rfl, ?_, ?_⟩
  · simp [results, Tryz.results105, go_sem, s0, s1, s2]
  · exact made_stored3 (MadeX.below HM6.out ⟨rfl, rfl, rfl, Nat.le_refl _, fun _ _ => rfl⟩) HNU.out _ _ _
  · exact ((hb6.out.drew.setCell (by simp; omega) _).setCell (by simp; omega) _).setCell (by simp; omega) _

theorem setS_done {c : Cf} {l : List R} (h : IsPt c l) {p v : Nat} (hp : p ≠ 0) : doneP c.cap.toNat l 12 p v = setS c.cap.toNat l p v := by
  rw [doneP_set]
  unfold setS
  have hu := h.2.2.2.1
  cases hg : Tb.get l p with
  | some u =>
    have hk : mk 3 l p = l := mk_there 3 p (kin_ups (fun x hx => (h.2.2.2.2 x hx).2) 3 p (by rw [hg]; rfl))
    have hc := h.2.2.1
    rw [hk, if_neg (by omega), hg]
    unfold setR
    rw [hk]
    rfl
  | none =>
    simp only
    split
    · rfl
    · rw [get_mk 3 p p hu, hg]
      simp only
      rw [if_pos (ups_self hp)]
      rfl
theorem pdo_any (c : Cf) (A : Option Addr) (l : List R) (d : Nat) (o : O) (ho : Wf o) (hAn : A = none → l.length = 0 ∧ d = 0) (hl : l.length ≤ 100000) (hw64 : ∀ x ∈ l, x.1 < 18446744073709551616) (w : World) (hp : Obs w) (h : IsR w A l) :
    Calls Tryz.prog 105 #[cfv c, .slice A l.length d, opv o] w (Did4 (doPR c l o) (doPE c l) w) := by
  by_cases h1 : Ok c ∧ c.obj = 4
  · by_cases h2 : IsPt c l
    · have e2 : doPE c l = 0 := by unfold doPE; rw [if_neg (not_not_intro h1), if_neg (not_not_intro h2)]
      rw [e2]
      by_cases h3 : chk c o = 0
      · rw [doPR_done h2 h3]
        obtain ⟨hpath, hk⟩ := fits_four h1.2 h3
        have hp0 := (pth_path ho hpath).2.1
        rcases hk with ⟨hk, _⟩ | ⟨hk, _⟩ | ⟨hk, _⟩
        · rw [hk, setS_done h2 hp0]; exact pdo_set c A l d o ho hAn hl hw64 h2 hk h3 w hp h
        · have e : doneP c.cap.toNat l o.k (pth o) o.c = unsetS l (pth o) := by
            rw [hk, doneP_unset]; unfold unsetS; cases Tb.get l (pth o) <;> rfl
          rw [e]; exact pdo_unset c A l d o ho hAn hl hw64 h2 hk h3 w hp h
        · have e : doneP c.cap.toNat l o.k (pth o) o.c = (l, (readS l (pth o)).1, (readS l (pth o)).2) := by
            rw [hk, doneP_read]; unfold readS
            cases Tb.get l (pth o) with
            | none => rfl
            | some u => simp only; split <;> rfl
          rw [e]; exact pdo_read c A l d o ho hAn hl hw64 h2 hk h3 w hp h
      · rw [doPR_bad h2 h3]
        exact pdo_bad c A l d o ho hAn hl hw64 h2 h3 w hp h
    · rw [doPR_none o h2]
      have e2 : doPE c l = 2 := by unfold doPE; rw [if_neg (not_not_intro h1), if_pos h2]
      rw [e2]
      exact pdo_arg c A l d o (by omega) hw64 h1 h2 w h
  · rw [doPR_none o (fun g => h1 ⟨g.1, g.2.1⟩)]
    have e2 : doPE c l = 40 := by unfold doPE; rw [if_pos h1]
    rw [e2]
    exact pdo_conf c A l.length d o h1 w
end Go.Proofs.YtnepdbfnbikplaaGreatDoor
