/- Configs, and what stands where in a memory: plain numbers. -/
import Derived.Test.YtpepahecjkkpbaaRrMath
import Derived.Test.YtpepahecjkkpbaaBase
namespace Go.Proofs.Ytpepahecjkkpbaa.Pt

/-- A config. -/
structure Cf where
  obj : Int
  inst : Int
  thr : Int
  kind : Int
  str : Int
  bits : Int
  cap : Int
  node : Int
  bat : Int
  chunk : Int
  lim : Int
  most : Int
def cl (c : Cf) : List Value := [.int .u8 c.obj, .int .i64 c.inst, .int .i64 c.thr, .int .u8 c.kind, .int .i64 c.str, .int .i64 c.bits, .int .i64 c.cap, .int .i64 c.node, .int .i64 c.bat, .int .i64 c.chunk, .int .u64 c.lim, .int .u64 c.most]
def cfv (c : Cf) : Value := .agg #[.int .u8 c.obj, .int .i64 c.inst, .int .i64 c.thr, .int .u8 c.kind, .int .i64 c.str, .int .i64 c.bits, .int .i64 c.cap, .int .i64 c.node, .int .i64 c.bat, .int .i64 c.chunk, .int .u64 c.lim, .int .u64 c.most]

def ObjOk (c : Cf) : Prop := (c.obj = 1 ∧ 1 ≤ c.bits ∧ c.bits ≤ 6 ∧ c.node = 0 ∧ c.chunk = 0) ∨ (c.obj = 2 ∧ c.bits = 0 ∧ 2 ≤ c.node ∧ c.node ≤ 4 ∧ 1 ≤ c.chunk ∧ c.chunk ≤ 8) ∨ ((c.obj = 3 ∨ c.obj = 4) ∧ c.bits = 0 ∧ c.node = 0 ∧ c.chunk = 0)
def IndOk (c : Cf) : Prop := (c.kind = 1 ∧ c.str = 0 ∧ c.most = 0) ∨ (c.kind = 2 ∧ 1 ≤ c.str ∧ c.str ≤ 4 ∧ 1 ≤ c.most ∧ c.most ≤ 4611686018427387904)
def RestOk (c : Cf) : Prop := 2 ≤ c.inst ∧ c.inst ≤ 4 ∧ 1 ≤ c.thr ∧ c.thr ≤ 16 ∧ 1 ≤ c.cap ∧ c.cap ≤ 32 ∧ 1 ≤ c.bat ∧ c.bat ≤ 16 ∧ 131072 ≤ c.lim ∧ c.lim ≤ 4611686018427387904
def Ok (c : Cf) : Prop := ObjOk c ∧ IndOk c ∧ RestOk c
instance (c : Cf) : Decidable (ObjOk c) := by unfold ObjOk; infer_instance
instance (c : Cf) : Decidable (IndOk c) := by unfold IndOk; infer_instance
instance (c : Cf) : Decidable (RestOk c) := by unfold RestOk; infer_instance
instance (c : Cf) : Decidable (Ok c) := by unfold Ok; infer_instance
/-- May a config be? -/
def okB (c : Cf) : Bool := decide (Ok c)
theorem ok_of {c : Cf} (h : okB c = true) : Ok c := of_decide_eq_true h
theorem ok_bit {c : Cf} (h : Ok c) : okB c = true := decide_eq_true h
def err (b : Bool) : Int := if b then 0 else 40

def sumTo (f : Nat → Nat) : Nat → Nat
  | 0 => 0
  | n + 1 => sumTo f n + f n
/-- The items of all levels, from the first k levels. -/
def its (c : Cf) (k : Nat) : Nat := sumTo (Rk.items c.cap.toNat c.node.toNat) k
def lvs (c : Cf) : Nat := Rk.top c.cap.toNat c.node.toNat + 1
/-- The size of an object. -/
def sz (c : Cf) : Nat := if c.obj = 1 then 2 ^ (c.bits.toNat + 1) else if c.obj = 2 then 1 + its c (lvs c) else c.cap.toNat

theorem sum_small : ∀ (m : Fin 33) (w : Fin 3), sumTo (Rk.items m.val (w.val + 2)) (Rk.top m.val (w.val + 2) + 1) ≤ 63 := by decide +kernel
theorem sumTo_mono {f : Nat → Nat} {i j : Nat} (h : i ≤ j) : sumTo f i ≤ sumTo f j := by
  induction j with
  | zero => rw [show i = 0 by omega]; exact Nat.le_refl _
  | succ j ih =>
    by_cases e : i = j + 1
    · rw [e]; exact Nat.le_refl _
    · exact Nat.le_trans (ih (by omega)) (Nat.le_add_right _ _)
theorem its_le {c : Cf} (h1 : 1 ≤ c.cap ∧ c.cap ≤ 32) (h2 : 2 ≤ c.node ∧ c.node ≤ 4) {k : Nat} (hk : k ≤ lvs c) : its c k ≤ 63 := by
  have := sum_small ⟨c.cap.toNat, by omega⟩ ⟨c.node.toNat - 2, by omega⟩
  simp only [show c.node.toNat - 2 + 2 = c.node.toNat by omega] at this
  exact Nat.le_trans (sumTo_mono hk) this
theorem its_succ (c : Cf) (k : Nat) : its c (k + 1) = its c k + Rk.items c.cap.toNat c.node.toNat k := rfl
theorem pow_small : ∀ b : Fin 7, 2 ^ (b.val + 1) ≤ 128 := by decide +kernel
theorem sz_bounds {c : Cf} (h : Ok c) : 1 ≤ sz c ∧ sz c ≤ 128 := by
  obtain ⟨ho, hi, hr⟩ := h
  unfold RestOk at hr
  unfold sz
  split
  · rename_i e
    have hb : 1 ≤ c.bits ∧ c.bits ≤ 6 := by unfold ObjOk at ho; omega
    exact ⟨Nat.one_le_two_pow, pow_small ⟨c.bits.toNat, by omega⟩⟩
  · split
    · rename_i e
      have hb : 2 ≤ c.node ∧ c.node ≤ 4 := by unfold ObjOk at ho; omega
      have := its_le (c := c) (by omega) hb (Nat.le_refl _)
      omega
    · omega

/-- A place. -/
structure Pl where
  p : Int
  a : Int
  b : Int
def plv (q : Pl) : Value := .agg #[.int .u8 q.p, .int .i64 q.a, .int .i64 q.b]
theorem Pl.ext' {x y : Pl} (h : x.p = y.p) (h1 : x.a = y.a) (h2 : x.b = y.b) : x = y := by cases x; cases y; simp_all
instance : DecidableEq Pl := fun x y => if h : x.p = y.p ∧ x.a = y.a ∧ x.b = y.b then isTrue (Pl.ext' h.1 h.2.1 h.2.2) else isFalse fun e => h (by rw [e]; exact ⟨rfl, rfl, rfl⟩)

/-- So many numbers A of a part, from a on, and of each n numbers B. -/
structure Blk where
  p : Nat
  a : Nat
  m : Nat
  n : Nat
def Blk.cnt (x : Blk) : Nat := x.m * x.n
def Blk.at (x : Blk) (i : Nat) : Pl := ⟨x.p, ((x.a + i / x.n : Nat) : Int), ((i % x.n : Nat) : Int)⟩
def Blk.Has (x : Blk) (q : Pl) : Prop := q.p = x.p ∧ (x.a : Int) ≤ q.a ∧ q.a < x.a + x.m ∧ 0 ≤ q.b ∧ q.b < x.n
instance (x : Blk) (q : Pl) : Decidable (x.Has q) := by unfold Blk.Has; infer_instance
def Blk.ix (x : Blk) (q : Pl) : Nat := (q.a - x.a).toNat * x.n + q.b.toNat

theorem Blk.has_ix {x : Blk} {q : Pl} (h : x.Has q) : x.ix q < x.cnt ∧ x.at (x.ix q) = q := by
  obtain ⟨h0, h1, h2, h3, h4⟩ := h
  unfold Blk.ix Blk.cnt
  obtain ⟨r, hr⟩ : ∃ r : Nat, (q.a - x.a).toNat = r := ⟨_, rfl⟩
  obtain ⟨s, hs⟩ : ∃ s : Nat, q.b.toNat = s := ⟨_, rfl⟩
  rw [hr, hs]
  have e1 : r + 1 ≤ x.m := by omega
  have e2 : s < x.n := by omega
  have e3 := Nat.mul_le_mul e1 (Nat.le_refl x.n)
  rw [Nat.succ_mul] at e3
  refine ⟨by omega, ?_⟩
  unfold Blk.at
  rw [Nat.mul_comm r x.n, Nat.mul_add_div (by omega), Nat.mul_add_mod, Nat.div_eq_of_lt e2, Nat.mod_eq_of_lt e2]
  exact Pl.ext' h0.symm (by show ((x.a + (r + 0) : Nat) : Int) = q.a; omega) (by show ((s : Nat) : Int) = q.b; omega)
theorem Blk.at_has {x : Blk} {i : Nat} (h : i < x.cnt) : x.Has (x.at i) ∧ x.ix (x.at i) = i := by
  unfold Blk.cnt at h
  have hn : 0 < x.n := by
    rcases Nat.eq_zero_or_pos x.n with e | e
    · rw [e] at h; omega
    · exact e
  have hd : i / x.n < x.m := Nat.div_lt_of_lt_mul (by rw [Nat.mul_comm]; exact h)
  have hm := Nat.mod_lt i hn
  unfold Blk.Has Blk.ix Blk.at
  obtain ⟨d, hd'⟩ : ∃ d, i / x.n = d := ⟨_, rfl⟩
  obtain ⟨m, hm'⟩ : ∃ m, i % x.n = m := ⟨_, rfl⟩
  refine ⟨?_, ?_⟩
  · rw [hd', hm']
    refine ⟨rfl, ?_, ?_, ?_, ?_⟩ <;> simp only <;> omega
  simp only
  rw [show ((x.a + i / x.n : Nat) : Int) - (x.a : Int) = ((i / x.n : Nat) : Int) by omega]
  simp only [Int.toNat_natCast]
  exact Nat.div_add_mod' i x.n

/-- Which place is ahead of which, in a part. -/
def aheadB (x y : Pl) : Bool := decide (x.a < y.a ∨ (x.a = y.a ∧ x.b < y.b))
theorem at_mono (x : Blk) {i j : Nat} (h : i ≤ j) : (x.at i).a < (x.at j).a ∨ ((x.at i).a = (x.at j).a ∧ (x.at i).b ≤ (x.at j).b) := by
  have h1 := Nat.div_le_div_right (c := x.n) h
  have e1 := Nat.div_add_mod i x.n
  have e2 := Nat.div_add_mod j x.n
  unfold Blk.at
  simp only
  rcases Nat.lt_or_ge (i / x.n) (j / x.n) with g | g
  · left; omega
  · right
    have e : i / x.n = j / x.n := by omega
    rw [e] at e1
    rw [e]
    exact ⟨rfl, by omega⟩
theorem ahead_mono (x : Blk) (y : Pl) {i j : Nat} (h : i ≤ j) (hi : (!aheadB (x.at i) y) = true) : (!aheadB (x.at j) y) = true := by
  have := at_mono x h
  unfold aheadB at *
  simp only [Bool.not_eq_true', decide_eq_false_iff_not] at *
  omega
/-- What the search comes to. -/
theorem sought {x : Blk} {y : Pl} {k : Nat} (hk : k ≤ x.cnt) (h1 : ∀ j, j < k → (!aheadB (x.at j) y) = false) (h2 : k < x.cnt → (!aheadB (x.at k) y) = true) :
    (x.Has y ↔ k < x.cnt ∧ x.at k = y) ∧ (x.Has y → k = x.ix y) := by
  have back : x.Has y → k = x.ix y := fun hh => by
    obtain ⟨hl, he⟩ := Blk.has_ix hh
    have hle : k ≤ x.ix y := by
      rcases Nat.lt_or_ge (x.ix y) k with g | g
      · have := h1 _ g
        rw [he] at this
        unfold aheadB at this
        simp at this
      · exact g
    have h3 := h2 (by omega)
    have h4 := at_mono x hle
    rw [he] at h4
    have e : x.at k = y := by
      unfold aheadB at h3
      simp only [Bool.not_eq_true', decide_eq_false_iff_not] at h3
      exact Pl.ext' hh.1.symm (by omega) (by omega)
    rw [← e]
    exact (Blk.at_has (show k < x.cnt by omega)).2.symm
  refine ⟨⟨fun hh => ?_, fun hh => ?_⟩, back⟩
  · obtain ⟨hl, he⟩ := Blk.has_ix hh
    rw [back hh]
    exact ⟨hl, he⟩
  · rw [← hh.2]
    exact (Blk.at_has hh.1).1

def total : List Blk → Nat
  | [] => 0
  | x :: xs => x.cnt + total xs
def find : List Blk → Pl → Option Nat
  | [], _ => none
  | x :: xs, q => if x.Has q then some (x.ix q) else (find xs q).map (x.cnt + ·)
def what : List Blk → Nat → Option Pl
  | [], _ => none
  | x :: xs, i => if i < x.cnt then some (x.at i) else what xs (i - x.cnt)

theorem find_lt {xs : List Blk} {q : Pl} {a : Nat} (h : find xs q = some a) : a < total xs ∧ what xs a = some q := by
  induction xs generalizing a with
  | nil => cases h
  | cons x xs ih =>
    unfold find at h
    unfold total what
    split at h
    · rename_i hh
      obtain rfl := Option.some.inj h
      have := Blk.has_ix hh
      rw [if_pos this.1, this.2]
      exact ⟨by omega, rfl⟩
    · rw [Option.map_eq_some_iff] at h
      obtain ⟨a', h1, rfl⟩ := h
      have := ih h1
      rw [if_neg (by omega), Nat.add_sub_cancel_left]
      exact ⟨by omega, this.2⟩
theorem what_none {xs : List Blk} {a : Nat} (h : total xs ≤ a) : what xs a = none := by
  induction xs generalizing a with
  | nil => rfl
  | cons x xs ih =>
    unfold total at h
    unfold what
    rw [if_neg (by omega)]
    exact ih (by omega)
/-- No place is two blocks'. -/
def Apart : List Blk → Prop
  | [] => True
  | x :: xs => (∀ y ∈ xs, ∀ q, x.Has q → ¬ y.Has q) ∧ Apart xs
theorem find_has {xs : List Blk} {q : Pl} {a : Nat} (h : find xs q = some a) : ∃ y ∈ xs, y.Has q := by
  induction xs generalizing a with
  | nil => cases h
  | cons x xs ih =>
    unfold find at h
    split at h
    · rename_i hh; exact ⟨x, List.mem_cons_self, hh⟩
    · rw [Option.map_eq_some_iff] at h
      obtain ⟨a', h1, rfl⟩ := h
      obtain ⟨y, hy, hq⟩ := ih h1
      exact ⟨y, List.mem_cons_of_mem _ hy, hq⟩
theorem what_find {xs : List Blk} (hA : Apart xs) {a : Nat} (h : a < total xs) : ∃ q, what xs a = some q ∧ find xs q = some a := by
  induction xs generalizing a with
  | nil => simp [total] at h
  | cons x xs ih =>
    unfold total at h
    unfold what find
    by_cases hl : a < x.cnt
    · have := Blk.at_has hl
      exact ⟨_, if_pos hl, by rw [if_pos this.1, this.2]⟩
    · obtain ⟨q, h1, h2⟩ := ih hA.2 (a := a - x.cnt) (by omega)
      refine ⟨q, by rw [if_neg hl]; exact h1, ?_⟩
      obtain ⟨y, hy, hq⟩ := find_has h2
      rw [if_neg (fun g => hA.1 y hy q g hq), h2]
      simp; omega
/-- What is ahead of block i. -/
def pre (xs : List Blk) (i : Nat) : Nat := total (xs.take i)
theorem total_append (xs ys : List Blk) : total (xs ++ ys) = total xs + total ys := by
  induction xs with
  | nil => simp [total]
  | cons x xs ih => simp only [List.cons_append, total, ih]; omega
theorem pre_zero (xs : List Blk) : pre xs 0 = 0 := by simp [pre, total]
theorem pre_all (xs : List Blk) : pre xs xs.length = total xs := by simp [pre]
theorem pre_succ {xs : List Blk} {i : Nat} {x : Blk} (h : xs[i]? = some x) : pre xs (i + 1) = pre xs i + x.cnt := by
  unfold pre
  rw [List.take_add_one, h, total_append]
  simp [total]
theorem pre_le (xs : List Blk) (i : Nat) : pre xs i ≤ total xs := by
  have := total_append (xs.take i) (xs.drop i)
  rw [List.take_append_drop] at this
  unfold pre
  omega
theorem drop_cons {xs : List Blk} {i : Nat} {x : Blk} (h : xs[i]? = some x) : xs.drop i = x :: xs.drop (i + 1) := by
  obtain ⟨hi, rfl⟩ := List.getElem?_eq_some_iff.1 h
  exact List.drop_eq_getElem_cons hi

/-- A look-up, when i blocks have been asked. -/
def Asked (xs : List Blk) (q : Pl) (i : Nat) : Prop := find xs q = (find (xs.drop i) q).map (pre xs i + ·)
theorem asked_zero (xs : List Blk) (q : Pl) : Asked xs q 0 := by
  unfold Asked
  rw [pre_zero]
  simp
theorem asked_hit {xs : List Blk} {q : Pl} {i : Nat} {x : Blk} (h : Asked xs q i) (hx : xs[i]? = some x) (hh : x.Has q) : find xs q = some (pre xs i + x.ix q) := by
  unfold Asked at h
  rw [h, drop_cons hx]
  unfold find
  rw [if_pos hh]
  rfl
theorem asked_miss {xs : List Blk} {q : Pl} {i : Nat} {x : Blk} (h : Asked xs q i) (hx : xs[i]? = some x) (hh : ¬ x.Has q) : Asked xs q (i + 1) := by
  unfold Asked at h ⊢
  rw [h, drop_cons hx, pre_succ hx]
  show Option.map _ (if x.Has q then some (x.ix q) else (find (xs.drop (i + 1)) q).map (x.cnt + ·)) = _
  rw [if_neg hh, Option.map_map]
  congr 1
  funext z
  simp only [Function.comp]
  omega
theorem asked_end {xs : List Blk} {q : Pl} (h : Asked xs q xs.length) : find xs q = none := by
  unfold Asked at h
  rw [h, List.drop_length]
  rfl
/-- So for what stands somewhere. -/
def Gone (xs : List Blk) (z i : Nat) : Prop := pre xs i ≤ z ∧ what xs z = what (xs.drop i) (z - pre xs i)
theorem gone_zero (xs : List Blk) (z : Nat) : Gone xs z 0 := by
  unfold Gone
  rw [pre_zero]
  simp
theorem gone_hit {xs : List Blk} {z i : Nat} {x : Blk} (h : Gone xs z i) (hx : xs[i]? = some x) (hh : z - pre xs i < x.cnt) : what xs z = some (x.at (z - pre xs i)) := by
  unfold Gone at h
  rw [h.2, drop_cons hx]
  unfold what
  rw [if_pos hh]
theorem gone_miss {xs : List Blk} {z i : Nat} {x : Blk} (h : Gone xs z i) (hx : xs[i]? = some x) (hh : ¬ z - pre xs i < x.cnt) : Gone xs z (i + 1) := by
  unfold Gone at h ⊢
  rw [h.2, drop_cons hx, pre_succ hx]
  refine ⟨by omega, ?_⟩
  show (if _ then _ else _) = _
  rw [if_neg hh, Nat.sub_sub]
theorem gone_end {xs : List Blk} {z : Nat} (h : Gone xs z xs.length) : what xs z = none := by
  unfold Gone at h
  rw [h.2, List.drop_length]
  rfl

/-- A memory's blocks: I instances, T threads, S stripes (or marks), Z cells an instance. -/
def headL (k : Bool) (T S : Nat) : List Blk := [⟨1, 0, 1, 1⟩, ⟨2, 0, 1, 1⟩, ⟨3, 0, 1, 1⟩, ⟨4, 0, T, 1⟩, ⟨5, 0, T, 1⟩] ++ (if k then [⟨6, 0, 2, T⟩] else [⟨7, 0, 2, S⟩, ⟨8, 0, 2, S⟩])
def instL (Z n : Nat) : List Blk := [⟨9, n, 1, 1⟩, ⟨10, n, 1, Z⟩]
def blks (k : Bool) (I T S Z : Nat) : List Blk := headL k T S ++ (List.range I).flatMap (instL Z)
/-- A config's blocks. -/
def kB (c : Cf) : Bool := decide (c.kind = 1)
def bl (c : Cf) : List Blk := blks (kB c) c.inst.toNat c.thr.toNat c.str.toNat (sz c)
def hN (c : Cf) : Nat := if kB c then 6 else 7

theorem headL_length (k : Bool) (T S : Nat) : (headL k T S).length = if k then 6 else 7 := by cases k <;> rfl
theorem bl_head {c : Cf} {i : Nat} (h : i < hN c) : (bl c)[i]? = (headL (kB c) c.thr.toNat c.str.toNat)[i]? := by
  unfold bl blks
  rw [List.getElem?_append_left (by rw [headL_length]; exact h)]
theorem insts (Z : Nat) : ∀ I n, n < I → ((List.range I).flatMap (instL Z))[2 * n]? = some ⟨9, n, 1, 1⟩ ∧ ((List.range I).flatMap (instL Z))[2 * n + 1]? = some ⟨10, n, 1, Z⟩
  | I + 1, n, h => by
    rw [List.range_succ, List.flatMap_append]
    have hl : ∀ I, ((List.range I).flatMap (instL Z)).length = 2 * I := fun I => by
      induction I with
      | zero => rfl
      | succ I ih => rw [List.range_succ, List.flatMap_append, List.length_append, ih]; simp [instL]; omega
    by_cases e : n = I
    · subst e
      rw [List.getElem?_append_right (by rw [hl]; omega), List.getElem?_append_right (by rw [hl]; omega), hl]
      exact ⟨by simp [instL], by rw [show 2 * n + 1 - 2 * n = 1 by omega]; simp [instL]⟩
    · have := insts Z I n (by omega)
      rw [List.getElem?_append_left (by rw [hl]; omega), List.getElem?_append_left (by rw [hl]; omega)]
      exact this
theorem bl_inst {c : Cf} {n : Nat} (h : n < c.inst.toNat) : (bl c)[hN c + 2 * n]? = some ⟨9, n, 1, 1⟩ ∧ (bl c)[hN c + 2 * n + 1]? = some ⟨10, n, 1, sz c⟩ := by
  have := insts (sz c) c.inst.toNat n h
  unfold bl blks
  have hl := headL_length (kB c) c.thr.toNat c.str.toNat
  rw [List.getElem?_append_right (by rw [hl]; unfold hN; omega), List.getElem?_append_right (by rw [hl]; unfold hN; omega), hl]
  unfold hN
  rw [Nat.add_sub_cancel_left, Nat.add_assoc, Nat.add_sub_cancel_left]
  exact this
theorem bl_length (c : Cf) : (bl c).length = hN c + 2 * c.inst.toNat := by
  unfold bl blks hN
  rw [List.length_append, headL_length]
  congr 1
  generalize c.inst.toNat = I
  induction I with
  | zero => rfl
  | succ I ih => rw [List.range_succ, List.flatMap_append, List.length_append, ih]; simp [instL]; omega
/-- How many cells a memory has. -/
def all (c : Cf) : Nat := total (bl c)
theorem insts_total (Z I : Nat) : total ((List.range I).flatMap (instL Z)) = I * (1 + Z) := by
  induction I with
  | zero => simp [total]
  | succ I ih => rw [List.range_succ, List.flatMap_append, total_append, ih, Nat.succ_mul]; simp [instL, total, Blk.cnt]
def ahd (k : Bool) (T S : Nat) : Nat := if k then 3 + 2 * T + 2 * T else 3 + 2 * T + 4 * S
theorem head_total (k : Bool) (T S : Nat) : total (headL k T S) = ahd k T S := by
  cases k <;> simp [headL, total, Blk.cnt, ahd] <;> omega
theorem all_eq (c : Cf) : all c = ahd (kB c) c.thr.toNat c.str.toNat + c.inst.toNat * (1 + sz c) := by
  unfold all bl blks
  rw [total_append, head_total, insts_total]
theorem all_bounds {c : Cf} (h : Ok c) : 3 < all c ∧ all c ≤ 600 := by
  have hz := sz_bounds h
  obtain ⟨ho, hi, hr⟩ := h
  unfold RestOk at hr
  have hs : c.str ≤ 4 := by unfold IndOk at hi; omega
  rw [all_eq]
  have h1 : c.inst.toNat * (1 + sz c) ≤ 4 * 129 := Nat.mul_le_mul (by omega) (by omega)
  unfold ahd
  split <;> omega
theorem apart_of : ∀ L : List Blk, L.Pairwise (fun x y => x.p ≠ y.p ∨ x.a + x.m ≤ y.a) → Apart L
  | [], _ => trivial
  | x :: L, h => by
    rw [List.pairwise_cons] at h
    refine ⟨fun y hy q h1 h2 => ?_, apart_of L h.2⟩
    have e1 := h1.1
    have e2 := h2.1
    have e3 := h1.2.2.1
    have e4 := h2.2.1
    rcases h.1 y hy with g | g
    · exact g (by omega)
    · omega
theorem apart_bl {c : Cf} (h : Ok c) : Apart (bl c) := by
  have hr := h.2.2
  unfold RestOk at hr
  refine apart_of _ ?_
  unfold bl
  generalize c.thr.toNat = T
  generalize c.str.toNat = S
  generalize sz c = Z
  have hI : c.inst.toNat = 2 ∨ c.inst.toNat = 3 ∨ c.inst.toNat = 4 := by omega
  generalize c.inst.toNat = I at hI
  unfold blks headL
  cases kB c <;> rcases hI with rfl | rfl | rfl <;> simp [instL, List.range_succ]
end Go.Proofs.Ytpepahecjkkpbaa.Pt
