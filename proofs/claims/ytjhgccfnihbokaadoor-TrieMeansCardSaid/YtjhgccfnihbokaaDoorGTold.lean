/- What a program of a table of routes that is done alone leaves and answers is what the model says: plain lists. Rows that are put in and taken out, as a trie's nodes count them: plain lists. An operation of a table of routes that is done alone: what it answers, and what its cells are then. The rows that a table's cells tell are the rows: plain lists. The law's own counting of a table's cells: it finds them as they are. The law's own rows of a table's cells: those that the cells tell. An operation of a table of routes that fits, done alone, leaves and answers what the model says: plain numbers. A result that lies in a block of its own, behind a call that answers rows, or cells. -/
import Derived.Test.YtjhgccfnihbokaaDoorTrGo
import Derived.Test.YtjhgccfnihbokaaDoorTrEnds
import Derived.Deep.LoopGhost
import Derived.Test.YtjhgccfnihbokaaDoorGRow
import Derived.Test.YtjhgccfnihbokaaDoorGTbP
import Derived.Test.YtjhgccfnihbokaaDoorTrLive
namespace Go.Proofs.YtjhgccfnihbokaaDoor
open Pt Opn Tb

/-- One act that reads. -/
theorem goT_read {c : Cf} {n : Nat} {cs : List Q4} {f : Ds} {ps : List Nat} {x : Q4} (hc : Ok c) (ho : c.obj = 1) (hm : TMay c f) (hk : (stepT c f).kind = 1) (h1 : 1 ≤ (stepT c f).pl) (hx : cs[(stepT c f).pl]? = some x) :
    goT c (n + 1) cs f ps = goT c n cs (behindT c f x.2.1 x.2.2.1) (ps ++ [(stepT c f).pl]) := by
  have e1 : nextT c f = (stepT c f, 0) := by unfold nextT; rw [if_neg (fun h => h ⟨hc, ho⟩), if_neg (fun h => h hm)]
  have e2 : afterT c f x.2.1 x.2.2.1 = (behindT c f x.2.1 x.2.2.1, 0) := by unfold afterT; rw [if_neg (fun h => h ⟨hc, ho⟩), if_neg (fun h => h hm)]
  have hl := (List.getElem?_eq_some_iff.1 hx).1
  conv => lhs; unfold goT
  simp only [e1]
  rw [if_neg (by simp), if_neg (by omega), if_pos ⟨h1, hl, .inl hk⟩]
  simp only [hk, Nat.reduceEqDiff, if_false, hx, Option.getD_some, e2]
  rw [if_neg (by simp)]
/-- One act that writes. -/
theorem goT_write {c : Cf} {n : Nat} {cs : List Q4} {f : Ds} {ps : List Nat} (hc : Ok c) (ho : c.obj = 1) (hm : TMay c f) (hk : (stepT c f).kind = 2) (h1 : 1 ≤ (stepT c f).pl) (hl : (stepT c f).pl < cs.length) :
    goT c (n + 1) cs f ps = goT c n (cs.set (stepT c f).pl (0, (stepT c f).a, (stepT c f).b, (stepT c f).c)) (behindT c f (stepT c f).a (stepT c f).b) (ps ++ [(stepT c f).pl]) := by
  have e1 : nextT c f = (stepT c f, 0) := by unfold nextT; rw [if_neg (fun h => h ⟨hc, ho⟩), if_neg (fun h => h hm)]
  have e2 : ∀ A B, afterT c f A B = (behindT c f A B, 0) := fun A B => by unfold afterT; rw [if_neg (fun h => h ⟨hc, ho⟩), if_neg (fun h => h hm)]
  conv => lhs; unfold goT
  simp only [e1]
  rw [if_neg (by simp), if_neg (by omega), if_pos ⟨h1, hl, .inr hk⟩]
  simp only [hk, if_true, List.getElem?_set_self hl, Option.getD_some, e2]
  rw [if_neg (by simp)]
/-- It is done. -/
theorem goT_done {c : Cf} {n : Nat} {cs : List Q4} {f : Ds} {ps : List Nat} (hc : Ok c) (ho : c.obj = 1) (hm : TMay c f) (hk : (stepT c f).kind = 4) : goT c (n + 1) cs f ps = (cs, ((stepT c f).code, (stepT c f).v), ps, true) := by
  have e1 : nextT c f = (stepT c f, 0) := by unfold nextT; rw [if_neg (fun h => h ⟨hc, ho⟩), if_neg (fun h => h hm)]
  unfold goT
  simp only [e1]
  rw [if_neg (by simp), if_pos hk]

/-- The nodes of a path: those of two depths are two. -/
theorem path_lt {m b e e' : Nat} (hm : 2 ^ b ≤ m) (h1 : e < e') (h2 : e' ≤ b) : m / 2 ^ (b - e) < m / 2 ^ (b - e') := by
  obtain ⟨d, rfl⟩ : ∃ d, e' = e + 1 + d := ⟨e' - (e + 1), by omega⟩
  have e1 : b - e = (b - (e + 1 + d)) + (d + 1) := by omega
  rw [e1, Nat.pow_add, ← Nat.div_div_eq_div_mul]
  have h3 : 1 ≤ m / 2 ^ (b - (e + 1 + d)) := by
    refine (Nat.le_div_iff_mul_le (Nat.two_pow_pos _)).2 ?_
    have : 2 ^ (b - (e + 1 + d)) ≤ 2 ^ b := Nat.pow_le_pow_right (by decide) (by omega)
    omega
  exact Nat.div_lt_self (by omega) (Nat.one_lt_two_pow (by omega))
/-- What an act that writes makes of a cell on the path. -/
def newA (k y x : Nat) (last : Bool) : Nat := if last then (if k = 2 then 0 else y + 1) else x % 4294967296
def newB (k n : Nat) : Nat := if k = 2 then (n % 64 + 63) % 64 else (n % 64 + 1) % 64

/-- Two acts: a node of the path is read, and written. -/
theorem path_step {c : Cf} (hc : Ok c) (ho : c.obj = 1) {cs : List Q4} {f : Ds} {ps : List Nat} {n : Nat} (hm : TMay c f) (hp : f.pc = 2) (hk : f.kind = 1 ∨ f.kind = 2) (hl : 2 ^ (c.bits.toNat + 1) ≤ cs.length) :
    ∃ q ps', cs[wholeT c f / 2 ^ (f.b - f.h)]? = some q ∧ goT c (n + 2) cs f ps = goT c n (cs.set (wholeT c f / 2 ^ (f.b - f.h)) (0, newA f.kind f.y q.2.1 (decide (f.h = f.b)), newB f.kind q.2.2.1, 0)) (if f.h = f.b then { f with pc := 6, x := q.2.1 % 4294967296, n := q.2.2.1 % 64 } else { f with pc := 2, h := f.h + 1, x := q.2.1 % 4294967296, n := q.2.2.1 % 64 }) ps' ∧
      TMay c (if f.h = f.b then { f with pc := 6, x := q.2.1 % 4294967296, n := q.2.2.1 % 64 } else { f with pc := 2, h := f.h + 1, x := q.2.1 % 4294967296, n := q.2.2.1 % 64 }) := by
  have h3 : f.kind ≠ 3 := by omega
  have et : topT c f = f.b := by unfold topT; rw [if_neg h3]
  have ed : deepT c f = wholeT c f / 2 ^ (f.b - f.h) := by unfold deepT; rw [et]
  have es : stepT c f = ⟨1, deepT c f, 0, 0, 0, 0, 0⟩ := by unfold stepT; rw [if_neg (by omega), if_neg (by omega), if_pos hp]
  obtain ⟨g1, g2, _⟩ := stepT_place hc ho hm (by rw [es]; simp)
  rw [es] at g1 g2
  simp only at g1 g2
  obtain ⟨q, hq⟩ : ∃ q, cs[deepT c f]? = some q := ⟨_, List.getElem?_eq_getElem (by omega)⟩
  have s1 := goT_read (c := c) (n := n + 1) (cs := cs) (f := f) (ps := ps) (x := q) hc ho hm (by rw [es]) (by rw [es]; exact g1) (by rw [es]; exact hq)
  have hm1 := behindT_may ho hm q.2.1 q.2.2.1
  rw [bhT_2 h3 hp] at s1 hm1
  obtain ⟨f1, hf1⟩ : ∃ f1, ({ f with x := q.2.1 % 4294967296, n := q.2.2.1 % 64, pc := 3 } : Ds) = f1 := ⟨_, rfl⟩
  rw [hf1] at s1 hm1
  have k1 : f1.kind = f.kind := by rw [← hf1]
  have p1 : f1.pc = 3 := by rw [← hf1]
  have b1 : f1.b = f.b := by rw [← hf1]
  have h1 : f1.h = f.h := by rw [← hf1]
  have y1 : f1.y = f.y := by rw [← hf1]
  have x1 : f1.x = q.2.1 % 4294967296 := by rw [← hf1]
  have n1 : f1.n = q.2.2.1 % 64 := by rw [← hf1]
  have d1 : deepT c f1 = deepT c f := by rw [← hf1]; rfl
  have es1 : stepT c f1 = ⟨2, deepT c f, newA f.kind f.y q.2.1 (decide (f.h = f.b)), newB f.kind q.2.2.1, 0, 0, 0⟩ := by
    unfold stepT newA newB
    rw [if_neg (by omega), if_neg (by omega), if_neg (by omega), if_pos p1, d1, k1, b1, h1, y1, x1, n1]
    by_cases e1 : f.h = f.b
    · simp [e1]
    · simp [e1]
  have s2 := goT_write (c := c) (n := n) (cs := cs) (f := f1) (ps := ps ++ [(stepT c f).pl]) hc ho hm1 (by rw [es1]) (by rw [es1]; exact g1) (by rw [es1]; show deepT c f < cs.length; omega)
  have hm2 := behindT_may ho hm1 (stepT c f1).a (stepT c f1).b
  rw [bhT_3 (by omega) p1] at s2 hm2
  have ef : (if f1.h = f1.b then { f1 with pc := 6 } else { f1 with h := f1.h + 1, pc := 2 } : Ds) = (if f.h = f.b then { f with pc := 6, x := q.2.1 % 4294967296, n := q.2.2.1 % 64 } else { f with pc := 2, h := f.h + 1, x := q.2.1 % 4294967296, n := q.2.2.1 % 64 }) := by
    rw [← hf1]
  rw [ef] at s2 hm2
  rw [ed] at hq es1
  rw [es1] at s2
  simp only at s2
  refine ⟨q, ps ++ [(stepT c f).pl] ++ [wholeT c f / 2 ^ (f.b - f.h)], hq, ?_, hm2⟩
  rw [s1, s2]

theorem path_goes {c : Cf} (hc : Ok c) (ho : c.obj = 1) : ∀ (d : Nat) (cs : List Q4) (f : Ds) (ps : List Nat) (r : Nat), TMay c f → f.pc = 2 → (f.kind = 1 ∨ f.kind = 2) → f.b - f.h = d → f.h ≤ f.b → 2 ^ (c.bits.toNat + 1) ≤ cs.length →
    ∃ cs' ps' x n q, goT c (2 * (d + 1) + r) cs f ps = goT c r cs' { f with pc := 6, h := f.b, x := x, n := n } ps' ∧ TMay c { f with pc := 6, h := f.b, x := x, n := n } ∧ cs'.length = cs.length ∧ cs[wholeT c f]? = some q ∧ x = q.2.1 % 4294967296 ∧
      (∀ e q, f.h ≤ e → e ≤ f.b → cs[wholeT c f / 2 ^ (f.b - e)]? = some q → cs'[wholeT c f / 2 ^ (f.b - e)]? = some (0, newA f.kind f.y q.2.1 (decide (e = f.b)), newB f.kind q.2.2.1, 0)) ∧
      (∀ i, (∀ e, f.h ≤ e → e ≤ f.b → i ≠ wholeT c f / 2 ^ (f.b - e)) → cs'[i]? = cs[i]?) := by
  intro d
  induction d with
  | zero =>
    intro cs f ps r hm hp hk hd hh hl
    have hb : f.h = f.b := by omega
    obtain ⟨q, ps', hq, s1, hm1⟩ := path_step (n := r) (ps := ps) hc ho hm hp hk hl
    rw [if_pos hb] at s1 hm1
    have ez : f.b - f.h = 0 := by omega
    rw [ez, Nat.pow_zero, Nat.div_one] at hq s1
    have hlt := (List.getElem?_eq_some_iff.1 hq).1
    refine ⟨_, ps', q.2.1 % 4294967296, q.2.2.1 % 64, q, by rw [show 2 * (0 + 1) + r = r + 2 by omega, s1]; exact congrArg (fun h => goT c r _ { f with pc := 6, h := h, x := q.2.1 % 4294967296, n := q.2.2.1 % 64 } ps') hb, ?_, by simp, hq, rfl, fun e q' h1 h2 hq' => ?_, fun i hi => ?_⟩
    · have e6 : ({ f with pc := 6, h := f.b, x := q.2.1 % 4294967296, n := q.2.2.1 % 64 } : Ds) = { f with pc := 6, x := q.2.1 % 4294967296, n := q.2.2.1 % 64 } := by rw [← hb]
      rw [e6]; exact hm1
    · obtain rfl : e = f.b := by omega
      rw [Nat.sub_self, Nat.pow_zero, Nat.div_one] at hq' ⊢
      rw [hq] at hq'
      injection hq' with hq'
      subst hq'
      rw [List.getElem?_set_self hlt, hb]
    · have := hi f.b (by omega) (Nat.le_refl _)
      rw [Nat.sub_self, Nat.pow_zero, Nat.div_one] at this
      rw [List.getElem?_set_ne (fun e => this e.symm)]
  | succ d ih =>
    intro cs f ps r hm hp hk hd hh hl
    have hb : f.h ≠ f.b := by omega
    obtain ⟨q, ps', hq, s1, hm1⟩ := path_step (n := 2 * (d + 1) + r) (ps := ps) hc ho hm hp hk hl
    rw [if_neg hb] at s1 hm1
    obtain ⟨f2, hf2⟩ : ∃ f2, ({ f with pc := 2, h := f.h + 1, x := q.2.1 % 4294967296, n := q.2.2.1 % 64 } : Ds) = f2 := ⟨_, rfl⟩
    rw [hf2] at s1 hm1
    have k2 : f2.kind = f.kind := by rw [← hf2]
    have p2 : f2.pc = 2 := by rw [← hf2]
    have b2 : f2.b = f.b := by rw [← hf2]
    have h2 : f2.h = f.h + 1 := by rw [← hf2]
    have y2 : f2.y = f.y := by rw [← hf2]
    have w2 : wholeT c f2 = wholeT c f := by rw [← hf2]; rfl
    have hlt := (List.getElem?_eq_some_iff.1 hq).1
    have hw : 2 ^ f.b ≤ wholeT c f := by unfold wholeT topT; rw [if_neg (by omega)]; omega
    obtain ⟨cs', ps2, x, n, q2, g1, g2, g3, g4, g5, g6, g7⟩ := ih (cs.set (wholeT c f / 2 ^ (f.b - f.h)) (0, newA f.kind f.y q.2.1 (decide (f.h = f.b)), newB f.kind q.2.2.1, 0)) f2 ps' r hm1 p2 (by rw [k2]; exact hk) (by omega) (by omega) (by rw [List.length_set]; exact hl)
    rw [w2] at g4 g6 g7
    rw [b2, h2] at g6 g7
    rw [k2, y2] at g6
    have e6 : ({ f2 with pc := 6, h := f2.b, x := x, n := n } : Ds) = { f with pc := 6, h := f.b, x := x, n := n } := by rw [← hf2]
    rw [e6] at g1 g2
    have hne : ∀ e, f.h + 1 ≤ e → e ≤ f.b → wholeT c f / 2 ^ (f.b - f.h) ≠ wholeT c f / 2 ^ (f.b - e) := fun e h1 h2 h3 => by
      have := path_lt (m := wholeT c f) (b := f.b) (e := f.h) (e' := e) hw (by omega) h2
      omega
    refine ⟨cs', ps2, x, n, q2, by rw [show 2 * (d + 1 + 1) + r = 2 * (d + 1) + r + 2 by omega, s1, g1], g2, by rw [g3, List.length_set], ?_, g5, fun e q' h1 h2 hq' => ?_, fun i hi => ?_⟩
    · rw [List.getElem?_set_ne] at g4
      · exact g4
      · have := hne f.b (by omega) (Nat.le_refl _)
        rw [Nat.sub_self, Nat.pow_zero, Nat.div_one] at this
        exact this
    · by_cases e1 : e = f.h
      · subst e1
        rw [g7 _ (fun e h1 h2 => hne e h1 h2), List.getElem?_set_self hlt]
        rw [hq] at hq'
        injection hq' with hq'
        subst hq'
        rfl
      · exact g6 e q' (by omega) h2 (by rw [List.getElem?_set_ne (hne e (by omega) h2)]; exact hq')
    · rw [g7 i (fun e h1 h2 => hi e (by omega) h2), List.getElem?_set_ne (fun e => hi f.h (Nat.le_refl _) hh e.symm)]

/-- Is a node at, or below, another? -/
def underB (i k : Nat) : Bool := (List.range 8).any fun j => k / 2 ^ j == i
theorem under_of {i k j : Nat} (hj : j < 8) (h : k / 2 ^ j = i) : underB i k = true := by
  unfold underB
  exact List.any_eq_true.2 ⟨j, List.mem_range.2 hj, by simpa using h⟩
/-- How many rows are at a node, or below. -/
def cntB (l : List R) (i : Nat) : Nat := (l.filter fun x => underB i x.1).length
theorem cnt_zero {l : List R} {i : Nat} (h : cntB l i = 0) : ∀ x ∈ l, underB i x.1 = false := fun x hx => by
  cases e : underB i x.1 with
  | false => rfl
  | true =>
    have : x ∈ l.filter fun x => underB i x.1 := List.mem_filter.2 ⟨hx, e⟩
    rw [List.eq_nil_of_length_eq_zero h] at this
    cases this
theorem cnt_one {l : List R} {i : Nat} (h : cntB l i ≤ 1) {x y : R} (hx : x ∈ l) (hy : y ∈ l) (ux : underB i x.1 = true) (uy : underB i y.1 = true) : x = y := by
  have h1 : x ∈ l.filter fun x => underB i x.1 := List.mem_filter.2 ⟨hx, ux⟩
  have h2 : y ∈ l.filter fun x => underB i x.1 := List.mem_filter.2 ⟨hy, uy⟩
  unfold cntB at h
  generalize l.filter (fun x => underB i x.1) = g at *
  match g, h with
  | [], _ => cases h1
  | [z], _ =>
    rw [List.mem_singleton] at h1 h2
    rw [h1, h2]
  | _ :: _ :: _, h => simp at h
/-- The node's word. -/
def wordT (l : List R) (i : Nat) : Nat := match Tb.get l i with | some v => v + 1 | none => 0
/-- The cells are those of the rows. -/
def RelT (c : Cf) (l : List R) (cs : List Q4) : Prop := cs.length = 2 ^ (c.bits.toNat + 1) ∧ (∀ i, 1 ≤ i → i < 2 ^ (c.bits.toNat + 1) → cs[i]? = some (0, wordT l i, cntB l i, 0)) ∧ cs[0]? = some (0, 0, 0, 0)

/-- The longest prefix that matches, of those that are shorter. -/
def bestT (l : List R) (m n : Nat) : Nat → Nat
  | 0 => 0
  | h + 1 => match Tb.get l (m / 2 ^ (n - h)) with | some v => v + 1 | none => bestT l m n h
theorem best_stop {l : List R} {m n : Nat} {h : Nat} : ∀ k, h ≤ k → (∀ e, h ≤ e → e < k → Tb.get l (m / 2 ^ (n - e)) = none) → bestT l m n k = bestT l m n h := by
  intro k
  induction k with
  | zero => intro hk _; obtain rfl : h = 0 := by omega
            rfl
  | succ k ih =>
    intro hk hn
    by_cases e : h = k + 1
    · rw [e]
    · rw [bestT, hn k (by omega) (by omega)]
      exact ih (by omega) fun e h1 h2 => hn e h1 (by omega)
theorem best_seek (l : List R) (n key : Nat) : ∀ m, m ≤ n → bestT l (key + 2 ^ n) n (m + 1) = match seek l n key m with | some v => v + 1 | none => 0 := by
  have hn : ∀ d, d ≤ n → (key + 2 ^ n) / 2 ^ (n - d) = 2 ^ d + key / 2 ^ (n - d) := fun d hd => by
    have e : 2 ^ n = 2 ^ d * 2 ^ (n - d) := by rw [← Nat.pow_add]; congr 1; omega
    rw [e, Nat.add_mul_div_right _ _ (Nat.two_pow_pos _), Nat.add_comm]
  intro m
  induction m with
  | zero =>
    intro _
    unfold seek bestT
    rw [hn 0 (by omega), Nat.sub_zero]
    rfl
  | succ m ih =>
    intro hm
    rw [bestT, hn (m + 1) hm]
    conv => rhs; unfold seek
    cases Tb.get l (2 ^ (m + 1) + key / 2 ^ (n - (m + 1))) with
    | some v => rfl
    | none => exact ih (by omega)

/-- One act of a look-up: it goes on, one deeper, or it is done. -/
theorem look_act {c : Cf} {l : List R} {cs : List Q4} (hc : Ok c) (ho : c.obj = 1) (hR : RelT c l cs) (hv : ∀ x ∈ l, x.2 ≤ 2147483647) (f : Ds) (ps : List Nat) (n : Nat) (hm : TMay c f) (hk : f.kind = 3) (hp : f.pc = 0) (hh : f.h ≤ c.bits.toNat) (hx : f.x = bestT l (wholeT c f) c.bits.toNat f.h) :
    (f.h < c.bits.toNat ∧ ∃ ps', goT c (n + 2) cs f ps = goT c (n + 1) cs { f with x := bestT l (wholeT c f) c.bits.toNat (f.h + 1), h := f.h + 1 } ps' ∧ TMay c { f with x := bestT l (wholeT c f) c.bits.toNat (f.h + 1), h := f.h + 1 }) ∨
    (∃ ps', goT c (n + 2) cs f ps = (cs, (if bestT l (wholeT c f) c.bits.toNat (c.bits.toNat + 1) = 0 then 6 else 0, bestT l (wholeT c f) c.bits.toNat (c.bits.toNat + 1)), ps', true)) := by
  have et : topT c f = c.bits.toNat := by unfold topT; rw [if_pos hk]
  have ed : deepT c f = wholeT c f / 2 ^ (c.bits.toNat - f.h) := by unfold deepT; rw [et]
  have es : stepT c f = ⟨1, deepT c f, 0, 0, 0, 0, 0⟩ := by unfold stepT; rw [if_pos hp, if_pos hk]
  obtain ⟨g1, g2, _⟩ := stepT_place hc ho hm (by rw [es]; simp)
  rw [es] at g1 g2
  simp only at g1 g2
  have hb6 : c.bits.toNat ≤ 6 := by have := (mayT_bounds hc ho hm).1; omega
  have hq := hR.2.1 _ g1 g2
  have s1 := goT_read (c := c) (n := n + 1) (cs := cs) (f := f) (ps := ps) hc ho hm (by rw [es]) (by rw [es]; exact g1) (by rw [es]; exact hq)
  have hm1 := behindT_may ho hm (wordT l (deepT c f)) (cntB l (deepT c f))
  simp only at s1
  rw [bhT_look hk hp] at s1 hm1
  have hw : wordT l (deepT c f) % 4294967296 = wordT l (deepT c f) := by
    unfold wordT
    cases hg : Tb.get l (deepT c f) with
    | none => rfl
    | some v => have := hv _ (get_some hg); simp only at this ⊢; omega
  have hbx : (if wordT l (deepT c f) = 0 then f.x else wordT l (deepT c f)) = bestT l (wholeT c f) c.bits.toNat (f.h + 1) := by
    rw [bestT, ← ed, hx]
    unfold wordT
    cases Tb.get l (deepT c f) with
    | none => rfl
    | some v => simp
  unfold lookT at s1 hm1
  simp only [hw, hbx] at s1 hm1
  by_cases hcond : f.h < c.bits.toNat ∧ (1 < cntB l (deepT c f) ∨ (cntB l (deepT c f) = 1 ∧ wordT l (deepT c f) = 0))
  · rw [if_pos hcond] at s1 hm1
    exact .inl ⟨hcond.1, _, s1, hm1⟩
  · rw [if_neg hcond] at s1 hm1
    right
    have hw2 : 2 ^ c.bits.toNat ≤ wholeT c f := by unfold wholeT; rw [et]; omega
    have hstop : bestT l (wholeT c f) c.bits.toNat (c.bits.toNat + 1) = bestT l (wholeT c f) c.bits.toNat (f.h + 1) := by
      refine best_stop _ (by omega) fun e h1 h2 => ?_
      cases hg : Tb.get l (wholeT c f / 2 ^ (c.bits.toNat - e)) with
      | none => rfl
      | some v =>
        exfalso
        have hlt : f.h < c.bits.toNat := by omega
        have hun : underB (deepT c f) (wholeT c f / 2 ^ (c.bits.toNat - e)) = true := by
          refine under_of (j := e - f.h) (by omega) ?_
          rw [ed, Nat.div_div_eq_div_mul, ← Nat.pow_add]
          congr 2
          omega
        have hmem := get_some hg
        have hB : cntB l (deepT c f) ≤ 1 := by
          by_cases h3 : 1 < cntB l (deepT c f)
          · exact absurd ⟨hlt, .inl h3⟩ hcond
          · omega
        by_cases hB0 : cntB l (deepT c f) = 0
        · have := cnt_zero hB0 _ hmem
          rw [hun] at this
          cases this
        · have hw0 : wordT l (deepT c f) ≠ 0 := fun h => hcond ⟨hlt, .inr ⟨by omega, h⟩⟩
          cases hg2 : Tb.get l (deepT c f) with
          | none => unfold wordT at hw0; rw [hg2] at hw0; exact hw0 rfl
          | some u =>
            have := cnt_one hB hmem (get_some hg2) hun (under_of (j := 0) (by omega) (by simp))
            injection this with this _
            have h4 := path_lt (m := wholeT c f) (b := c.bits.toNat) (e := f.h) (e' := e) hw2 (by omega) (by omega)
            rw [ed] at this
            omega
    rw [hstop]
    generalize bestT l (wholeT c f) c.bits.toNat (f.h + 1) = X at *
    refine ⟨ps ++ [(stepT c f).pl], ?_⟩
    rw [s1]
    by_cases hX : X = 0
    · rw [if_pos hX] at hm1 ⊢
      rw [goT_done hc ho hm1 (by unfold stepT; simp)]
      unfold stepT
      simp [hX]
    · rw [if_neg hX] at hm1 ⊢
      rw [goT_done hc ho hm1 (by unfold stepT; simp)]
      unfold stepT
      simp [hX]
/-- Done alone, a look-up answers the longest prefix that matches, and leaves the cells. -/
theorem look_goes {c : Cf} {l : List R} {cs : List Q4} (hc : Ok c) (ho : c.obj = 1) (hR : RelT c l cs) (hv : ∀ x ∈ l, x.2 ≤ 2147483647) : ∀ (d : Nat) (f : Ds) (ps : List Nat) (r : Nat), TMay c f → f.kind = 3 → f.pc = 0 → c.bits.toNat - f.h = d → f.h ≤ c.bits.toNat → f.x = bestT l (wholeT c f) c.bits.toNat f.h →
    ∃ ps', goT c (d + 2 + r) cs f ps = (cs, (if bestT l (wholeT c f) c.bits.toNat (c.bits.toNat + 1) = 0 then 6 else 0, bestT l (wholeT c f) c.bits.toNat (c.bits.toNat + 1)), ps', true) := by
  intro d
  induction d with
  | zero =>
    intro f ps r hm hk hp hd hh hx
    rcases look_act hc ho hR hv f ps r hm hk hp hh hx with ⟨h, _⟩ | ⟨ps', h⟩
    · omega
    · exact ⟨ps', by rw [show 0 + 2 + r = r + 2 by omega]; exact h⟩
  | succ d ih =>
    intro f ps r hm hk hp hd hh hx
    rcases look_act hc ho hR hv f ps (d + 1 + r) hm hk hp hh hx with ⟨h, ps1, h1, h2⟩ | ⟨ps', h⟩
    · obtain ⟨ps', h3⟩ := ih { f with x := bestT l (wholeT c f) c.bits.toNat (f.h + 1), h := f.h + 1 } ps1 r h2 hk hp (by show c.bits.toNat - (f.h + 1) = d; omega) (by show f.h + 1 ≤ _; omega) rfl
      refine ⟨ps', ?_⟩
      rw [show d + 1 + 2 + r = d + 1 + r + 2 by omega, h1, show d + 1 + r + 1 = d + 2 + r by omega]
      exact h3
    · exact ⟨ps', by rw [show d + 1 + 2 + r = d + 1 + r + 2 by omega]; exact h⟩
end Go.Proofs.YtjhgccfnihbokaaDoor

namespace Go.Proofs.YtjhgccfnihbokaaDoor
open Pt Opn Tb

theorem trget_app (a b : List R) (k : Nat) : Tb.get (a ++ b) k = (match Tb.get a k with | some v => some v | none => Tb.get b k) := by
  unfold Tb.get
  rw [List.find?_append]
  cases List.find? (fun x => x.1 == k) a <;> rfl
theorem trget_no {l : List R} {k : Nat} (h : ∀ x ∈ l, x.1 ≠ k) : Tb.get l k = none := by
  unfold Tb.get
  rw [List.find?_eq_none.2 fun x hx => by simpa using h x hx]
  rfl
theorem trget_one (k v i : Nat) : Tb.get [(k, v)] i = if i = k then some v else none := by
  unfold Tb.get
  by_cases h : i = k
  · subst h; simp
  · rw [if_neg h, List.find?_cons_of_neg (by simpa using fun e : k = i => h e.symm)]; rfl
theorem trlo_lt {l : List R} {k : Nat} : ∀ x ∈ lo l k, x.1 < k := fun x hx => by simpa [lo] using (List.mem_filter.1 hx).2
theorem trhi_gt {l : List R} {k : Nat} : ∀ x ∈ hi l k, k < x.1 := fun x hx => by simpa [hi] using (List.mem_filter.1 hx).2
theorem trput_app (l : List R) (k v : Nat) : put l k v = lo l k ++ ([(k, v)] ++ hi l k) := rfl
theorem trsplit_app {l : List R} (k : Nat) (h : Up l) : l = lo l k ++ ((match Tb.get l k with | some v => [(k, v)] | none => []) ++ hi l k) := by
  conv => lhs; rw [split_at k h]
  rw [List.append_assoc]
  cases Tb.get l k <;> rfl
theorem trmid_no {l : List R} {k i : Nat} (hi : i ≠ k) : Tb.get (match Tb.get l k with | some v => [(k, v)] | none => [] : List R) i = none := by
  cases Tb.get l k with
  | none => rfl
  | some v => show Tb.get [(k, v)] i = none; rw [trget_one, if_neg hi]

theorem word_put {l : List R} (h : Up l) (k v i : Nat) : wordT (put l k v) i = if i = k then v + 1 else wordT l i := by
  unfold wordT
  by_cases e : i = k
  · subst e
    rw [trput_app, trget_app, trget_no (fun x hx => Nat.ne_of_lt (trlo_lt x hx)), trget_app, trget_one]
    simp
  · rw [if_neg e]
    have h1 : Tb.get l i = Tb.get (put l k v) i := by
      conv => lhs; rw [trsplit_app k h]
      rw [trput_app, trget_app, trget_app, trget_app, trget_app, trmid_no e, trget_one, if_neg e]
    rw [h1]
theorem word_cut {l : List R} (h : Up l) (k i : Nat) : wordT (cut l k) i = if i = k then 0 else wordT l i := by
  unfold wordT
  by_cases e : i = k
  · subst e
    rw [trget_no (l := cut l i) (fun x hx => by simpa [cut] using (List.mem_filter.1 hx).2)]
    simp
  · rw [if_neg e]
    have h1 : Tb.get l i = Tb.get (cut l k) i := by
      conv => lhs; rw [trsplit_app k h]
      rw [cut_eq k h, trget_app, trget_app, trget_app, trmid_no e]
    rw [h1]
/-- One row counts for the nodes above it. -/
def oneB (i k : Nat) : Nat := if underB i k then 1 else 0
theorem cnt_app (a b : List R) (i : Nat) : cntB (a ++ b) i = cntB a i + cntB b i := by
  unfold cntB
  rw [List.filter_append, List.length_append]
theorem cnt_single (k v i : Nat) : cntB [(k, v)] i = oneB i k := by
  unfold cntB oneB
  cases h : underB i k <;> simp [h]
theorem cnt_nil (i : Nat) : cntB [] i = 0 := rfl
theorem cnt_split {l : List R} (h : Up l) (k i : Nat) : cntB l i = cntB (lo l k) i + (if (Tb.get l k).isSome then oneB i k else 0) + cntB (hi l k) i := by
  conv => lhs; rw [trsplit_app k h]
  rw [cnt_app, cnt_app]
  cases Tb.get l k with
  | none => simp [cnt_nil]
  | some v => show _ + (cntB [(k, v)] i + _) = _; rw [cnt_single]; simp; omega
theorem cnt_put {l : List R} (h : Up l) (k v i : Nat) : cntB (put l k v) i = cntB l i + (if (Tb.get l k).isSome then 0 else oneB i k) := by
  rw [cnt_split h k i, trput_app, cnt_app, cnt_app, cnt_single]
  split <;> omega
theorem cnt_cut {l : List R} (h : Up l) (k i : Nat) : cntB l i = cntB (cut l k) i + (if (Tb.get l k).isSome then oneB i k else 0) := by
  rw [cnt_split h k i, cut_eq k h, cnt_app]
  omega
/-- The nodes above one are those of its path. -/
theorem under_path {m b i : Nat} (_h1 : 2 ^ b ≤ m) (h2 : m < 2 ^ (b + 1)) (hb : b ≤ 6) (hi : 1 ≤ i) : underB i m = true ↔ ∃ e, e ≤ b ∧ i = m / 2 ^ (b - e) := by
  constructor
  · intro h
    unfold underB at h
    obtain ⟨j, hj, e⟩ := List.any_eq_true.1 h
    have e : m / 2 ^ j = i := by simpa using e
    by_cases hjb : j ≤ b
    · exact ⟨b - j, by omega, by rw [← e]; congr 2; omega⟩
    · exfalso
      have : 2 ^ (b + 1) ≤ 2 ^ j := Nat.pow_le_pow_right (by decide) (by omega)
      have : m / 2 ^ j = 0 := Nat.div_eq_of_lt (by omega)
      omega
  · rintro ⟨e, he, rfl⟩
    exact under_of (j := b - e) (by omega) rfl
/-- All rows are at the first node, or below. -/
theorem cnt_all {l : List R} (h : ∀ x ∈ l, 1 ≤ x.1 ∧ x.1 < 128) : cntB l 1 = l.length := by
  unfold cntB
  rw [List.filter_eq_self.2 fun x hx => ?_]
  obtain ⟨h1, h2⟩ := h x hx
  have hl : x.1.log2 < 7 := (Nat.log2_lt (by omega)).2 (by omega)
  refine under_of (j := x.1.log2) (by omega) ?_
  have g1 := Nat.log2_self_le (n := x.1) (by omega)
  have g2 := Nat.lt_log2_self (n := x.1)
  refine Nat.le_antisymm (Nat.le_of_lt_succ ?_) ?_
  · refine (Nat.div_lt_iff_lt_mul (Nat.two_pow_pos _)).2 ?_
    rw [Nat.pow_succ] at g2
    omega
  · exact (Nat.le_div_iff_mul_le (Nat.two_pow_pos _)).2 (by omega)
end Go.Proofs.YtjhgccfnihbokaaDoor

namespace Go.Proofs.YtjhgccfnihbokaaDoor
open Pt Opn Tb

/-- Rows that a table may have: what of them is needed. -/
structure RowsT (c : Cf) (l : List R) : Prop where
  ok : Ok c
  obj : c.obj = 1
  len : l.length ≤ c.cap.toNat
  up : Up l
  row : ∀ x ∈ l, 1 ≤ x.1 ∧ x.1 < 2 ^ (c.bits.toNat + 1) ∧ x.2 ≤ 2147483647

theorem RowsT.bits {c : Cf} {l : List R} (h : RowsT c l) : 1 ≤ c.bits.toNat ∧ c.bits.toNat ≤ 6 ∧ 1 ≤ c.cap.toNat ∧ c.cap.toNat ≤ 32 := by
  have h1 := h.ok.1
  have h2 := h.ok.2.2
  have h3 := h.obj
  unfold ObjOk at h1
  unfold RestOk at h2
  omega
theorem RowsT.cnt {c : Cf} {l : List R} (h : RowsT c l) (i : Nat) : cntB l i ≤ 32 := by
  have h1 := h.bits
  have h2 := h.len
  have h3 : cntB l i ≤ l.length := List.length_filter_le _ _
  omega
theorem RowsT.word {c : Cf} {l : List R} (h : RowsT c l) (i : Nat) : wordT l i % 4294967296 = wordT l i := by
  unfold wordT
  cases hg : Tb.get l i with
  | none => rfl
  | some v => have := (h.row _ (get_some hg)).2.2; simp only at this ⊢; omega

/-- What starts. -/
theorem start_ins {c : Cf} {o : O} (ho : c.obj = 1) (hm : TMay c (startF o)) (hk : o.k = 1) : o.b ≤ c.bits.toNat ∧ o.a < 2 ^ o.b ∧ o.c ≤ 2147483647 := by
  have := fitsT ho hm.1
  unfold startF at this
  simp only at this
  omega
theorem start_rem {c : Cf} {o : O} (ho : c.obj = 1) (hm : TMay c (startF o)) (hk : o.k = 2) : o.b ≤ c.bits.toNat ∧ o.a < 2 ^ o.b := by
  have := fitsT ho hm.1
  unfold startF at this
  simp only at this
  omega
theorem node_in {n b a : Nat} (hb : b ≤ n) (ha : a < 2 ^ b) : 1 ≤ a + 2 ^ b ∧ 2 ^ b ≤ a + 2 ^ b ∧ a + 2 ^ b < 2 ^ (b + 1) ∧ a + 2 ^ b < 2 ^ (n + 1) := by
  have h1 : 2 ^ (b + 1) ≤ 2 ^ (n + 1) := Nat.pow_le_pow_right (by decide) (by omega)
  have h2 := Nat.two_pow_pos b
  rw [Nat.pow_succ] at *
  omega

/-- A look-up. -/
theorem means_look {c : Cf} {l : List R} {cs : List Q4} {o : O} (h : RowsT c l) (hR : RelT c l cs) (hm : TMay c (startF o)) (hk : o.k = 3) :
    ∃ ps, goT c 40 cs (startF o) [] = (cs, (if seek l c.bits.toNat o.a c.bits.toNat = none then 6 else 0, match seek l c.bits.toNat o.a c.bits.toNat with | some v => v + 1 | none => 0), ps, true) := by
  have hb := h.bits
  have hw : wholeT c (startF o) = o.a + 2 ^ c.bits.toNat := by unfold wholeT topT startF; simp [hk]
  obtain ⟨ps, hg⟩ := look_goes h.ok h.obj hR (fun x hx => (h.row x hx).2.2) c.bits.toNat (startF o) [] (38 - c.bits.toNat) hm hk rfl (by show _ - 0 = _; omega) (Nat.zero_le _) rfl
  rw [show c.bits.toNat + 2 + (38 - c.bits.toNat) = 40 by omega, hw, best_seek l _ _ _ (Nat.le_refl _)] at hg
  refine ⟨ps, ?_⟩
  rw [hg]
  cases seek l c.bits.toNat o.a c.bits.toNat with
  | none => simp
  | some v => simp
/-- A removing of what is not there. -/
theorem means_none {c : Cf} {l : List R} {cs : List Q4} {o : O} (h : RowsT c l) (hR : RelT c l cs) (hm : TMay c (startF o)) (hk : o.k = 2) (hg : Tb.get l (o.a + 2 ^ o.b) = none) :
    ∃ ps, goT c 40 cs (startF o) [] = (cs, (6, 0), ps, true) := by
  obtain ⟨b1, b2⟩ := start_rem h.obj hm hk
  obtain ⟨n1, n2, n3, n4⟩ := node_in b1 b2
  have hw : wholeT c (startF o) = o.a + 2 ^ o.b := by unfold wholeT topT startF; simp [hk]
  have es : stepT c (startF o) = ⟨1, o.a + 2 ^ o.b, 0, 0, 0, 0, 0⟩ := by unfold stepT; rw [if_pos (show (startF o).pc = 0 from rfl), if_neg (by show ¬ o.k = 3; omega), hw]
  have hq := hR.2.1 _ n1 n4
  have s1 := goT_read (c := c) (n := 39) (cs := cs) (f := startF o) (ps := []) h.ok h.obj hm (by rw [es]) (by rw [es]; exact n1) (by rw [es]; exact hq)
  have hm1 := behindT_may h.obj hm (wordT l (o.a + 2 ^ o.b)) (cntB l (o.a + 2 ^ o.b))
  have hw0 : wordT l (o.a + 2 ^ o.b) = 0 := by unfold wordT; rw [hg]
  simp only [hw0] at s1 hm1
  rw [bhT_20 hk rfl, if_pos (by decide)] at s1 hm1
  refine ⟨[] ++ [(stepT c (startF o)).pl], ?_⟩
  rw [s1, goT_done h.ok h.obj hm1 (by unfold stepT; simp)]
  unfold stepT
  simp
/-- Cells whose path was gone are those of the rows behind. -/
theorem rel_path {c : Cf} {l l' : List R} {cs cs' : List Q4} {k y b a : Nat} (h : RowsT c l) (hb : b ≤ c.bits.toNat) (ha : a < 2 ^ b) (hR : RelT c l cs) (hl : cs'.length = cs.length)
    (hin : ∀ e q, e ≤ b → cs[(a + 2 ^ b) / 2 ^ (b - e)]? = some q → cs'[(a + 2 ^ b) / 2 ^ (b - e)]? = some (0, newA k y q.2.1 (decide (e = b)), newB k q.2.2.1, 0))
    (hout : ∀ i, (∀ e, e ≤ b → i ≠ (a + 2 ^ b) / 2 ^ (b - e)) → cs'[i]? = cs[i]?)
    (hword : ∀ i, wordT l' i = if i = a + 2 ^ b then (if k = 2 then 0 else y + 1) else wordT l i)
    (hcnt : ∀ i, underB i (a + 2 ^ b) = true → newB k (cntB l i) = cntB l' i) (hoth : ∀ i, underB i (a + 2 ^ b) = false → cntB l' i = cntB l i) : RelT c l' cs' := by
  obtain ⟨n1, n2, n3, n4⟩ := node_in hb ha
  have hb6 := h.bits
  refine ⟨by rw [hl]; exact hR.1, fun i h1 h2 => ?_, ?_⟩
  rotate_left
  · rw [hout 0 fun e he hi => ?_]
    · exact hR.2.2
    · have h3 := (Nat.le_div_iff_mul_le (Nat.two_pow_pos (b - e))).2 (show 1 * 2 ^ (b - e) ≤ a + 2 ^ b by
        have : 2 ^ (b - e) ≤ 2 ^ b := Nat.pow_le_pow_right (by decide) (by omega)
        omega)
      omega
  have hq := hR.2.1 i h1 h2
  cases hu : underB i (a + 2 ^ b) with
  | true =>
    obtain ⟨e, he, rfl⟩ := (under_path n2 n3 (by omega) h1).1 hu
    rw [hin e _ he hq, ← hcnt _ hu, hword]
    unfold newA
    by_cases e1 : e = b
    · subst e1
      rw [Nat.sub_self, Nat.pow_zero, Nat.div_one]
      simp
    · have hne : (a + 2 ^ b) / 2 ^ (b - e) ≠ a + 2 ^ b := by
        have := path_lt (m := a + 2 ^ b) (b := b) (e := e) (e' := b) n2 (by omega) (Nat.le_refl _)
        rw [Nat.sub_self, Nat.pow_zero, Nat.div_one] at this
        omega
      rw [if_neg hne]
      simp [e1, h.word]
  | false =>
    have hne : ∀ e, e ≤ b → i ≠ (a + 2 ^ b) / 2 ^ (b - e) := fun e he hi => by
      have := (under_path n2 n3 (by omega) h1).2 ⟨e, he, hi⟩
      rw [hu] at this
      cases this
    have hm : i ≠ a + 2 ^ b := fun hi => hne b (Nat.le_refl _) (by rw [Nat.sub_self, Nat.pow_zero, Nat.div_one]; exact hi)
    rw [hout i hne, hq, hoth i hu, hword, if_neg hm]
/-- A removing of what is there. -/
theorem means_rem {c : Cf} {l : List R} {cs : List Q4} {o : O} {v : Nat} (h : RowsT c l) (hR : RelT c l cs) (hm : TMay c (startF o)) (hk : o.k = 2) (hg : Tb.get l (o.a + 2 ^ o.b) = some v) :
    ∃ cs' ps, goT c 40 cs (startF o) [] = (cs', (0, v + 1), ps, true) ∧ RelT c (cut l (o.a + 2 ^ o.b)) cs' := by
  obtain ⟨b1, b2⟩ := start_rem h.obj hm hk
  obtain ⟨n1, n2, n3, n4⟩ := node_in b1 b2
  have hb6 := h.bits
  have hw : wholeT c (startF o) = o.a + 2 ^ o.b := by unfold wholeT topT startF; simp [hk]
  have es : stepT c (startF o) = ⟨1, o.a + 2 ^ o.b, 0, 0, 0, 0, 0⟩ := by unfold stepT; rw [if_pos (show (startF o).pc = 0 from rfl), if_neg (by show ¬ o.k = 3; omega), hw]
  have hq := hR.2.1 _ n1 n4
  have s1 := goT_read (c := c) (n := 39) (cs := cs) (f := startF o) (ps := []) h.ok h.obj hm (by rw [es]) (by rw [es]; exact n1) (by rw [es]; exact hq)
  have hm1 := behindT_may h.obj hm (wordT l (o.a + 2 ^ o.b)) (cntB l (o.a + 2 ^ o.b))
  have hw0 : wordT l (o.a + 2 ^ o.b) = v + 1 := by unfold wordT; rw [hg]
  have hwm := h.word (o.a + 2 ^ o.b)
  simp only at s1 hm1
  rw [bhT_20 hk rfl, hwm, hw0, if_neg (by omega)] at s1 hm1
  obtain ⟨f1, hf1⟩ : ∃ f1, ({ startF o with x := v + 1, n := cntB l (o.a + 2 ^ o.b) % 64, pc := 2, h := 0 } : Ds) = f1 := ⟨_, rfl⟩
  rw [hf1] at s1 hm1
  have k1 : f1.kind = 2 := by rw [← hf1]; exact hk
  have p1 : f1.pc = 2 := by rw [← hf1]
  have bb1 : f1.b = o.b := by rw [← hf1]; rfl
  have h1 : f1.h = 0 := by rw [← hf1]
  have w1 : wholeT c f1 = o.a + 2 ^ o.b := by rw [← hw, ← hf1]; rfl
  obtain ⟨cs', ps', x, n, q, g1, g2, g3, g4, g5, g6, g7⟩ := path_goes h.ok h.obj o.b cs f1 ([] ++ [(stepT c (startF o)).pl]) (39 - 2 * (o.b + 1)) hm1 p1 (.inr k1) (by omega) (by omega) (by rw [hR.1]; exact Nat.le_refl _)
  rw [show 2 * (o.b + 1) + (39 - 2 * (o.b + 1)) = 39 by omega] at g1
  rw [w1] at g4
  rw [hq] at g4
  injection g4 with g4
  subst g4
  simp only [hw0] at g5
  rw [w1, bb1, h1, k1] at g6
  rw [w1, bb1, h1] at g7
  refine ⟨cs', ps', ?_, rel_path h b1 b2 hR g3 (fun e q' he hq' => g6 e q' (Nat.zero_le _) he hq') (fun i hi => g7 i (fun e _ he => hi e he)) (fun i => by rw [word_cut h.up]; rfl) (fun i hi => ?_) (fun i hi => ?_)⟩
  · rw [s1, g1, show 39 - 2 * (o.b + 1) = 38 - 2 * (o.b + 1) + 1 by omega, goT_done h.ok h.obj g2 (by unfold stepT; simp)]
    have hv := (h.row _ (get_some hg)).2.2
    simp only at hv
    unfold stepT
    simp [g5]
    omega
  · have hc := cnt_cut h.up (o.a + 2 ^ o.b) i
    have h32 := h.cnt i
    unfold oneB at hc
    rw [hg, hi] at hc
    simp at hc
    unfold newB
    rw [if_pos rfl]
    omega
  · have hc := cnt_cut h.up (o.a + 2 ^ o.b) i
    unfold oneB at hc
    rw [hg, hi] at hc
    simp at hc
    omega
/-- The first act of a putting in. -/
theorem ins_first {c : Cf} {l : List R} {cs : List Q4} {o : O} (h : RowsT c l) (hR : RelT c l cs) (hm : TMay c (startF o)) (hk : o.k = 1) :
    ∃ ps, goT c 40 cs (startF o) [] = goT c 39 cs { startF o with x := wordT l (o.a + 2 ^ o.b), n := cntB l (o.a + 2 ^ o.b) % 64, pc := if wordT l (o.a + 2 ^ o.b) = 0 then 1 else 5 } ps ∧
      TMay c { startF o with x := wordT l (o.a + 2 ^ o.b), n := cntB l (o.a + 2 ^ o.b) % 64, pc := if wordT l (o.a + 2 ^ o.b) = 0 then 1 else 5 } := by
  obtain ⟨b1, b2, _⟩ := start_ins h.obj hm hk
  obtain ⟨n1, n2, n3, n4⟩ := node_in b1 b2
  have hw : wholeT c (startF o) = o.a + 2 ^ o.b := by unfold wholeT topT startF; simp [hk]
  have es : stepT c (startF o) = ⟨1, o.a + 2 ^ o.b, 0, 0, 0, 0, 0⟩ := by unfold stepT; rw [if_pos (show (startF o).pc = 0 from rfl), if_neg (by show ¬ o.k = 3; omega), hw]
  have hq := hR.2.1 _ n1 n4
  have s1 := goT_read (c := c) (n := 39) (cs := cs) (f := startF o) (ps := []) h.ok h.obj hm (by rw [es]) (by rw [es]; exact n1) (by rw [es]; exact hq)
  have hm1 := behindT_may h.obj hm (wordT l (o.a + 2 ^ o.b)) (cntB l (o.a + 2 ^ o.b))
  simp only at s1 hm1
  rw [bhT_10 hk rfl, h.word] at s1 hm1
  exact ⟨_, s1, hm1⟩
/-- A putting in where a route is there. -/
theorem means_over {c : Cf} {l : List R} {cs : List Q4} {o : O} {v : Nat} (h : RowsT c l) (hR : RelT c l cs) (hm : TMay c (startF o)) (hk : o.k = 1) (hg : Tb.get l (o.a + 2 ^ o.b) = some v) :
    ∃ cs' ps, goT c 40 cs (startF o) [] = (cs', (0, v + 1), ps, true) ∧ RelT c (put l (o.a + 2 ^ o.b) o.c) cs' := by
  obtain ⟨b1, b2, _⟩ := start_ins h.obj hm hk
  obtain ⟨n1, n2, n3, n4⟩ := node_in b1 b2
  obtain ⟨ps, s1, hm1⟩ := ins_first h hR hm hk
  have hw0 : wordT l (o.a + 2 ^ o.b) = v + 1 := by unfold wordT; rw [hg]
  rw [hw0, if_neg (by omega)] at s1 hm1
  obtain ⟨f1, hf1⟩ : ∃ f1, ({ startF o with x := v + 1, n := cntB l (o.a + 2 ^ o.b) % 64, pc := 5 } : Ds) = f1 := ⟨_, rfl⟩
  rw [hf1] at s1 hm1
  have k1 : f1.kind = 1 := by rw [← hf1]; exact hk
  have p1 : f1.pc = 5 := by rw [← hf1]
  have x1 : f1.x = v + 1 := by rw [← hf1]
  have y1 : f1.y = o.c := by rw [← hf1]; rfl
  have nn1 : f1.n = cntB l (o.a + 2 ^ o.b) % 64 := by rw [← hf1]
  have w1 : wholeT c f1 = o.a + 2 ^ o.b := by rw [← hf1]; unfold wholeT topT startF; simp [hk]
  have es : stepT c f1 = ⟨2, o.a + 2 ^ o.b, o.c + 1, cntB l (o.a + 2 ^ o.b), 0, 0, 0⟩ := by
    have h32 := h.cnt (o.a + 2 ^ o.b)
    unfold stepT
    rw [if_neg (by omega), if_neg (by omega), if_neg (by omega), if_neg (by omega), if_pos p1, w1, y1, nn1, Nat.mod_mod, Nat.mod_eq_of_lt (by omega)]
  have hl : o.a + 2 ^ o.b < cs.length := by rw [hR.1]; exact n4
  have s2 := goT_write (c := c) (n := 38) (cs := cs) (f := f1) (ps := ps) h.ok h.obj hm1 (by rw [es]) (by rw [es]; exact n1) (by rw [es]; exact hl)
  have hm2 := behindT_may h.obj hm1 (stepT c f1).a (stepT c f1).b
  rw [bhT_5 (by omega) p1] at s2 hm2
  rw [es] at s2
  simp only at s2
  refine ⟨cs.set (o.a + 2 ^ o.b) (0, o.c + 1, cntB l (o.a + 2 ^ o.b), 0), ps ++ [o.a + 2 ^ o.b], ?_, by rw [List.length_set]; exact hR.1, fun i h1 h2 => ?_, by rw [List.getElem?_set_ne (by omega)]; exact hR.2.2⟩
  · rw [s1, s2, goT_done h.ok h.obj hm2 (by unfold stepT; simp)]
    unfold stepT
    simp [x1]
  · have hc := cnt_put h.up (o.a + 2 ^ o.b) o.c i
    rw [hg] at hc
    simp at hc
    rw [word_put h.up, hc]
    by_cases e : i = o.a + 2 ^ o.b
    · subst e
      rw [List.getElem?_set_self hl, if_pos rfl]
    · rw [List.getElem?_set_ne (fun e' => e e'.symm), if_neg e, hR.2.1 i h1 h2]
/-- A putting in of what is not there. -/
theorem means_ins {c : Cf} {l : List R} {cs : List Q4} {o : O} (h : RowsT c l) (hR : RelT c l cs) (hm : TMay c (startF o)) (hk : o.k = 1) (hg : Tb.get l (o.a + 2 ^ o.b) = none) :
    (c.cap.toNat ≤ l.length ∧ ∃ ps, goT c 40 cs (startF o) [] = (cs, (9, 0), ps, true)) ∨ (¬ c.cap.toNat ≤ l.length ∧ ∃ cs' ps, goT c 40 cs (startF o) [] = (cs', (0, 0), ps, true) ∧ RelT c (put l (o.a + 2 ^ o.b) o.c) cs') := by
  obtain ⟨b1, b2, _⟩ := start_ins h.obj hm hk
  obtain ⟨n1, n2, n3, n4⟩ := node_in b1 b2
  have hb6 := h.bits
  obtain ⟨ps, s1, hm1⟩ := ins_first h hR hm hk
  have hw0 : wordT l (o.a + 2 ^ o.b) = 0 := by unfold wordT; rw [hg]
  rw [hw0, if_pos rfl] at s1 hm1
  obtain ⟨f1, hf1⟩ : ∃ f1, ({ startF o with x := 0, n := cntB l (o.a + 2 ^ o.b) % 64, pc := 1 } : Ds) = f1 := ⟨_, rfl⟩
  rw [hf1] at s1 hm1
  have k1 : f1.kind = 1 := by rw [← hf1]; exact hk
  have p1 : f1.pc = 1 := by rw [← hf1]
  have es : stepT c f1 = ⟨1, 1, 0, 0, 0, 0, 0⟩ := by unfold stepT; rw [if_neg (by omega), if_pos p1]
  have h2 : 1 < 2 ^ (c.bits.toNat + 1) := Nat.one_lt_two_pow (by omega)
  have s2 := goT_read (c := c) (n := 38) (cs := cs) (f := f1) (ps := ps) h.ok h.obj hm1 (by rw [es]) (by rw [es]; exact Nat.le_refl _) (by rw [es]; exact hR.2.1 1 (Nat.le_refl _) h2)
  have hm2 := behindT_may h.obj hm1 (wordT l 1) (cntB l 1)
  have hall : cntB l 1 = l.length := cnt_all fun x hx => by
    have h3 := h.row x hx
    have h4 : 2 ^ (c.bits.toNat + 1) ≤ 2 ^ 7 := Nat.pow_le_pow_right (by decide) (by omega)
    omega
  simp only at s2 hm2
  rw [bhT_1 (by omega) p1, hall] at s2 hm2
  by_cases hfull : c.cap.toNat ≤ l.length
  · left
    rw [if_neg (by omega)] at s2 hm2
    refine ⟨hfull, ps ++ [(stepT c f1).pl], ?_⟩
    rw [s1, s2, goT_done h.ok h.obj hm2 (by unfold stepT; simp)]
    unfold stepT
    simp
  · right
    rw [if_pos (by omega)] at s2 hm2
    obtain ⟨f2, hf2⟩ : ∃ f2, ({ f1 with pc := 2, h := 0 } : Ds) = f2 := ⟨_, rfl⟩
    rw [hf2] at s2 hm2
    have k2 : f2.kind = 1 := by rw [← hf2]; exact k1
    have p2 : f2.pc = 2 := by rw [← hf2]
    have bb2 : f2.b = o.b := by rw [← hf2, ← hf1]; rfl
    have hh2 : f2.h = 0 := by rw [← hf2]
    have y2 : f2.y = o.c := by rw [← hf2, ← hf1]; rfl
    have w2 : wholeT c f2 = o.a + 2 ^ o.b := by rw [← hf2, ← hf1]; unfold wholeT topT startF; simp [hk]
    obtain ⟨cs', ps', x, n, q, g1, g2, g3, g4, g5, g6, g7⟩ := path_goes h.ok h.obj o.b cs f2 (ps ++ [(stepT c f1).pl]) (38 - 2 * (o.b + 1)) hm2 p2 (.inl k2) (by omega) (by omega) (by rw [hR.1]; exact Nat.le_refl _)
    rw [show 2 * (o.b + 1) + (38 - 2 * (o.b + 1)) = 38 by omega] at g1
    rw [w2, hR.2.1 _ n1 n4] at g4
    injection g4 with g4
    subst g4
    simp only [hw0] at g5
    rw [w2, bb2, hh2, k2, y2] at g6
    rw [w2, bb2, hh2] at g7
    refine ⟨hfull, cs', ps', ?_, rel_path h b1 b2 hR g3 (fun e q' he hq' => g6 e q' (Nat.zero_le _) he hq') (fun i hi => g7 i (fun e _ he => hi e he)) (fun i => by rw [word_put h.up]; simp) (fun i hi => ?_) (fun i hi => ?_)⟩
    · rw [s1, s2, g1, show 38 - 2 * (o.b + 1) = 37 - 2 * (o.b + 1) + 1 by omega, goT_done h.ok h.obj g2 (by unfold stepT; simp)]
      unfold stepT
      simp [g5]
    · have hc := cnt_put h.up (o.a + 2 ^ o.b) o.c i
      have h32 := h.cnt i
      unfold oneB at hc
      rw [hg, hi] at hc
      simp at hc
      unfold newB
      rw [if_neg (by decide)]
      omega
    · have hc := cnt_put h.up (o.a + 2 ^ o.b) o.c i
      unfold oneB at hc
      rw [hg, hi] at hc
      simp at hc
      omega
end Go.Proofs.YtjhgccfnihbokaaDoor

namespace Go.Proofs.YtjhgccfnihbokaaDoor
open Pt Opn Tb

/-- Rows that rise are told by what is in them. -/
theorem up_ext : ∀ {l m : List R}, Up l → Up m → (∀ x, x ∈ l ↔ x ∈ m) → l = m
  | [], [], _, _, _ => rfl
  | [], y :: m, _, _, h => by have := (h y).2 (List.mem_cons_self ..); cases this
  | x :: l, [], _, _, h => by have := (h x).1 (List.mem_cons_self ..); cases this
  | x :: l, y :: m, hl, hm, h => by
    rw [up_cons] at hl hm
    have e : x = y := by
      rcases List.mem_cons.1 ((h x).1 (List.mem_cons_self ..)) with e | hx
      · exact e
      · rcases List.mem_cons.1 ((h y).2 (List.mem_cons_self ..)) with e | hy
        · exact e.symm
        · have h1 := hm.1 x hx
          have h2 := hl.1 y hy
          omega
    subst e
    rw [up_ext hl.2 hm.2 fun z => ?_]
    constructor
    · intro hz
      rcases List.mem_cons.1 ((h z).1 (List.mem_cons_of_mem _ hz)) with e | hz'
      · have := hl.1 z hz; rw [e] at this; omega
      · exact hz'
    · intro hz
      rcases List.mem_cons.1 ((h z).2 (List.mem_cons_of_mem _ hz)) with e | hz'
      · have := hm.1 z hz; rw [e] at this; omega
      · exact hz'
/-- A cell's row. -/
def rowOfT (cs : List Q4) (i : Nat) : Option R := match cs[i]? with | some q => if 1 ≤ i ∧ q.2.1 ≠ 0 then some (i, q.2.1 - 1) else none | none => none
/-- The rows of the first cells. -/
def toldT (cs : List Q4) : Nat → List R
  | 0 => []
  | n + 1 => toldT cs n ++ (match rowOfT cs n with | some x => [x] | none => [])
theorem told_lt {cs : List Q4} : ∀ {n : Nat} {x : R}, x ∈ toldT cs n → x.1 < n
  | 0, x, h => by cases h
  | n + 1, x, h => by
    rcases List.mem_append.1 h with h | h
    · have := told_lt h; omega
    · cases e : rowOfT cs n with
      | none => rw [e] at h; cases h
      | some y =>
        rw [e] at h
        have hx : x = y := List.mem_singleton.1 h
        subst hx
        unfold rowOfT at e
        split at e
        · split at e
          · injection e with e; rw [← e]; exact Nat.lt_succ_self n
          · cases e
        · cases e
theorem told_up (cs : List Q4) : ∀ n, Up (toldT cs n)
  | 0 => List.Pairwise.nil
  | n + 1 => by
    have ih := told_up cs n
    unfold toldT
    cases e : rowOfT cs n with
    | none => rw [List.append_nil]; exact ih
    | some y =>
      unfold Up
      rw [List.pairwise_append]
      refine ⟨ih, List.pairwise_singleton _ _, fun x hx z hz => ?_⟩
      have h1 := told_lt hx
      obtain rfl : z = y := List.mem_singleton.1 hz
      unfold rowOfT at e
      split at e
      · split at e
        · injection e with e; rw [← e]; exact h1
        · cases e
      · cases e
theorem told_mem {cs : List Q4} {x : R} : ∀ {n : Nat}, x ∈ toldT cs n ↔ x.1 < n ∧ rowOfT cs x.1 = some x
  | 0 => ⟨fun h => (by cases h), fun h => absurd h.1 (Nat.not_lt_zero _)⟩
  | n + 1 => by
    have hk : ∀ y, rowOfT cs n = some y → y.1 = n := fun y e => by
      unfold rowOfT at e
      split at e
      · split at e
        · injection e with e; rw [← e]
        · cases e
      · cases e
    constructor
    · intro h
      rcases List.mem_append.1 h with h | h
      · have := told_mem.1 h; exact ⟨by omega, this.2⟩
      · cases e : rowOfT cs n with
        | none => rw [e] at h; cases h
        | some y =>
          rw [e] at h
          obtain rfl : x = y := List.mem_singleton.1 h
          have h1 := hk _ e
          exact ⟨by omega, by rw [h1]; exact e⟩
    · rintro ⟨h1, h2⟩
      by_cases h3 : x.1 = n
      · refine List.mem_append.2 (.inr ?_)
        rw [← h3, h2]
        exact List.mem_singleton.2 rfl
      · exact List.mem_append.2 (.inl (told_mem.2 ⟨by omega, h2⟩))
theorem get_mem {l : List R} (h : Up l) {x : R} (hx : x ∈ l) : Tb.get l x.1 = some x.2 := by
  cases hg : Tb.get l x.1 with
  | none => exact absurd rfl (get_none hg x hx)
  | some v =>
    have hm := get_some hg
    obtain ⟨i, hi, e1⟩ := List.getElem_of_mem hx
    obtain ⟨j, hj, e2⟩ := List.getElem_of_mem hm
    have hp := List.pairwise_iff_getElem.1 h
    rcases Nat.lt_trichotomy i j with hij | hij | hij
    · have := hp i j hi hj hij; rw [e1, e2] at this; simp at this
    · subst hij; rw [e1] at e2; rw [e2]
    · have := hp j i hj hi hij; rw [e1, e2] at this; simp at this
/-- What the cells tell. -/
theorem told_rel {c : Cf} {l : List R} {cs : List Q4} (h : RowsT c l) (hR : RelT c l cs) : toldT cs cs.length = l := by
  refine up_ext (told_up cs _) h.up fun x => ?_
  rw [told_mem]
  constructor
  · rintro ⟨h1, h2⟩
    have h1' := h1
    rw [hR.1] at h1'
    unfold rowOfT at h2
    split at h2
    · rename_i q hq
      split at h2
      · rename_i hc
        rw [hR.2.1 _ hc.1 h1'] at hq
        injection hq with hq
        injection h2 with h2
        rw [← hq] at h2 hc
        simp only at h2 hc
        unfold wordT at h2 hc
        cases hg : Tb.get l x.1 with
        | none => rw [hg] at hc; simp at hc
        | some v =>
          rw [hg] at h2
          have hm := get_some hg
          have e : x = (x.1, v) := by rw [← h2]; simp
          rw [e]; exact hm
      · cases h2
    · cases h2
  · intro hx
    obtain ⟨g1, g2, g3⟩ := h.row x hx
    refine ⟨by rw [hR.1]; exact g2, ?_⟩
    unfold rowOfT
    rw [hR.2.1 _ g1 g2]
    unfold wordT
    rw [get_mem h.up hx]
    simp [g1]
/-- Noughts are the cells of no rows. -/
theorem rel_none (c : Cf) : RelT c [] (List.replicate (2 ^ (c.bits.toNat + 1)) (0, 0, 0, 0)) :=
  ⟨List.length_replicate, fun i _ h2 => by rw [List.getElem?_replicate, if_pos h2]; rfl, by rw [List.getElem?_replicate, if_pos (Nat.two_pow_pos _)]⟩
/-- Cells that are those of rows are cells. -/
theorem rel_wf {c : Cf} {l : List R} {cs : List Q4} (h : RowsT c l) (hR : RelT c l cs) : ∀ q ∈ cs, QWf q := fun q hq => by
  obtain ⟨i, hi, e⟩ := List.getElem_of_mem hq
  have h1 : cs[i]? = some q := by rw [List.getElem?_eq_getElem hi, e]
  by_cases hz : i = 0
  · subst hz
    rw [hR.2.2] at h1
    injection h1 with h1
    rw [← h1]
    unfold QWf
    decide
  · rw [hR.2.1 i (by omega) (by rw [← hR.1]; exact hi)] at h1
    injection h1 with h1
    rw [← h1]
    have hc := h.cnt i
    have hw := h.word i
    refine ⟨by simp, ?_, ?_, by simp⟩
    · simp only; omega
    · simp only; omega
end Go.Proofs.YtjhgccfnihbokaaDoor

namespace Go.Proofs.YtjhgccfnihbokaaDoor
open Go.RowKit Go.Lib Pt Opn Tb

theorem up_end {n k u j : Nat} (hn : 1 ≤ n) (hk : k < 128) (hu : u = k / 2 ^ j) (hle : u ≤ n) (h : ∀ e, e < j → n < k / 2 ^ e) : (u = n ↔ underB n k = true) := by
  constructor
  · intro e
    refine under_of (j := j) ?_ (by rw [← hu, e])
    rcases Nat.lt_or_ge j 8 with g | g
    · exact g
    · have := h 7 (by omega)
      omega
  · intro e
    unfold underB at e
    obtain ⟨j', _, e⟩ := List.any_eq_true.1 e
    have e : k / 2 ^ j' = n := by simpa using e
    rcases Nat.lt_or_ge j' j with g | g
    · have := h j' g; omega
    · have h1 : k / 2 ^ j' ≤ k / 2 ^ j := Nat.div_le_div_left (Nat.pow_le_pow_right (by decide) g) (Nat.two_pow_pos j)
      omega
/-- How many of the first cells count for a node. -/
theorem cnt_told (cs : List Q4) (n k : Nat) : cntB (toldT cs (k + 1)) n = cntB (toldT cs k) n + (if (rowOfT cs k).isSome then oneB n k else 0) := by
  rw [toldT, cnt_app]
  cases e : rowOfT cs k with
  | none => rfl
  | some y =>
    have hy : y.1 = k := by
      unfold rowOfT at e
      split at e
      · split at e
        · injection e with e; rw [← e]
        · cases e
      · cases e
    show _ + cntB [y] n = _ + oneB n k
    rw [← hy, ← cnt_single y.1 y.2 n]

set_option maxRecDepth 100000 in
set_option maxHeartbeats 8000000 in
theorem counted_any {c : Cf} {l : List R} {cs : List Q4} (hT : RowsT c l) (hR : RelT c l cs) (A : Option Addr) (d : Nat) (w : World) (h : IsL w A 4 q4L cs) :
    Calls Tryd.prog 23 #[.slice A cs.length d] w (Ret (.bool true) w) := by
  have hlen : cs.length ≤ 128 := by
    rw [hR.1]
    have := hT.bits
    exact Nat.pow_le_pow_right (n := 2) (by decide) (show c.bits.toNat + 1 ≤ 7 by omega)
  have htold := told_rel hT hR
  obtain ⟨N, hN⟩ : ∃ N, cs.length = N := ⟨_, rfl⟩
  have HC := Lib.hid (fun n (h1 : 1 ≤ n) (h2 : n < N) => show ∃ b off, A = some ⟨b, off, none⟩ ∧ w.cell? ⟨b, off + n * 4 + 1, none⟩ = some (.int .u64 (wordT l n : Nat)) ∧ w.cell? ⟨b, off + n * 4 + 2, none⟩ = some (.int .u64 (cntB l n : Nat)) ∧ w.cell? ⟨b, off + n * 4 + 3, none⟩ = some (.int .u64 0) from by
    obtain ⟨b, off, e, hel⟩ := h n _ (hR.2.1 n h1 (by rw [← hR.1, hN]; exact h2))
    exact ⟨b, off, e, hel 1 _ rfl, hel 2 _ rfl, hel 3 _ rfl⟩)
  have HRO := Lib.hid (fun n (h1 : 1 ≤ n) (h2 : n < N) => show (rowOfT cs n).isSome = decide (wordT l n ≠ 0) from by
    unfold rowOfT
    rw [hR.2.1 n h1 (by rw [← hR.1, hN]; exact h2)]
    by_cases e : wordT l n = 0
    · simp [e]
    · simp [e, h1])
  have HEND := Lib.hid (show ∀ n, cntB (toldT cs N) n = cntB l n from fun n => by rw [← hN, htold])
  have HLE := Lib.hid (show ∀ n k, cntB (toldT cs k) n ≤ k from fun n k => by
    refine Nat.le_trans (List.length_filter_le _ _) ?_
    induction k with
    | zero => exact Nat.le_refl _
    | succ k ih =>
      rw [toldT, List.length_append]
      cases rowOfT cs k with
      | none => simpa using Nat.le_succ_of_le ih
      | some y => simpa using ih)
  rw [hN] at hlen ⊢
  have HW := Lib.hid (fun i => hT.word i)
  clear hT hR h hN htold
  go_enter Tryd.func23, Tryd.ntmps23
  go_wp2
  go_loopg [3] 128 (fun g nv wr => w = wr ∧ ∃ n : Nat, 1 ≤ n ∧ n ≤ 129 ∧ (n ≤ N ∨ n = 1) ∧ g = 129 - n ∧ nv = .int .i64 n)
  case atStart => exact ⟨rfl, 1, Nat.le_refl _, by omega, .inr rfl, rfl, rfl⟩
  case round =>
    obtain ⟨rfl, n, hn1, hn2, hn3, rfl, rfl⟩ := hrel
    by_cases hlt : n < N
    · obtain ⟨b, off, rfl, cA, cB, cC⟩ := HC.out n hn1 hlt
      have i1 : (0 : Int) ≤ (n : Int) := by omega
      have i2 : (n : Int) < (N : Int) := by omega
      go_wp2
      go_loopg [4, 5] 128 (fun g mv kv wi => w = wi ∧ ∃ k m : Nat, 1 ≤ k ∧ k ≤ 129 ∧ k ≤ N ∧ g = 129 - k ∧ mv = .int .u64 m ∧ kv = .int .i64 k ∧ m ≤ k ∧ Hid (m = cntB (toldT cs k) n))
      case atStart => exact ⟨rfl, 1, 0, Nat.le_refl _, by omega, by omega, rfl, rfl, rfl, by omega, Lib.hid (by simp [toldT, rowOfT, cntB]; cases cs[0]? <;> simp)⟩
      case round =>
        obtain ⟨rfl, k, m, hk1, hk2, hk3, rfl, rfl, rfl, hmk, HM⟩ := hrel
        have j1 : (0 : Int) ≤ (k : Int) := by omega
        by_cases hkl : k < N
        · obtain ⟨b', off', e', kA, -, -⟩ := HC.out k hk1 hkl
          injection e' with e'
          injection e' with e1 e2 _
          subst e1 e2
          have j2 : (k : Int) < (N : Int) := by omega
          go_wp2
          go_loopg [6] 200 (fun g uv wj => w = wj ∧ ∃ u j : Nat, u ≤ 128 ∧ (g = 200 - j ∧ j ≤ 190) ∧ uv = .int .i64 u ∧ Hid (u = k / 2 ^ j ∧ ∀ e, e < j → n < k / 2 ^ e))
          case atStart => exact ⟨rfl, k, 0, by omega, ⟨rfl, by omega⟩, rfl, Lib.hid ⟨by simp, fun e he => by omega⟩⟩
          case round =>
            obtain ⟨rfl, u, j, hu, ⟨rfl, hj⟩, rfl, HU⟩ := hrel
            by_cases hun : n < u
            · have u1 : (n : Int) < (u : Int) := by omega
              obtain ⟨v, hv⟩ : ∃ v, u / 2 = v := ⟨_, rfl⟩
              have u2 : (u : Int).tdiv 2 = (v : Int) := by rw [Int.tdiv_eq_ediv_of_nonneg (by omega)]; omega
              have u3 : (u : Int) / 2 = (v : Int) := by omega
              have hj6 : j < 7 := by
                rcases Nat.lt_or_ge j 7 with g | g
                · exact g
                · exfalso
                  have h1 := HU.out.1
                  have h2 : 2 ^ 7 ≤ 2 ^ j := Nat.pow_le_pow_right (by decide) g
                  have h3 : k / 2 ^ j = 0 := Nat.div_eq_of_lt (by omega)
                  omega
              have HV := Lib.hid (show v = k / 2 ^ (j + 1) ∧ ∀ e, e < j + 1 → n < k / 2 ^ e from by
                refine ⟨by rw [← hv, HU.out.1, Nat.pow_succ, Nat.div_div_eq_div_mul], fun e he => ?_⟩
                by_cases h : e = j
                · rw [h, ← HU.out.1]; exact hun
                · exact HU.out.2 e (by omega))
              have hv128 : v ≤ 128 := by omega
              clear hv
              go_wp2
              go_roundg (200 - (j + 1))
              case measure => omega
              case rel => exact ⟨rfl, v, j + 1, hv128, ⟨rfl, by omega⟩, rfl, HV⟩
            · have u1 : ¬ (n : Int) < (u : Int) := by omega
              have hue := up_end hn1 (by omega) HU.out.1 (by omega) HU.out.2
              have hro := HRO.out k hk1 hkl
              have hct := cnt_told cs n k
              rw [hro] at hct
              unfold oneB at hct
              obtain ⟨x, hx⟩ : ∃ x, wordT l k = x := ⟨_, rfl⟩
              rw [hx] at kA hct
              have hm0 := HM.out
              rw [← hm0] at hct
              have HCT := Lib.hid (And.intro hue hct)
              clear hue hro hct hm0 hx
              by_cases hu2 : u = n
              · subst hu2
                by_cases hx0 : x = 0
                · subst hx0
                  have HM2 := Lib.hid (show m = cntB (toldT cs (k + 1)) u by rw [HCT.out.2]; simp)
                  clear HCT HM HU
                  go_wp2
                  go_roundg (129 - (k + 1))
                  case measure => omega
                  case rel => exact ⟨rfl, k + 1, m, by omega, by omega, by omega, rfl, rfl, by go_num, by omega, HM2⟩
                · have x1 : ((x : Int) != 0) = true := by simp; omega
                  have HM2 := Lib.hid (show m + 1 = cntB (toldT cs (k + 1)) u by rw [HCT.out.2, HCT.out.1.1 rfl]; simp [hx0])
                  clear HCT HM HU
                  go_wp2
                  go_roundg (129 - (k + 1))
                  case measure => omega
                  case rel => exact ⟨rfl, k + 1, m + 1, by omega, by omega, by omega, rfl, by go_num, by go_num, by omega, HM2⟩
              · have u4 : ((u : Int) == (n : Int)) = false := by simp; omega
                have HM2 := Lib.hid (show m = cntB (toldT cs (k + 1)) n by
                  rw [HCT.out.2]
                  have : underB n k = false := by
                    cases e : underB n k with
                    | false => rfl
                    | true => exact absurd (HCT.out.1.2 e) hu2
                  simp [this])
                clear HCT HM HU
                go_wp2
                go_roundg (129 - (k + 1))
                case measure => omega
                case rel => exact ⟨rfl, k + 1, m, by omega, by omega, by omega, rfl, rfl, by go_num, by omega, HM2⟩
        · obtain rfl : k = N := by omega
          have hm := HM.out
          rw [HEND.out] at hm
          rw [← hm] at cB
          go_wp2
          go_roundg (129 - (n + 1))
          case measure => omega
          case rel => exact ⟨rfl, n + 1, by omega, by omega, by omega, rfl, by go_num⟩
    · go_wp2
      go_ret
      exact Ret.mk rfl (Below.refl _ _)
end Go.Proofs.YtjhgccfnihbokaaDoor

namespace Go.Proofs.YtjhgccfnihbokaaDoor
open Go.RowKit Go.Lib Pt Opn Tb

theorem told_len (cs : List Q4) : ∀ n, (toldT cs n).length ≤ n
  | 0 => Nat.le_refl _
  | n + 1 => by
    have := told_len cs n
    rw [toldT, List.length_append]
    cases rowOfT cs n with
    | none => simpa using Nat.le_succ_of_le this
    | some y => simpa using this

set_option maxRecDepth 100000 in
set_option maxHeartbeats 8000000 in
theorem trtell_any (cs : List Q4) (hl : cs.length ≤ 1000) (hq : ∀ x ∈ cs, QWf x) (A : Option Addr) (d : Nat) (w : World) (h : IsL w A 4 q4L cs) :
    Calls Tryd.prog 22 #[.slice A cs.length d] w (fun e X => ∃ u, e = .returned u ∧ MadeX X w.heap.size 88 2 rowL u (toldT cs cs.length) ∧ Below w.heap.size w X) := by
  obtain ⟨N, hN⟩ : ∃ N, cs.length = N := ⟨_, rfl⟩
  obtain ⟨P, hP⟩ : ∃ P : Ending → World → Prop, P = (fun e X => ∃ u, e = .returned u ∧ MadeX X w.heap.size 88 2 rowL u (toldT cs cs.length) ∧ Below w.heap.size w X) := ⟨_, rfl⟩
  rw [← hP]
  rw [hN] at hP hl ⊢
  have HP := Lib.hid hP
  have HI := Lib.hid (And.intro hN (And.intro hq h))
  obtain ⟨B, hB⟩ : ∃ B, w.heap.size = B := ⟨_, rfl⟩
  have HB := Lib.hid hB
  clear hP hN hq h
  go_enter Tryd.func22, Tryd.ntmps22
  go_wp2
  go_loopw [3, 4] (fun vv iv wr => ∃ j : Nat, 1 ≤ j ∧ (j ≤ N ∨ j = 1) ∧ iv = .int .i64 j ∧ Hid (MadeX wr B 88 2 rowL vv (toldT cs j)) ∧ Below B w wr) (fun _ iv _ => N + 1 - (RowKit.intOf iv).toNat)
  case atStart => exact ⟨1, Nat.le_refl _, .inr rfl, rfl, Lib.hid (by rw [show toldT cs 1 = [] by simp [toldT, rowOfT]; cases cs[0]? <;> simp]; exact MadeX.nil _ _ _ _ _), Below.refl _ _⟩
  case round =>
    obtain ⟨j, hj1, hj2, rfl, HV, hbr⟩ := hrel
    have i1 : (0 : Int) ≤ (j : Int) := by omega
    by_cases hlt : j < N
    · have i2 : (j : Int) < (N : Int) := by omega
      obtain ⟨⟨xt, xa, xb, xc⟩, hx⟩ : ∃ x, cs[j]? = some x := ⟨_, List.getElem?_eq_getElem (by rw [HI.out.1]; exact hlt)⟩
      obtain ⟨b, off, rfl, hel⟩ := HI.out.2.2 j _ hx
      have k1 := hel 1 _ rfl
      have hbl := World.block_lt_of_cell? _ _ k1
      simp only at hbl
      replace k1 := (hbr.cell (p := ⟨b, off + j * 4 + 1, none⟩) (by rw [← hB]; exact hbl)).trans k1
      have hxa : xa < 18446744073709551616 := (HI.out.2.1 _ (List.mem_of_getElem? hx)).2.1
      have HT := Lib.hid (show toldT cs (j + 1) = toldT cs j ++ (if xa = 0 then [] else [(j, xa - 1)]) from by
        rw [toldT]
        unfold rowOfT
        rw [hx]
        by_cases e : xa = 0
        · simp [e]
        · simp [e, hj1])
      have HLN := Lib.hid (told_len cs j)
      clear hel hx
      by_cases hx0 : xa = 0
      · subst hx0
        go_wp2
        go_roundw
        case rel => exact ⟨j + 1, by omega, by omega, by go_num, Lib.hid (by rw [HT.out, if_pos rfl, List.append_nil]; exact HV.out), hbr⟩
        case measure => simp [RowKit.intOf]; omega
      · have x1 : ((xa : Int) != 0) = true := by simp; omega
        obtain ⟨y, hy⟩ : ∃ y, xa - 1 = y := ⟨_, rfl⟩
        have e1 : IntKind.u64.wrap ((xa : Int) - 1) = (y : Int) := by rw [IntKind.wrap_u64]; omega
        have e2 : (xa : Int) - 1 = (y : Int) := by omega
        have e3 : IntKind.u64.wrap (j : Int) = (j : Int) := by rw [IntKind.wrap_u64]; omega
        rw [hy, if_neg hx0] at HT
        have hBs : B ≤ wr.heap.size := by rw [← hB]; exact hbr.size
        have hs : b < wr.heap.size := World.block_lt_of_cell? _ _ k1
        clear hy hx0
        go_wp2_with (at_builtin
                     refine wpList_pushX (w0 := w) rfl (.tmp 17) (.tmp 27) _ rfl Tryd.underlying57 row_info rfl (by decide) (by decide) (B := B) (l := toldT cs j) (j, y) rfl rfl (HV.out.alloc _) wr.heap.size 0 1 rfl (fun i u h => rowBoxed _ j y i u h) (row_one _) (by have := HLN.out; omega) (by rw [HB.out]; exact Nat.le_refl _) (hbr.alloc hBs _) ?_
                     intro va' W4 HV4 hbW4 Hg4 Ho4)
        go_roundw
        case rel => exact ⟨j + 1, by omega, by omega, by go_num, Lib.hid (by rw [HT.out]; exact HV4.out), hbW4⟩
        case measure => simp [RowKit.intOf]; omega
    · have hend : toldT cs j = toldT cs N := by
        by_cases e : j = N
        · rw [e]
        · obtain rfl : j = 1 := by omega
          obtain rfl : N = 0 := by omega
          obtain rfl : cs = [] := List.eq_nil_of_length_eq_zero HI.out.1
          rfl
      have HE := Lib.hid hend
      clear hend
      go_wp2
      rw [HP.out]
      exact ⟨_, rfl, by rw [← HE.out, hB]; exact HV.out, by rw [hB]; exact hbr⟩
end Go.Proofs.YtjhgccfnihbokaaDoor

namespace Go.Proofs.YtjhgccfnihbokaaDoor
open Pt Opn Tb

theorem rows_of {c : Cf} {l : List R} (h : IsTab c l) : RowsT c l := by
  obtain ⟨h1, h2, h3, h4, h5⟩ := h
  refine ⟨h1, h2, by omega, h4, fun x hx => ?_⟩
  obtain ⟨g1, g2, g3⟩ := h5 x hx
  rw [sz_one h2] at g2
  exact ⟨g1, g2, g3⟩
theorem start_may {c : Cf} {o : O} (hobj : c.obj = 1) (h : chk c o = 0) : TMay c (startF o) := by
  have ho : frO (startF o) = o := by
    obtain ⟨k, a, b, z⟩ := o
    unfold frO startF
    simp only
    rcases fits_one hobj h with ⟨h1, _⟩ | ⟨h1, _, _, h2⟩ | ⟨h1, _, _, h2⟩
    · simp only at h1; rw [if_pos h1]
    · simp only at h1 h2; rw [if_neg (by omega), h2]
    · simp only at h1 h2; rw [if_neg (by omega), h2]
  refine ⟨by rw [ho]; exact h, ?_, Nat.zero_le _⟩
  unfold ThereT startF
  simp
theorem means_any {c : Cf} {l : List R} {cs : List Q4} {o : O} (hT : IsTab c l) (hR : RelT c l cs) (hb : chk c o = 0) :
    ∃ cs' ps v, goT c 40 cs (startF o) [] = (cs', ((doR c l o).2.1, v), ps, true) ∧ (doR c l o).2.2 = ((v : Nat) : Int) ∧ RelT c (doR c l o).1 cs' := by
  have h := rows_of hT
  have hm := start_may hT.2.1 hb
  have hv : ∀ {k v : Nat}, Tb.get l k = some v → (v + 1) % 4294967296 = v + 1 := fun {k v} hg => by
    have := (h.row _ (get_some hg)).2.2
    simp only at this
    omega
  rw [doR_done hT hb]
  rcases fits_one hT.2.1 hb with ⟨hk, g1, g2, g3⟩ | ⟨hk, g1, g2, g3⟩ | ⟨hk, g1, _⟩
  · rw [done_ins hk, Nat.add_comm (2 ^ o.b) o.a]
    unfold insR
    cases hg : Tb.get l (o.a + 2 ^ o.b) with
    | some u =>
      obtain ⟨cs', ps, e1, e2⟩ := means_over h hR hm hk hg
      exact ⟨cs', ps, u + 1, e1, by simp only; rw [hv hg], e2⟩
    | none =>
      rcases means_ins h hR hm hk hg with ⟨hc, ps, e1⟩ | ⟨hc, cs', ps, e1, e2⟩
      · simp only
        rw [if_pos hc]
        exact ⟨cs, ps, 0, e1, rfl, hR⟩
      · simp only
        rw [if_neg hc]
        exact ⟨cs', ps, 0, e1, rfl, e2⟩
  · rw [done_rem hk, Nat.add_comm (2 ^ o.b) o.a]
    unfold remR
    cases hg : Tb.get l (o.a + 2 ^ o.b) with
    | some u =>
      obtain ⟨cs', ps, e1, e2⟩ := means_rem h hR hm hk hg
      exact ⟨cs', ps, u + 1, e1, by simp only; rw [hv hg], e2⟩
    | none =>
      obtain ⟨ps, e1⟩ := means_none h hR hm hk hg
      exact ⟨cs, ps, 0, e1, rfl, hR⟩
  · rw [done_look hk]
    obtain ⟨ps, e1⟩ := means_look h hR hm hk
    refine ⟨cs, ps, (match seek l c.bits.toNat o.a c.bits.toNat with | some v => v + 1 | none => 0), ?_, ?_, hR⟩
    · rw [e1]
      unfold lookC
      cases seek l c.bits.toNat o.a c.bits.toNat <;> rfl
    · unfold lookV
      cases hs : seek l c.bits.toNat o.a c.bits.toNat with
      | none => rfl
      | some v =>
        have hv2 : ∀ m, seek l c.bits.toNat o.a m = some v → ∃ k, Tb.get l k = some v := by
          intro m
          induction m with
          | zero => intro h; exact ⟨_, h⟩
          | succ m ih =>
            intro h
            unfold seek at h
            split at h
            · rename_i u hu
              injection h with h
              exact ⟨_, by rw [hu, h]⟩
            · exact ih h
        obtain ⟨k, hk2⟩ := hv2 _ hs
        simp only
        rw [hv hk2]
end Go.Proofs.YtjhgccfnihbokaaDoor

namespace Go.Proofs.YtjhgccfnihbokaaDoor
open Go.RowKit Go.Lib Pt Opn Tb

/-- Behind the model's own step: the rows, and the result in block g. -/
def LfR (W X : World) (u : Value) (rows : List R) (g : Nat) (x y : Int) : Prop := IsRV X u rows ∧ Below W.heap.size W X ∧ X.cell? ⟨g, 0, none⟩ = some (.int .i64 x) ∧ X.cell? ⟨g, 1, none⟩ = some (.int .u32 y) ∧ X.cell? ⟨g, 2, none⟩ = some (.slice none 0 0)
theorem three_t {W w4 : World} {a b c : Value} {t : TypeId} (h4 : Below (W.alloc (.cells #[a, b, c] t)).drew.heap.size (W.alloc (.cells #[a, b, c] t)).drew w4) : Three w4 W.heap.size a b c :=
  res_cells ((h4.block _ (by simp)).trans (heap_alloc_new W _))
theorem lfr_first {W w4 : World} {u : Value} {rows : List R} (x y : Int) {t : TypeId} (hm : IsRV w4 u rows) (hb : Below (W.alloc (.cells #[.int .i64 0, .int .u32 0, .slice none 0 0] t)).drew.heap.size (W.alloc (.cells #[.int .i64 0, .int .u32 0, .slice none 0 0] t)).drew w4) :
    LfR W (((w4.setCell ⟨W.heap.size, 0, none⟩ (.int .i64 x)).setCell ⟨W.heap.size, 1, none⟩ (.int .u32 y)).setCell ⟨W.heap.size, 2, none⟩ (.slice none 0 0)) u rows W.heap.size x y := by
  have hT := three_t hb
  obtain ⟨A, c, rfl, h1, h2, h3⟩ := hm
  obtain ⟨r0, -, r1, -, r2, -⟩ := hT
  refine ⟨⟨A, c, rfl, h1, h2, isr_set3 h3 (three_t hb) _ _ _⟩, below_set3 (below_then (below_then (below_one W _) (below_drew _)) hb) (Nat.le_refl _) _ _ _, ?_, ?_, ?_⟩ <;> simp [go_sem, r0, r1, r2]
theorem lfr_last {W w4 : World} {u : Value} {rows : List R} (x y : Int) (hm : IsRV w4 u rows) (hb : Below W.drew.heap.size W.drew w4) (t : TypeId) :
    LfR W (w4.alloc (.cells #[.int .i64 x, .int .u32 y, .slice none 0 0] t)) u rows w4.heap.size x y := by
  refine ⟨hm.below (below_one _ _), below_then (below_then (below_drew _) hb) (below_one _ _), ?_, ?_, ?_⟩ <;> simp [go_sem]

theorem far_any {X : World} {A : Option Addr} {rb : Nat} {x y z : Value} {t : TypeId} {cs : List Q4} (hrb : X.heap[rb]? = some (.cells #[x, y, z] t (0, 0))) (hx : ∀ n, x ≠ .int .u64 n) (hy : ∀ n, y ≠ .int .u64 n) (hz : ∀ n, z ≠ .int .u64 n) (hI : IsL X A 4 q4L cs) (hc : 0 < cs.length) : ∀ b o, A = some ⟨b, o, none⟩ → b ≠ rb := fun b o e e2 => by
  subst e2
  obtain ⟨q, hq⟩ : ∃ q, cs[0]? = some q := ⟨_, List.getElem?_eq_getElem hc⟩
  obtain ⟨b', off, e3, h⟩ := hI 0 q hq
  rw [e] at e3
  injection e3 with e3
  injection e3 with e3 e4 _
  subst e3 e4
  have h0 := h 0 (.int .u64 (q.1 : Nat)) rfl
  unfold World.cell? at h0
  rw [hrb] at h0
  simp only [Nat.zero_mul, Nat.add_zero] at h0
  have hlt := (Array.getElem?_eq_some_iff.1 h0).1
  simp at hlt
  rcases (show o = 0 ∨ o = 1 ∨ o = 2 by omega) with rfl | rfl | rfl
  · exact hx _ (by simpa using h0)
  · exact hy _ (by simpa using h0)
  · exact hz _ (by simpa using h0)
/-- Behind an operation that is done alone: the cells, and the result in block g. -/
def LfC (W X : World) (A : Option Addr) (cs : List Q4) (g : Nat) (x : Int) (v : Nat) : Prop := IsL X A 4 q4L cs ∧ Below W.heap.size W X ∧ X.cell? ⟨g, 0, none⟩ = some (.int .i64 x) ∧ X.cell? ⟨g, 1, none⟩ = some (.int .u32 (v : Nat)) ∧ X.cell? ⟨g, 2, none⟩ = some (.slice none 0 0)
theorem lfc_first {W w4 : World} {A : Option Addr} {cs : List Q4} (x : Int) (v : Nat) {t : TypeId} (hm : IsL w4 A 4 q4L cs) (hc : 0 < cs.length) (hb : Below (W.alloc (.cells #[.int .i64 0, .int .u32 0, .slice none 0 0] t)).drew.heap.size (W.alloc (.cells #[.int .i64 0, .int .u32 0, .slice none 0 0] t)).drew w4) :
    LfC W (((w4.setCell ⟨W.heap.size, 0, none⟩ (.int .i64 x)).setCell ⟨W.heap.size, 1, none⟩ (.int .u32 (v : Nat))).setCell ⟨W.heap.size, 2, none⟩ (.slice none 0 0)) A cs W.heap.size x v := by
  have hT := three_t hb
  have hrb := (hb.block W.heap.size (by simp)).trans (heap_alloc_new W _)
  have hf := far_any hrb (fun n e => by cases e) (fun n e => by cases e) (fun n e => by cases e) hm hc
  obtain ⟨r0, -, r1, -, r2, -⟩ := hT
  refine ⟨isl_set (isl_set (isl_set hm (fun _ => hf) _ _) (fun _ => hf) _ _) (fun _ => hf) _ _, below_set3 (below_then (below_then (below_one W _) (below_drew _)) hb) (Nat.le_refl _) _ _ _, ?_, ?_, ?_⟩ <;> simp [go_sem, r0, r1, r2]
theorem lfc_last {W w4 : World} {A : Option Addr} {cs : List Q4} (x : Int) (v : Nat) (hm : IsL w4 A 4 q4L cs) (hb : Below W.drew.heap.size W.drew w4) (t : TypeId) :
    LfC W (w4.alloc (.cells #[.int .i64 x, .int .u32 (v : Nat), .slice none 0 0] t)) A cs w4.heap.size x v := by
  refine ⟨hm.below (below_one _ _), below_then (below_then (below_drew _) hb) (below_one _ _), ?_, ?_, ?_⟩ <;> simp [go_sem]
/-- An operation that is let go: its code. -/
theorem doR_code {c : Cf} {l l' : List R} {o : O} {x y : Int} (h : IsTab c l) (hs : doR c l o = (l', x, y)) (h1 : x ≠ 50) (h2 : x ≠ 10) : chk c o = 0 := by
  by_cases hb : chk c o = 0
  · exact hb
  · exfalso
    unfold doR at hs
    rw [if_neg (not_not_intro ⟨h.1, h.2.1⟩), if_neg (not_not_intro h), if_pos hb] at hs
    simp only [Prod.mk.injEq] at hs
    obtain ⟨-, rfl, -⟩ := hs
    unfold chk at h1 h2 hb
    rw [if_neg (by rw [show okB c = true from decide_eq_true h.1]; simp)] at h1 h2 hb
    (repeat' split at h1) <;> simp_all
end Go.Proofs.YtjhgccfnihbokaaDoor
