/- A program of a set of access rules that is done alone, on a list of cells: what it leaves and answers is what the model says: plain lists. Cells of a set of access rules and the model's rows: what is answered, and the rows behind: plain lists. -/
import Derived.Test.YtljhcegkekdjgaaDoorGMath
import Derived.Test.YtljhcegkekdjgaaDoorGTr
import Derived.Test.YtljhcegkekdjgaaDoorGRu
namespace Go.Proofs.YtljhcegkekdjgaaDoor
open Pt Opn Tb

/-- An operation goes on, so many acts at most: the cells, the code and the value, how many it read and wrote, whether it is done. -/
def goG (c : Cf) : Nat → List Q4 → Ds → Nat × Nat → List Q4 × (Int × Nat) × (Nat × Nat) × Bool
  | 0, cs, _, t => (cs, (0, 0), t, false)
  | n + 1, cs, f, t =>
    if (nextG c f).2 ≠ 0 then (cs, (0, 0), t, false)
    else if (nextG c f).1.kind = 4 then (cs, ((nextG c f).1.code, (nextG c f).1.v), t, true)
    else if (nextG c f).1.pl < cs.length then
      (let ds := if (nextG c f).1.kind = 2 then cs.set (nextG c f).1.pl (0, (nextG c f).1.a, (nextG c f).1.b, (nextG c f).1.c) else cs
       let t' := if (nextG c f).1.kind = 2 then (t.1, t.2 + 1) else (t.1 + 1, t.2)
       let x := ds[(nextG c f).1.pl]?.getD (0, 0, 0, 0)
       if (afterG c f x.2.1 x.2.2.1 x.2.2.2).2 ≠ 0 then (ds, (0, 0), t', false) else goG c n ds (afterG c f x.2.1 x.2.2.1 x.2.2.2).1 t')
    else (cs, (0, 0), t, false)

theorem nextG_of {c : Cf} {f : Ds} (hc : Ok c) (ho : c.obj = 3) (hm : GMay c f) : nextG c f = (actG f, 0) := by unfold nextG; rw [if_neg (fun h => h ⟨hc, ho⟩), if_neg (fun h => h hm)]
theorem afterG_of {c : Cf} {f : Ds} (hc : Ok c) (ho : c.obj = 3) (hm : GMay c f) (A B C : Nat) : afterG c f A B C = (behindG c f A B C, 0) := by unfold afterG; rw [if_neg (fun h => h ⟨hc, ho⟩), if_neg (fun h => h hm)]
/-- One act that reads. -/
theorem goG_read {c : Cf} {n : Nat} {cs : List Q4} {f : Ds} {t : Nat × Nat} {x : Q4} (hc : Ok c) (ho : c.obj = 3) (hm : GMay c f) (hp : f.pc = 0) (hx : cs[f.i]? = some x) :
    goG c (n + 1) cs f t = goG c n cs (behindG c f x.2.1 x.2.2.1 x.2.2.2) (t.1 + 1, t.2) := by
  have hs : actG f = ⟨1, f.i, 0, 0, 0, 0, 0⟩ := by unfold actG; rw [if_pos hp]
  have hl := (List.getElem?_eq_some_iff.1 hx).1
  conv => lhs; unfold goG
  simp only [nextG_of hc ho hm, hs, afterG_of hc ho hm]
  simp only [ne_eq, not_true_eq_false, if_false, Nat.reduceEqDiff, hl, if_true, hx, Option.getD_some]
/-- One act that writes. -/
theorem goG_write {c : Cf} {n : Nat} {cs : List Q4} {f : Ds} {t : Nat × Nat} (hc : Ok c) (ho : c.obj = 3) (hm : GMay c f) (hp : f.pc = 2) (hl : f.j < cs.length) :
    goG c (n + 1) cs f t = goG c n (cs.set f.j (if f.kind = 9 then (0, f.y, f.a, f.b) else (0, 0, 0, 0))) { f with pc := 20 } (t.1, t.2 + 1) := by
  have hs : actG f = if f.kind = 9 then ⟨2, f.j, f.y, f.a, f.b, 0, 0⟩ else ⟨2, f.j, 0, 0, 0, 0, 0⟩ := by unfold actG; rw [if_neg (by omega), if_pos hp]
  conv => lhs; unfold goG
  simp only [nextG_of hc ho hm, hs, afterG_of hc ho hm, bhG_2 hp]
  by_cases hk : f.kind = 9
  · simp [hk, hl]
  · simp [hk, hl]
/-- It is done. -/
theorem goG_done {c : Cf} {n : Nat} {cs : List Q4} {f : Ds} {t : Nat × Nat} (hc : Ok c) (ho : c.obj = 3) (hm : GMay c f) (hk : (actG f).kind = 4) : goG c (n + 1) cs f t = (cs, ((actG f).code, (actG f).v), t, true) := by
  unfold goG
  simp only [nextG_of hc ho hm]
  rw [if_neg (by simp), if_pos hk]

/-! Searching: the room that was found ahead of a cell. -/
def roomAt (k : Nat) (cs : List Q4) : Nat → Nat × Nat
  | 0 => (0, 0)
  | i + 1 => if k = 9 ∧ (cs[i]?.getD (0, 0, 0, 0)).2.1 = 0 ∧ (roomAt k cs i).2 = 0 then (i, 1) else roomAt k cs i
theorem roomAt_le (k : Nat) (cs : List Q4) : ∀ i, (roomAt k cs i).2 ≤ 1 ∧ ((roomAt k cs i).1 < i ∨ (roomAt k cs i).1 = 0) ∧
    ((roomAt k cs i).2 = 1 → (roomAt k cs i).1 < i ∧ (cs[(roomAt k cs i).1]?.getD (0, 0, 0, 0)).2.1 = 0) ∧ ((roomAt k cs i).2 = 0 → k = 9 → ∀ j, j < i → (cs[j]?.getD (0, 0, 0, 0)).2.1 ≠ 0)
  | 0 => by unfold roomAt; exact ⟨by omega, .inr rfl, (fun h => by cases h), fun _ _ j hj => by omega⟩
  | i + 1 => by
    obtain ⟨h1, h2, h3, h4⟩ := roomAt_le k cs i
    unfold roomAt
    split
    · rename_i h
      exact ⟨Nat.le_refl _, .inl (Nat.lt_succ_self i), (fun _ => ⟨Nat.lt_succ_self i, h.2.1⟩), (fun e => by cases e)⟩
    · rename_i h
      refine ⟨h1, by omega, fun e => ⟨by have := (h3 e).1; omega, (h3 e).2⟩, fun e hk j hj => ?_⟩
      by_cases ej : j = i
      · subst ej; exact fun e2 => h ⟨hk, e2, e⟩
      · exact h4 e hk j (by omega)
/-- The frame that is about to read a cell. -/
def frAtG (o : O) (cs : List Q4) (i : Nat) : Ds := ⟨0, 0, 0, o.k, o.a, o.b, 0, i, (roomAt o.k cs i).1, 0, 0, (roomAt o.k cs i).2, 0, o.c⟩
/-- Has a cell the rule of an operation? -/
def ruleO (o : O) (q : Q4) : Prop := q.2.1 ≠ 0 ∧ q.2.2.1 = o.a ∧ q.2.2.2 = o.b
theorem frAt_zero (o : O) (cs : List Q4) : frAtG o cs 0 = startF o := rfl
theorem frAt_may {c : Cf} {o : O} (ho : c.obj = 3) (hb : chk c o = 0) (hk : o.k ≠ 11) (cs : List Q4) (i : Nat) (hi : (i : Int) < c.cap) : GMay c (frAtG o cs i) := by
  obtain ⟨r1, r2, r3, _⟩ := roomAt_le o.k cs i
  have e : frG (frAtG o cs i) = o := by
    unfold frG frAtG
    rcases fits_three ho hb with ⟨g, _⟩ | ⟨g, _, _, g4⟩ | ⟨g, _⟩
    · cases o; simp only at g; subst g; rfl
    · cases o; simp only at g g4; subst g g4; rfl
    · exact absurd g hk
  exact ⟨by rw [e]; exact hb, .inl rfl, ⟨hi, by show ((roomAt o.k cs i).1 : Int) < c.cap; omega, r1⟩⟩
/-- It goes on to a cell where none ahead has the rule. -/
theorem seek_to {c : Cf} {o : O} (hc : Ok c) (ho : c.obj = 3) (hb : chk c o = 0) (hk : o.k ≠ 11) {cs : List Q4} (hl : (cs.length : Int) = c.cap) :
    ∀ (m n : Nat), (m : Int) < c.cap → (∀ j q, j < m → cs[j]? = some q → ¬ ruleO o q) → goG c (m + n) cs (startF o) (0, 0) = goG c n cs (frAtG o cs m) (m, 0)
  | 0, n, _, _ => by rw [Nat.zero_add]; rfl
  | m + 1, n, hm, hr => by
    have h := seek_to hc ho hb hk hl m (n + 1) (by omega) fun j q hj hq => hr j q (by omega) hq
    rw [show m + 1 + n = m + (n + 1) by omega, h]
    obtain ⟨q, hq⟩ : ∃ q, cs[m]? = some q := ⟨_, List.getElem?_eq_getElem (by omega)⟩
    have hmay := frAt_may ho hb hk cs m (by omega)
    rw [goG_read (x := q) hc ho hmay rfl hq, bhG_not rfl hk (show ¬ hasG (frAtG o cs m) q.2.1 q.2.2.1 q.2.2.2 from hr m q (by omega) hq)]
    congr 1
    unfold overG roomG frAtG
    simp only [roomAt, hq, Option.getD_some]
    by_cases e : o.k = 9 ∧ q.2.1 = 0 ∧ (roomAt o.k cs m).2 = 0
    · rw [if_pos e, if_pos e]
      simp only
      rw [if_pos (by omega)]
    · rw [if_neg e, if_neg e]
      simp only
      rw [if_pos (by omega)]
/-- The rule is found. -/
theorem seek_found {c : Cf} {o : O} (hc : Ok c) (ho : c.obj = 3) (hb : chk c o = 0) (hk : o.k ≠ 11) {cs : List Q4} (hl : (cs.length : Int) = c.cap) {m : Nat} {q : Q4} (hq : cs[m]? = some q) (hr : ruleO o q)
    (hn : ∀ j q, j < m → cs[j]? = some q → ¬ ruleO o q) (n : Nat) :
    goG c (m + (n + 3)) cs (startF o) (0, 0) = (cs.set m (if o.k = 9 then (0, o.c, o.a, o.b) else (0, 0, 0, 0)), (0, q.2.1 % 4294967296), (m + 1, 1), true) := by
  have hm := (List.getElem?_eq_some_iff.1 hq).1
  rw [seek_to hc ho hb hk hl m (n + 3) (by omega) hn]
  have hmay := frAt_may ho hb hk cs m (by omega)
  have hm1 := behindG_may ho hmay q.2.1 q.2.2.1 q.2.2.2
  rw [goG_read (x := q) hc ho hmay rfl hq]
  rw [bhG_has rfl hk (show hasG (frAtG o cs m) q.2.1 q.2.2.1 q.2.2.2 from hr)] at hm1 ⊢
  have hm2 := behindG_may ho hm1 0 0 0
  rw [bhG_2 rfl] at hm2
  rw [goG_write hc ho hm1 rfl hm, goG_done hc ho hm2 rfl]
  rfl
/-- It is not there. -/
theorem seek_none' {c : Cf} {o : O} (hc : Ok c) (ho : c.obj = 3) (hb : chk c o = 0) (hk : o.k ≠ 11) {cs : List Q4} (hl : (cs.length : Int) = c.cap) (hn : ∀ q ∈ cs, ¬ ruleO o q) (n : Nat) :
    goG c (cs.length + (n + 2)) cs (startF o) (0, 0) =
      if o.k = 10 then (cs, (6, 0), (cs.length, 0), true)
      else if (roomAt o.k cs cs.length).2 = 1 then (cs.set (roomAt o.k cs cs.length).1 (0, o.c, o.a, o.b), (0, 0), (cs.length, 1), true)
      else (cs, (9, 0), (cs.length, 0), true) := by
  have hcap : 1 ≤ c.cap := by have := hc.2.2; unfold RestOk at this; omega
  obtain ⟨m, hm⟩ : ∃ m, cs.length = m + 1 := ⟨cs.length - 1, by omega⟩
  have hn' : ∀ j q, j < m → cs[j]? = some q → ¬ ruleO o q := fun j q _ h => hn q (List.mem_of_getElem? h)
  have hkk : o.k = 9 ∨ o.k = 10 := by rcases fits_three ho hb with g | g | g <;> omega
  rw [hm, show m + 1 + (n + 2) = m + (n + 3) by omega, seek_to hc ho hb hk hl m (n + 3) (by omega) hn']
  obtain ⟨q, hq⟩ : ∃ q, cs[m]? = some q := ⟨_, List.getElem?_eq_getElem (by omega)⟩
  have hmay := frAt_may ho hb hk cs m (by omega)
  have hm1 := behindG_may ho hmay q.2.1 q.2.2.1 q.2.2.2
  rw [goG_read (x := q) hc ho hmay rfl hq]
  rw [bhG_not rfl hk (show ¬ hasG (frAtG o cs m) q.2.1 q.2.2.1 q.2.2.2 from hn q (List.mem_of_getElem? hq))] at hm1 ⊢
  have er : roomG (frAtG o cs m) q.2.1 = { frAtG o cs m with j := (roomAt o.k cs (m + 1)).1, h := (roomAt o.k cs (m + 1)).2 } := by
    unfold roomG frAtG
    simp only [roomAt, hq, Option.getD_some]
    by_cases e : o.k = 9 ∧ q.2.1 = 0 ∧ (roomAt o.k cs m).2 = 0
    · rw [if_pos e, if_pos e]
    · rw [if_neg e, if_neg e]
  rw [er] at hm1 ⊢
  obtain ⟨r1, r2, r3, _⟩ := roomAt_le o.k cs (m + 1)
  have eo : ¬ ((({ frAtG o cs m with j := (roomAt o.k cs (m + 1)).1, h := (roomAt o.k cs (m + 1)).2 } : Ds).i : Int) + 1 < c.cap) := by
    show ¬ ((m : Int) + 1 < c.cap)
    omega
  unfold overG at hm1 ⊢
  rw [if_neg eo] at hm1 ⊢
  rcases hkk with e9 | e10
  · have k10 : ¬ (({ frAtG o cs m with j := (roomAt o.k cs (m + 1)).1, h := (roomAt o.k cs (m + 1)).2 } : Ds).kind = 10) := by show ¬ o.k = 10; omega
    rw [if_neg k10] at hm1 ⊢
    rw [if_neg (show ¬ o.k = 10 by omega)]
    by_cases e1 : (roomAt o.k cs (m + 1)).2 = 1
    · have e1' : (({ frAtG o cs m with j := (roomAt o.k cs (m + 1)).1, h := (roomAt o.k cs (m + 1)).2 } : Ds).h = 1) := e1
      rw [if_pos e1'] at hm1 ⊢
      rw [if_pos e1]
      have hm2 := behindG_may ho hm1 0 0 0
      rw [bhG_2 rfl] at hm2
      have hjl : (roomAt o.k cs (m + 1)).1 < cs.length := by have := (r3 e1).1; omega
      rw [show n + 2 = n + 1 + 1 from rfl, goG_write hc ho hm1 rfl hjl, goG_done hc ho hm2 rfl]
      show (cs.set _ (if o.k = 9 then _ else _), _, _, _) = _
      rw [if_pos e9]
      rfl
    · have e1' : ¬ (({ frAtG o cs m with j := (roomAt o.k cs (m + 1)).1, h := (roomAt o.k cs (m + 1)).2 } : Ds).h = 1) := e1
      rw [if_neg e1'] at hm1 ⊢
      rw [if_neg e1]
      rw [show n + 2 = n + 1 + 1 from rfl, goG_done hc ho hm1 rfl]
      rfl
  · have k10 : (({ frAtG o cs m with j := (roomAt o.k cs (m + 1)).1, h := (roomAt o.k cs (m + 1)).2 } : Ds).kind = 10) := e10
    rw [if_pos k10] at hm1 ⊢
    rw [if_pos e10]
    rw [show n + 2 = n + 1 + 1 from rfl, goG_done hc ho hm1 rfl]
    rfl

/-! A check. -/
/-- Does a cell speak, of whom and what an operation names? -/
def spO (o : O) (q : Q4) : Prop := q.2.1 ≠ 0 ∧ (q.2.2.1 = 0 ∨ q.2.2.1 = o.a) ∧ (q.2.2.2 = 0 ∨ q.2.2.2 = o.b)
instance (o : O) (q : Q4) : Decidable (spO o q) := by unfold spO; infer_instance
/-- What was heard. -/
def heardG (o : O) (cs : List Q4) : Nat → Nat
  | 0 => 0
  | i + 1 => if spO o (cs[i]?.getD (0, 0, 0, 0)) then 1 else heardG o cs i
theorem heard_iff (o : O) (cs : List Q4) : ∀ i, i ≤ cs.length → heardG o cs i ≤ 1 ∧ (heardG o cs i = 1 ↔ ∃ j q, j < i ∧ cs[j]? = some q ∧ spO o q)
  | 0, _ => ⟨by unfold heardG; omega, by unfold heardG; constructor
                                         · intro h; cases h
                                         · rintro ⟨j, q, hj, _⟩; omega⟩
  | i + 1, hi => by
    obtain ⟨h1, h2⟩ := heard_iff o cs i (by omega)
    obtain ⟨q, hq⟩ : ∃ q, cs[i]? = some q := ⟨_, List.getElem?_eq_getElem (by omega)⟩
    unfold heardG
    rw [hq, Option.getD_some]
    by_cases e : spO o q
    · rw [if_pos e]
      exact ⟨Nat.le_refl _, fun _ => ⟨i, q, by omega, hq, e⟩, fun _ => rfl⟩
    · rw [if_neg e]
      refine ⟨h1, ?_⟩
      rw [h2]
      constructor
      · rintro ⟨j, p, hj, hp⟩
        exact ⟨j, p, by omega, hp⟩
      · rintro ⟨j, p, hj, hp, hs⟩
        by_cases ej : j = i
        · subst ej; rw [hq] at hp; injection hp with hp; subst hp; exact absurd hs e
        · exact ⟨j, p, by omega, hp, hs⟩
def frHear (o : O) (cs : List Q4) (i : Nat) : Ds := ⟨0, 0, 0, o.k, o.a, o.b, 0, i, 0, 0, 0, 0, heardG o cs i, o.c⟩
theorem frHear_may {c : Cf} {o : O} (hok : Ok c) (ho : c.obj = 3) (hb : chk c o = 0) (hk : o.k = 11) (cs : List Q4) (i : Nat) (hi : (i : Int) < c.cap) : GMay c (frHear o cs i) := by
  have hcap : 1 ≤ c.cap := by have := hok.2.2; unfold RestOk at this; omega
  have e : frG (frHear o cs i) = o := by
    unfold frG frHear
    rcases fits_three ho hb with ⟨g, _⟩ | ⟨g, _⟩ | ⟨_, _, _, _, _, g⟩
    · omega
    · omega
    · cases o; simp only at g hk; subst g hk; rfl
  exact ⟨by rw [e]; exact hb, .inl rfl, ⟨hi, by show ((0 : Nat) : Int) < c.cap; omega, Nat.zero_le _⟩⟩
theorem hear_to {c : Cf} {o : O} (hc : Ok c) (ho : c.obj = 3) (hb : chk c o = 0) (hk : o.k = 11) {cs : List Q4} (hl : (cs.length : Int) = c.cap) :
    ∀ (m n : Nat), (m : Int) < c.cap → (∀ j q, j < m → cs[j]? = some q → ¬ (spO o q ∧ q.2.1 = 2)) → goG c (m + n) cs (startF o) (0, 0) = goG c n cs (frHear o cs m) (m, 0)
  | 0, n, _, _ => by rw [Nat.zero_add]; rfl
  | m + 1, n, hm, hr => by
    have h := hear_to hc ho hb hk hl m (n + 1) (by omega) fun j q hj hq => hr j q (by omega) hq
    rw [show m + 1 + n = m + (n + 1) by omega, h]
    obtain ⟨q, hq⟩ : ∃ q, cs[m]? = some q := ⟨_, List.getElem?_eq_getElem (by omega)⟩
    have hmay := frHear_may hc ho hb hk cs m (by omega)
    rw [goG_read (x := q) hc ho hmay rfl hq, bhG_check rfl hk]
    congr 1
    have hne := hr m q (by omega) hq
    unfold checkedG
    by_cases e : spO o q
    · rw [if_pos (show spkG (frHear o cs m) q.2.1 q.2.2.1 q.2.2.2 from e), if_neg (fun g => hne ⟨e, g⟩)]
      unfold onG frHear
      simp only [heardG, hq, Option.getD_some]
      rw [if_pos e, if_neg (by omega)]
    · rw [if_neg (show ¬ spkG (frHear o cs m) q.2.1 q.2.2.1 q.2.2.2 from e)]
      unfold onG frHear
      simp only [heardG, hq, Option.getD_some]
      rw [if_neg e, if_neg (by omega)]
/-- The first that denies ends it. -/
theorem hear_deny {c : Cf} {o : O} (hc : Ok c) (ho : c.obj = 3) (hb : chk c o = 0) (hk : o.k = 11) {cs : List Q4} (hl : (cs.length : Int) = c.cap) {m : Nat} {q : Q4} (hq : cs[m]? = some q) (hs : spO o q) (h2 : q.2.1 = 2)
    (hn : ∀ j q, j < m → cs[j]? = some q → ¬ (spO o q ∧ q.2.1 = 2)) (n : Nat) : goG c (m + (n + 2)) cs (startF o) (0, 0) = (cs, (0, 2), (m + 1, 0), true) := by
  have hm := (List.getElem?_eq_some_iff.1 hq).1
  rw [hear_to hc ho hb hk hl m (n + 2) (by omega) hn]
  have hmay := frHear_may hc ho hb hk cs m (by omega)
  have hm1 := behindG_may ho hmay q.2.1 q.2.2.1 q.2.2.2
  rw [show n + 2 = n + 1 + 1 from rfl, goG_read (x := q) hc ho hmay rfl hq]
  have e : behindG c (frHear o cs m) q.2.1 q.2.2.1 q.2.2.2 = { frHear o cs m with x := 2, pc := 20 } := by
    rw [bhG_check rfl hk]
    unfold checkedG
    rw [if_pos (show spkG (frHear o cs m) q.2.1 q.2.2.1 q.2.2.2 from hs), if_pos h2]
  rw [e] at hm1 ⊢
  rw [goG_done hc ho hm1 rfl]
  rfl
/-- None denies. -/
theorem hear_none {c : Cf} {o : O} (hc : Ok c) (ho : c.obj = 3) (hb : chk c o = 0) (hk : o.k = 11) {cs : List Q4} (hl : (cs.length : Int) = c.cap) (hn : ∀ q ∈ cs, ¬ (spO o q ∧ q.2.1 = 2)) (n : Nat) :
    goG c (cs.length + (n + 1)) cs (startF o) (0, 0) = (cs, (0, heardG o cs cs.length), (cs.length, 0), true) := by
  have hcap : 1 ≤ c.cap := by have := hc.2.2; unfold RestOk at this; omega
  obtain ⟨m, hm⟩ : ∃ m, cs.length = m + 1 := ⟨cs.length - 1, by omega⟩
  rw [hm, show m + 1 + (n + 1) = m + (n + 2) by omega, hear_to hc ho hb hk hl m (n + 2) (by omega) fun j q _ h => hn q (List.mem_of_getElem? h)]
  obtain ⟨q, hq⟩ : ∃ q, cs[m]? = some q := ⟨_, List.getElem?_eq_getElem (by omega)⟩
  have hmay := frHear_may hc ho hb hk cs m (by omega)
  have hm1 := behindG_may ho hmay q.2.1 q.2.2.1 q.2.2.2
  have hne := hn q (List.mem_of_getElem? hq)
  rw [show n + 2 = n + 1 + 1 from rfl, goG_read (x := q) hc ho hmay rfl hq]
  have e : behindG c (frHear o cs m) q.2.1 q.2.2.1 q.2.2.2 = { frHear o cs m with x := heardG o cs (m + 1), pc := 20 } := by
    rw [bhG_check rfl hk]
    unfold checkedG
    by_cases e : spO o q
    · rw [if_pos (show spkG (frHear o cs m) q.2.1 q.2.2.1 q.2.2.2 from e), if_neg (fun g => hne ⟨e, g⟩)]
      unfold onG frHear
      simp only [heardG, hq, Option.getD_some]
      rw [if_pos e, if_pos (by omega)]
    · rw [if_neg (show ¬ spkG (frHear o cs m) q.2.1 q.2.2.1 q.2.2.2 from e)]
      unfold onG frHear
      simp only [heardG, hq, Option.getD_some]
      rw [if_neg e, if_pos (by omega)]
  rw [e] at hm1 ⊢
  rw [goG_done hc ho hm1 rfl]
  rfl
end Go.Proofs.YtljhcegkekdjgaaDoor

namespace Go.Proofs.YtljhcegkekdjgaaDoor
open Pt Opn Tb

def rowG (q : Q4) : R := (q.2.2.1 * 65536 + q.2.2.2, q.2.1)
/-- The rows that cells tell, in the cells' order. -/
def rowsG (cs : List Q4) : List R := (cs.filter fun q => decide (q.2.1 ≠ 0)).map rowG
/-- Cells that hold rows. -/
def RelG (c : Cf) (l : List R) (cs : List Q4) : Prop := (cs.length : Int) = c.cap ∧ (∀ q ∈ cs, q.1 = 0 ∧ q.2.1 ≤ 2 ∧ q.2.2.1 ≤ 65535 ∧ q.2.2.2 ≤ 65535) ∧ (rowsG cs).Perm l

theorem relG_wf {c : Cf} {l : List R} {cs : List Q4} (h : RelG c l cs) : ∀ x ∈ cs, QWf x := fun x hx => by
  have := h.2.1 x hx
  unfold QWf
  omega
theorem rowsG_app (a b : List Q4) : rowsG (a ++ b) = rowsG a ++ rowsG b := by unfold rowsG; rw [List.filter_append, List.map_append]
theorem rowsG_zero {q : Q4} (h : q.2.1 = 0) : rowsG [q] = [] := by unfold rowsG; rw [List.filter_cons_of_neg (by simp [h])]; rfl
theorem rowsG_one {q : Q4} (h : q.2.1 ≠ 0) : rowsG [q] = [rowG q] := by unfold rowsG; rw [List.filter_cons_of_pos (by simp [h])]; rfl
theorem mem_rowsG {cs : List Q4} {x : R} : x ∈ rowsG cs ↔ ∃ q ∈ cs, q.2.1 ≠ 0 ∧ rowG q = x := by
  unfold rowsG
  simp only [List.mem_map, List.mem_filter, decide_eq_true_eq]
  constructor
  · rintro ⟨q, ⟨h1, h2⟩, h3⟩; exact ⟨q, h1, h2, h3⟩
  · rintro ⟨q, h1, h2, h3⟩; exact ⟨q, ⟨h1, h2⟩, h3⟩
theorem rowsG_set {cs : List Q4} {m : Nat} (hm : m < cs.length) (q : Q4) : (rowsG (cs.set m q)).Perm (rowsG [q] ++ (rowsG (cs.take m) ++ rowsG (cs.drop (m + 1)))) := by
  rw [List.set_eq_take_append_cons_drop, if_pos hm, rowsG_app, show q :: cs.drop (m + 1) = [q] ++ cs.drop (m + 1) from rfl, rowsG_app, ← List.append_assoc, ← List.append_assoc]
  exact List.perm_append_comm.append_right _
theorem rowsG_at {cs : List Q4} {m : Nat} {q : Q4} (hq : cs[m]? = some q) : (rowsG cs).Perm (rowsG [q] ++ (rowsG (cs.take m) ++ rowsG (cs.drop (m + 1)))) := by
  obtain ⟨hm, he⟩ := List.getElem?_eq_some_iff.1 hq
  have h := rowsG_set hm q
  have e : cs.set m q = cs := by rw [← he]; exact List.set_getElem_self hm
  rwa [e] at h
theorem rowsG_len (cs : List Q4) : (rowsG cs).length ≤ cs.length := by
  unfold rowsG
  rw [List.length_map]
  exact List.length_filter_le _ _
theorem least {P : Nat → Prop} : ∀ n, (∃ m, m < n ∧ P m) → ∃ m, m < n ∧ P m ∧ ∀ j, j < m → ¬ P j
  | 0, h => by obtain ⟨m, hm, _⟩ := h; omega
  | n + 1, h => by
    by_cases e : ∃ m, m < n ∧ P m
    · obtain ⟨m, h1, h2, h3⟩ := least n e
      exact ⟨m, by omega, h2, h3⟩
    · obtain ⟨m, h1, h2⟩ := h
      have : m = n := by
        by_cases g : m < n
        · exact absurd ⟨m, g, h2⟩ e
        · omega
      subst this
      exact ⟨m, h1, h2, fun j hj hp => e ⟨j, hj, hp⟩⟩
/-- Rows put in, taken out: as lists that are the same but for their order. -/
theorem put_perm {l rest : List R} (hu : Up l) {k v : Nat} (v' : Nat) (h : ((k, v) :: rest).Perm l) : ((k, v') :: rest).Perm (put l k v') := by
  have hg : Tb.get l k = some v := get_of hu (h.subset List.mem_cons_self)
  have e := split_at k hu
  rw [hg] at e
  simp only [List.append_assoc, List.singleton_append] at e
  have h1 : ((k, v) :: rest).Perm ((k, v) :: (lo l k ++ hi l k)) := (h.trans (List.Perm.of_eq e)).trans List.perm_middle
  have h2 := h1.cons_inv
  unfold put
  exact (h2.cons (k, v')).trans List.perm_middle.symm
theorem new_perm {l rest : List R} (hu : Up l) {k : Nat} (v' : Nat) (hg : Tb.get l k = none) (h : rest.Perm l) : ((k, v') :: rest).Perm (put l k v') := by
  have e := split_at k hu
  rw [hg] at e
  simp only [List.append_nil] at e
  unfold put
  exact ((h.trans (List.Perm.of_eq e)).cons (k, v')).trans List.perm_middle.symm
theorem cut_perm {l rest : List R} (hu : Up l) {k v : Nat} (h : ((k, v) :: rest).Perm l) : rest.Perm (cut l k) := by
  have hg : Tb.get l k = some v := get_of hu (h.subset List.mem_cons_self)
  have e := split_at k hu
  rw [hg] at e
  simp only [List.append_assoc, List.singleton_append] at e
  rw [cut_eq k hu]
  exact ((h.trans (List.Perm.of_eq e)).trans List.perm_middle).cons_inv
/-- A rule that is there. -/
theorem rule_key {o : O} {q : Q4} (_ : q.2.2.1 ≤ 65535) (h2 : q.2.2.2 ≤ 65535) (_ : o.a ≤ 65535) (hb : o.b ≤ 65535) : ruleO o q ↔ q.2.1 ≠ 0 ∧ (rowG q).1 = o.a * 65536 + o.b := by
  unfold ruleO rowG
  simp only
  omega
theorem sp_key {o : O} {q : Q4} (h2 : q.2.2.2 ≤ 65535) : spO o q ↔ q.2.1 ≠ 0 ∧ sp (rowG q).1 o.a o.b = true := by
  unfold spO sp rowG
  simp only [decide_eq_true_eq]
  rw [show (q.2.2.1 * 65536 + q.2.2.2) / 65536 = q.2.2.1 by omega, show (q.2.2.1 * 65536 + q.2.2.2) % 65536 = q.2.2.2 by omega]

theorem relG_none (c : Cf) (hc : 0 ≤ c.cap) : RelG c [] (List.replicate c.cap.toNat (0, 0, 0, 0)) := by
  refine ⟨by rw [List.length_replicate]; omega, fun q hq => ?_, ?_⟩
  · rw [(List.mem_replicate.1 hq).2]; simp
  · unfold rowsG
    rw [List.filter_eq_nil_iff.2 fun q hq => by rw [(List.mem_replicate.1 hq).2]; simp]
    exact List.Perm.nil

theorem meansG {c : Cf} {l : List R} {cs : List Q4} {o : O} (ht : IsRu c l) (hr : RelG c l cs) (hb : chk c o = 0) :
    ∃ cs' t v, goG c 80 cs (startF o) (0, 0) = (cs', ((doUR c l o).2.1, v), t, true) ∧ (doUR c l o).2.2 = ((v : Nat) : Int) ∧ RelG c (doUR c l o).1 cs' := by
  obtain ⟨hc, ho, hcap, hu, hok⟩ := ht
  obtain ⟨hl, hq, hp⟩ := hr
  have hc32 : 1 ≤ c.cap ∧ c.cap ≤ 32 := by have := hc.2.2; unfold RestOk at this; omega
  have hcl : cs.length ≤ 32 := by omega
  rw [doUR_done ⟨hc, ho, hcap, hu, hok⟩ hb]
  have hmem : ∀ {x : R}, x ∈ l ↔ ∃ q ∈ cs, q.2.1 ≠ 0 ∧ rowG q = x := fun {x} => by rw [← mem_rowsG]; exact hp.mem_iff.symm
  by_cases hk : o.k = 11
  · have hf : o.a ≤ 65535 ∧ o.b ≤ 65535 := by rcases fits_three ho hb with g | g | g <;> omega
    rw [hk, doneU_look]
    obtain ⟨s1, s2, s3⟩ := says_facts hok o.a o.b
    have hs2 : says l o.a o.b = 2 ↔ ∃ q ∈ cs, spO o q ∧ q.2.1 = 2 := by
      rw [s2]
      constructor
      · rintro ⟨x, hx, h1, h2⟩
        obtain ⟨q, hqm, hq0, rfl⟩ := hmem.1 hx
        exact ⟨q, hqm, (sp_key (hq q hqm).2.2.2).2 ⟨hq0, h1⟩, h2⟩
      · rintro ⟨q, hqm, h1, h2⟩
        obtain ⟨g1, g2⟩ := (sp_key (hq q hqm).2.2.2).1 h1
        exact ⟨rowG q, hmem.2 ⟨q, hqm, g1, rfl⟩, g2, h2⟩
    have hs0 : says l o.a o.b = 0 ↔ ∀ q ∈ cs, ¬ spO o q := by
      rw [s3]
      constructor
      · intro h q hqm h1
        obtain ⟨g1, g2⟩ := (sp_key (hq q hqm).2.2.2).1 h1
        have := h _ (hmem.2 ⟨q, hqm, g1, rfl⟩)
        rw [this] at g2
        cases g2
      · intro h x hx
        obtain ⟨q, hqm, hq0, rfl⟩ := hmem.1 hx
        have := h q hqm
        rw [sp_key (hq q hqm).2.2.2] at this
        cases e : sp (rowG q).1 o.a o.b with
        | false => rfl
        | true => exact absurd ⟨hq0, e⟩ this
    by_cases hd : ∃ q ∈ cs, spO o q ∧ q.2.1 = 2
    · have e2 := hs2.2 hd
      obtain ⟨q, hqm, h1, h2⟩ := hd
      obtain ⟨i, hi, he⟩ := List.getElem_of_mem hqm
      obtain ⟨m, hm, ⟨p, hp1, hp2, hp3⟩, hlst⟩ := least (P := fun m => ∃ p, cs[m]? = some p ∧ spO o p ∧ p.2.1 = 2) cs.length ⟨i, hi, q, by rw [List.getElem?_eq_getElem hi, he], h1, h2⟩
      have := hear_deny hc ho hb hk hl hp1 hp2 hp3 (fun j p hj hpj hh => hlst j hj ⟨p, hpj, hh.1, hh.2⟩) (78 - m)
      rw [show m + (78 - m + 2) = 80 by omega] at this
      exact ⟨cs, _, 2, this, by rw [e2], hl, hq, hp⟩
    · have e2 : says l o.a o.b ≠ 2 := fun e => hd (hs2.1 e)
      have := hear_none hc ho hb hk hl (fun q hqm hh => hd ⟨q, hqm, hh⟩) (79 - cs.length)
      rw [show cs.length + (79 - cs.length + 1) = 80 by omega] at this
      refine ⟨cs, _, heardG o cs cs.length, this, ?_, hl, hq, hp⟩
      obtain ⟨h1, h2⟩ := heard_iff o cs cs.length (Nat.le_refl _)
      have : heardG o cs cs.length = says l o.a o.b := by
        by_cases e0 : says l o.a o.b = 0
        · have := hs0.1 e0
          have : ¬ heardG o cs cs.length = 1 := fun e => by
            obtain ⟨j, q, _, hj, hs⟩ := h2.1 e
            exact this q (List.mem_of_getElem? hj) hs
          omega
        · have h3 : ∃ q ∈ cs, spO o q := by
            by_cases g : ∃ q ∈ cs, spO o q
            · exact g
            · exact absurd (hs0.2 fun q hqm hs => g ⟨q, hqm, hs⟩) e0
          obtain ⟨q, hqm, hs⟩ := h3
          obtain ⟨i, hi, he⟩ := List.getElem_of_mem hqm
          have := h2.2 ⟨i, q, hi, by rw [List.getElem?_eq_getElem hi, he], hs⟩
          omega
      rw [this]
  · have hf : o.a ≤ 65535 ∧ o.b ≤ 65535 ∧ (o.k = 9 ∨ o.k = 10) ∧ (o.k = 9 → o.c ≠ 0 ∧ o.c ≤ 2) := by rcases fits_three ho hb with g | g | g <;> omega
    obtain ⟨fa, fb, fk, fc⟩ := hf
    obtain ⟨key, hkey⟩ : ∃ key, o.a * 65536 + o.b = key := ⟨_, rfl⟩
    have hrk : ∀ q ∈ cs, (ruleO o q ↔ q.2.1 ≠ 0 ∧ (rowG q).1 = key) := fun q hqm => by rw [← hkey]; exact rule_key (hq q hqm).2.2.1 (hq q hqm).2.2.2 fa fb
    by_cases hx : ∃ q ∈ cs, ruleO o q
    · obtain ⟨q0, hqm0, hr0⟩ := hx
      obtain ⟨i, hi, he⟩ := List.getElem_of_mem hqm0
      obtain ⟨m, hm, ⟨q, hqq, hru⟩, hlst⟩ := least (P := fun m => ∃ p, cs[m]? = some p ∧ ruleO o p) cs.length ⟨i, hi, q0, by rw [List.getElem?_eq_getElem hi, he], hr0⟩
      have hgo := seek_found hc ho hb hk hl hqq hru (fun j p hj hpj hh => hlst j hj ⟨p, hpj, hh⟩) (77 - m)
      rw [show m + (77 - m + 3) = 80 by omega] at hgo
      have hqm := List.mem_of_getElem? hqq
      obtain ⟨r1, r2⟩ := (hrk q hqm).1 hru
      have hpr := (rowsG_at hqq).symm.trans hp
      rw [rowsG_one r1] at hpr
      have hpr' : ((key, q.2.1) :: (rowsG (cs.take m) ++ rowsG (cs.drop (m + 1)))).Perm l := by
        have : rowG q = (key, q.2.1) := Prod.ext r2 rfl
        rw [← this]; exact hpr
      have hgt : Tb.get l key = some q.2.1 := get_of hu (hpr'.subset List.mem_cons_self)
      have hA : q.2.1 % 4294967296 = q.2.1 := Nat.mod_eq_of_lt (by have := (hq q hqm).2.1; omega)
      rw [hA] at hgo
      rcases fk with e9 | e10
      · rw [if_pos e9] at hgo
        rw [e9, doneU_put, hkey, hgt]
        refine ⟨_, _, q.2.1, hgo, rfl, by rw [List.length_set]; exact hl, fun x hx => ?_, ?_⟩
        · rcases List.mem_or_eq_of_mem_set hx with h | rfl
          · exact hq x h
          · exact ⟨rfl, (fc e9).2, fa, fb⟩
        · refine (rowsG_set hm _).trans ?_
          rw [rowsG_one (q := (0, o.c, o.a, o.b)) (fc e9).1]
          have : rowG (0, o.c, o.a, o.b) = (key, o.c) := Prod.ext hkey rfl
          rw [this]
          exact put_perm hu o.c hpr'
      · rw [if_neg (show ¬ o.k = 9 by omega)] at hgo
        rw [e10, doneU_cut, hkey, hgt]
        refine ⟨_, _, q.2.1, hgo, rfl, by rw [List.length_set]; exact hl, fun x hx => ?_, ?_⟩
        · rcases List.mem_or_eq_of_mem_set hx with h | rfl
          · exact hq x h
          · simp
        · refine (rowsG_set hm _).trans ?_
          rw [rowsG_zero (q := (0, 0, 0, 0)) rfl]
          exact cut_perm hu hpr'
    · have hgt : Tb.get l key = none := by
        cases hg : Tb.get l key with
        | none => rfl
        | some v =>
          obtain ⟨q, hqm, hq0, he⟩ := hmem.1 (get_some hg)
          exact absurd ⟨q, hqm, (hrk q hqm).2 ⟨hq0, by rw [he]⟩⟩ hx
      have hgo := seek_none' hc ho hb hk hl (fun q hqm hh => hx ⟨q, hqm, hh⟩) (78 - cs.length)
      rw [show cs.length + (78 - cs.length + 2) = 80 by omega] at hgo
      rcases fk with e9 | e10
      · rw [if_neg (show ¬ o.k = 10 by omega)] at hgo
        rw [e9, doneU_put, hkey, hgt]
        simp only
        obtain ⟨r1, r2, r3, r4⟩ := roomAt_le o.k cs cs.length
        have hpl := hp.length_eq
        by_cases e1 : (roomAt o.k cs cs.length).2 = 1
        · obtain ⟨g1, g2⟩ := r3 e1
          rw [if_pos e1] at hgo
          obtain ⟨q, hqj⟩ : ∃ q, cs[(roomAt o.k cs cs.length).1]? = some q := ⟨_, List.getElem?_eq_getElem g1⟩
          rw [hqj, Option.getD_some] at g2
          have hpr := (rowsG_at hqj).symm.trans hp
          rw [rowsG_zero g2, List.nil_append] at hpr
          have hlt : ¬ c.cap.toNat ≤ l.length := by
            have h1 := hpr.length_eq
            rw [List.length_append] at h1
            have h2 := rowsG_len (cs.take (roomAt o.k cs cs.length).1)
            have h3 := rowsG_len (cs.drop ((roomAt o.k cs cs.length).1 + 1))
            rw [List.length_take] at h2
            rw [List.length_drop] at h3
            omega
          rw [if_neg hlt]
          refine ⟨_, _, 0, hgo, rfl, by rw [List.length_set]; exact hl, fun x hx => ?_, ?_⟩
          · rcases List.mem_or_eq_of_mem_set hx with h | rfl
            · exact hq x h
            · exact ⟨rfl, (fc e9).2, fa, fb⟩
          · refine (rowsG_set g1 _).trans ?_
            rw [rowsG_one (q := (0, o.c, o.a, o.b)) (fc e9).1]
            have : rowG (0, o.c, o.a, o.b) = (key, o.c) := Prod.ext hkey rfl
            rw [this]
            exact new_perm hu o.c hgt hpr
        · rw [if_neg e1] at hgo
          have hall : rowsG cs = cs.map rowG := by
            unfold rowsG
            rw [List.filter_eq_self.2 fun q hqm => ?_]
            obtain ⟨j, hj, he⟩ := List.getElem_of_mem hqm
            have := r4 (by omega) e9 j hj
            rw [List.getElem?_eq_getElem hj, he, Option.getD_some] at this
            exact decide_eq_true this
          have hge : c.cap.toNat ≤ l.length := by
            rw [← hpl, hall, List.length_map]
            omega
          rw [if_pos hge]
          exact ⟨cs, _, 0, hgo, rfl, hl, hq, hp⟩
      · rw [if_pos e10] at hgo
        rw [e10, doneU_cut, hkey, hgt]
        exact ⟨cs, _, 0, hgo, rfl, hl, hq, hp⟩

/-! The law's own rows: put in, one behind the other. -/
def putAll (L : List R) : List R := L.foldl (fun out x => put out x.1 x.2) []
theorem putAll_snoc (L : List R) (x : R) : putAll (L ++ [x]) = put (putAll L) x.1 x.2 := by unfold putAll; rw [List.foldl_append]; rfl
theorem putAll_from : ∀ (L acc : List R), Up acc → (∀ x ∈ L, ∀ y ∈ acc, x.1 ≠ y.1) → L.Pairwise (fun x y => x.1 ≠ y.1) → (L.foldl (fun out x => put out x.1 x.2) acc).Perm (acc ++ L) ∧ Up (L.foldl (fun out x => put out x.1 x.2) acc)
  | [], acc, h, _, _ => ⟨by rw [List.append_nil]; exact List.Perm.refl _, h⟩
  | x :: L, acc, h, hn, hd => by
    rw [List.pairwise_cons] at hd
    have hg : Tb.get acc x.1 = none := get_none_of fun y hy => fun e => hn x List.mem_cons_self y hy e.symm
    obtain ⟨h1, h2⟩ := putAll_from L (put acc x.1 x.2) (up_put _ _ h) (fun z hz y hy => by
      rcases put_mem hy with hy | rfl
      · exact hn z (List.mem_cons_of_mem _ hz) y hy
      · exact fun e => hd.1 z hz e.symm) hd.2
    refine ⟨h1.trans ?_, h2⟩
    have h3 := (new_perm h x.2 hg (List.Perm.refl acc)).symm
    exact (h3.append_right L).trans (List.perm_middle.symm)
theorem putAll_perm {L : List R} (h : L.Pairwise (fun x y => x.1 ≠ y.1)) : (putAll L).Perm L ∧ Up (putAll L) := putAll_from L [] List.Pairwise.nil (fun _ _ _ hy => by cases hy) h
/-- Keys of cells that hold rows are each there once. -/
theorem keys_once {c : Cf} {l : List R} {cs : List Q4} (hu : Up l) (h : RelG c l cs) : (rowsG cs).Pairwise (fun x y => x.1 ≠ y.1) :=
  (hu.imp fun e => Nat.ne_of_lt e).perm h.2.2.symm fun e => e.symm
theorem told_relG {c : Cf} {l : List R} {cs : List Q4} (hu : Up l) (h : RelG c l cs) : putAll (rowsG cs) = l := by
  obtain ⟨h1, h2⟩ := putAll_perm (keys_once hu h)
  exact (h1.trans h.2.2).eq_of_pairwise (fun a b _ _ e1 e2 => absurd e1 (by omega)) h2 hu
theorem rowsG_take {cs : List Q4} {j : Nat} {q : Q4} (hq : cs[j]? = some q) : rowsG (cs.take (j + 1)) = rowsG (cs.take j) ++ rowsG [q] := by
  obtain ⟨hj, he⟩ := List.getElem?_eq_some_iff.1 hq
  rw [List.take_add_one, hq, rowsG_app]
  rfl
theorem rowsG_pre {cs : List Q4} {P : R → R → Prop} (h : (rowsG cs).Pairwise P) (j : Nat) : (rowsG (cs.take j)).Pairwise P := by
  have e := List.take_append_drop j cs
  rw [← e, rowsG_app, List.pairwise_append] at h
  exact h.1
/-- The next cell's row is not there yet. -/
theorem told_new {cs : List Q4} (h : (rowsG cs).Pairwise (fun x y => x.1 ≠ y.1)) {j : Nat} {q : Q4} (hq : cs[j]? = some q) (h0 : q.2.1 ≠ 0) : Tb.get (putAll (rowsG (cs.take j))) (rowG q).1 = none := by
  have h1 := rowsG_pre h (j + 1)
  rw [rowsG_take hq, rowsG_one h0, List.pairwise_append] at h1
  refine get_none_of fun x hx => ?_
  have hx' := (putAll_perm h1.1).1.mem_iff.1 hx
  exact h1.2.2 x hx' (rowG q) List.mem_cons_self
end Go.Proofs.YtljhcegkekdjgaaDoor
