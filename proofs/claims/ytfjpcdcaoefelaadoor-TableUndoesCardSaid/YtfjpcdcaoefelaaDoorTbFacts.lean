/- What the operations on tables leave: rows that may be a table's; what is put in and taken out; what a look-up tells. -/
import Derived.Test.YtfjpcdcaoefelaaDoorTbPAny
namespace Go.Proofs.YtfjpcdcaoefelaaDoor
open Tb Pt Opn

theorem doE_cases (c : Cf) (l : List R) : (doE c l = 0 ∧ IsTab c l) ∨ (doE c l ≠ 0 ∧ ¬ IsTab c l) := by
  unfold doE
  by_cases h1 : Ok c ∧ c.obj = 1
  · by_cases h2 : IsTab c l
    · exact .inl ⟨by rw [if_neg (not_not_intro h1), if_neg (not_not_intro h2)], h2⟩
    · exact .inr ⟨by rw [if_neg (not_not_intro h1), if_pos h2]; decide, h2⟩
  · exact .inr ⟨by rw [if_pos h1]; decide, fun h => h1 ⟨h.1, h.2.1⟩⟩
theorem doR_none {c : Cf} {l : List R} (o : O) (h : ¬ IsTab c l) : doR c l o = ([], 0, 0) := by
  unfold doR
  by_cases h1 : Ok c ∧ c.obj = 1
  · rw [if_neg (not_not_intro h1), if_pos h]
  · rw [if_pos h1]
theorem doR_bad {c : Cf} {l : List R} {o : O} (h : IsTab c l) (hb : chk c o ≠ 0) : doR c l o = (l, chk c o, 0) := by
  unfold doR; rw [if_neg (not_not_intro ⟨h.1, h.2.1⟩), if_neg (not_not_intro h), if_pos hb]
theorem doR_done {c : Cf} {l : List R} {o : O} (h : IsTab c l) (hb : chk c o = 0) : doR c l o = doneR c.bits.toNat c.cap.toNat l o.k o.a o.b o.c := by
  unfold doR; rw [if_neg (not_not_intro ⟨h.1, h.2.1⟩), if_neg (not_not_intro h), if_neg (not_not_intro hb)]
/-- What an operation that fits says. -/
theorem fits_one {c : Cf} {o : O} (hc : c.obj = 1) (h : chk c o = 0) : (o.k = 1 ∧ o.b ≤ c.bits.toNat ∧ o.a < 2 ^ o.b ∧ o.c ≤ 2147483647) ∨ (o.k = 2 ∧ o.b ≤ c.bits.toNat ∧ o.a < 2 ^ o.b ∧ o.c = 0) ∨ (o.k = 3 ∧ o.a < 2 ^ c.bits.toNat ∧ o.b = 0 ∧ o.c = 0) := by
  obtain ⟨_, h2, h3⟩ := chk_zero h
  have hk := route_kind (k := o.k) (by rw [h2]; exact hc)
  unfold Fits Prefix at h3
  rcases h3 with h | h | h | h | h | h | h | h | h | h
  · exact .inl ⟨h.1, h.2.1.1, h.2.1.2, h.2.2⟩
  · exact .inr (.inl ⟨h.1, h.2.1.1, h.2.1.2, h.2.2⟩)
  · exact .inr (.inr ⟨h.1, h.2.1, h.2.2.1, h.2.2.2⟩)
  all_goals omega
theorem sz_one {c : Cf} (hc : c.obj = 1) : sz c = 2 ^ (c.bits.toNat + 1) := by unfold sz; rw [if_pos hc]
theorem node_ok {n b a : Nat} (hb : b ≤ n) (ha : a < 2 ^ b) : 1 ≤ 2 ^ b + a ∧ 2 ^ b + a < 2 ^ (n + 1) := by
  have h1 : 2 ^ b ≤ 2 ^ n := Nat.pow_le_pow_right (by decide) hb
  have h2 := Nat.two_pow_pos b
  rw [Nat.pow_succ]
  omega
theorem put_mem {l : List R} {k v : Nat} {x : R} (h : x ∈ put l k v) : x ∈ l ∨ x = (k, v) := by
  unfold put lo hi at h
  rcases List.mem_append.1 h with h | h
  · exact .inl (List.mem_filter.1 h).1
  · rcases List.mem_cons.1 h with h | h
    · exact .inr h
    · exact .inl (List.mem_filter.1 h).1
theorem cut_mem {l : List R} {k : Nat} {x : R} (h : x ∈ cut l k) : x ∈ l := (List.mem_filter.1 h).1
theorem put_tab {c : Cf} {l : List R} (h : IsTab c l) {b a v : Nat} (hb : b ≤ c.bits.toNat) (ha : a < 2 ^ b) (hv : v ≤ 2147483647) (hc : (Tb.get l (2 ^ b + a)).isSome = true ∨ ¬ c.cap.toNat ≤ l.length) : IsTab c (put l (2 ^ b + a) v) := by
  obtain ⟨h1, h2, h3, h4, h5⟩ := h
  refine ⟨h1, h2, ?_, up_put _ _ h4, fun x hx => ?_⟩
  · rw [len_put _ _ h4]
    rcases hc with hc | hc
    · rw [if_pos hc]; exact h3
    · split <;> omega
  · rcases put_mem hx with hx | rfl
    · exact h5 x hx
    · have := node_ok hb ha
      exact ⟨this.1, by rw [sz_one h2]; exact this.2, hv⟩
theorem cut_tab {c : Cf} {l : List R} (h : IsTab c l) (k : Nat) : IsTab c (cut l k) := by
  obtain ⟨h1, h2, h3, h4, h5⟩ := h
  have := cut_length l k
  exact ⟨h1, h2, by omega, up_cut _ h4, fun x hx => h5 x (cut_mem hx)⟩
/-- What is answered may be a table's. -/
theorem do_tab {c : Cf} {l : List R} (o : O) (h : IsTab c l) : IsTab c (doR c l o).1 := by
  by_cases hb : chk c o = 0
  · rw [doR_done h hb]
    rcases fits_one h.2.1 hb with ⟨hk, g1, g2, g3⟩ | ⟨hk, g1, g2, g3⟩ | ⟨hk, g1, _⟩
    · rw [done_ins hk]
      unfold insR
      cases hg : Tb.get l (2 ^ o.b + o.a) with
      | some u => exact put_tab h g1 g2 g3 (.inl (by rw [hg]; rfl))
      | none =>
        simp only
        split
        · exact h
        · rename_i hc
          exact put_tab h g1 g2 g3 (.inr hc)
    · rw [done_rem hk]
      unfold remR
      cases Tb.get l (2 ^ o.b + o.a) with
      | some u => exact cut_tab h _
      | none => exact h
    · rw [done_look hk]; exact h
  · rw [doR_bad h hb]; exact h
/-- A code other than OK, and a look-up, leave the rows. -/
theorem do_left {c : Cf} {l : List R} (o : O) (h : IsTab c l) (hx : (doR c l o).2.1 ≠ 0 ∨ o.k = 3) : (doR c l o).1 = l := by
  by_cases hb : chk c o = 0
  · rw [doR_done h hb] at hx ⊢
    rcases fits_one h.2.1 hb with ⟨hk, g1, g2, g3⟩ | ⟨hk, g1, g2, g3⟩ | ⟨hk, g1, _⟩
    · rw [done_ins hk] at hx ⊢
      unfold insR at hx ⊢
      cases hg : Tb.get l (2 ^ o.b + o.a) with
      | some u => rw [hg] at hx; simp only at hx; omega
      | none =>
        rw [hg] at hx
        simp only at hx ⊢
        split
        · rfl
        · rename_i hc
          rw [if_neg hc] at hx; simp only at hx; omega
    · rw [done_rem hk] at hx ⊢
      unfold remR at hx ⊢
      cases hg : Tb.get l (2 ^ o.b + o.a) with
      | some u => rw [hg] at hx; simp only at hx; omega
      | none => rfl
    · rw [done_look hk]
  · rw [doR_bad h hb]
theorem do_len (c : Cf) (l : List R) (o : O) : (doR c l o).1.length ≤ l.length + 1 := by
  by_cases h : IsTab c l
  · by_cases hb : chk c o = 0
    · rw [doR_done h hb]; exact doneR_len _ _ _ _ h.2.2.2.1
    · rw [doR_bad h hb]; simp
  · rw [doR_none o h]; simp
/-- What is put in. -/
theorem ins_ok {c : Cf} {l : List R} {o : O} (h : IsTab c l) (hk : o.k = 1) (hx : (doR c l o).2.1 = 0) :
    o.b ≤ c.bits.toNat ∧ o.a < 2 ^ o.b ∧ o.c ≤ 2147483647 ∧ (doR c l o).1 = put l (2 ^ o.b + o.a) o.c ∧ ((doR c l o).2.2 = 0 ↔ Tb.get l (2 ^ o.b + o.a) = none) ∧ chk c ⟨2, o.a, o.b, 0⟩ = 0 := by
  by_cases hb : chk c o = 0
  · obtain ⟨h0, h1, h2⟩ := chk_zero hb
    rcases fits_one h.2.1 hb with ⟨_, g1, g2, g3⟩ | ⟨g, _⟩ | ⟨g, _⟩
    · refine ⟨g1, g2, g3, ?_, ?_, ?_⟩
      · rw [doR_done h hb, done_ins hk] at hx ⊢
        unfold insR at hx ⊢
        cases hg : Tb.get l (2 ^ o.b + o.a) with
        | some u => rfl
        | none =>
          rw [hg] at hx
          simp only at hx ⊢
          split
          · rename_i hc; rw [if_pos hc] at hx; simp only at hx; omega
          · rfl
      · rw [doR_done h hb, done_ins hk]
        unfold insR
        cases hg : Tb.get l (2 ^ o.b + o.a) with
        | some u =>
          have := (h.2.2.2.2 _ (get_some hg)).2.2
          simp only at this ⊢
          refine ⟨fun e => by omega, fun e => by cases e⟩
        | none =>
          simp only
          split <;> simp
      · unfold chk
        rw [ok_bit h0, if_neg (by decide), if_neg (by rw [h.2.1]; exact not_not_intro rfl), if_pos]
        unfold Fits
        exact .inr (.inl ⟨rfl, ⟨g1, g2⟩, rfl⟩)
    · omega
    · omega
  · rw [doR_bad h hb] at hx
    exact absurd hx hb
theorem get_put {l : List R} (k v : Nat) (h : Up l) : Tb.get (put l k v) k = some v := get_of (up_put k v h) (by unfold put; simp)
theorem cut_put {l : List R} (k v : Nat) (h : Up l) : cut (put l k v) k = cut l k := by
  rw [cut_eq k h]
  unfold put cut
  rw [List.filter_append, List.filter_cons_of_neg (by simp)]
  congr 1
  · exact List.filter_eq_self.2 fun x hx => by have := (List.mem_filter.1 hx).2; simp at this ⊢; omega
  · exact List.filter_eq_self.2 fun x hx => by have := (List.mem_filter.1 hx).2; simp at this ⊢; omega
/-- .. and taken out again. -/
theorem rem_ok {c : Cf} {l : List R} {o : O} (h : IsTab c l) (hk : o.k = 1) (hx : (doR c l o).2.1 = 0) :
    doR c (put l (2 ^ o.b + o.a) o.c) ⟨2, o.a, o.b, 0⟩ = (cut l (2 ^ o.b + o.a), 0, (((o.c + 1) % 4294967296 : Nat) : Int)) := by
  obtain ⟨g1, g2, g3, g4, _, g6⟩ := ins_ok h hk hx
  have ht : IsTab c (put l (2 ^ o.b + o.a) o.c) := by rw [← g4]; exact do_tab o h
  rw [doR_done ht g6, done_rem rfl]
  unfold remR
  simp only
  rw [get_put _ _ h.2.2.2.1, cut_put _ _ h.2.2.2.1]
/-- What a look-up answers. -/
theorem look_ok {c : Cf} {l : List R} {key : Nat} (h : IsTab c l) : (key < 2 ^ c.bits.toNat ∧ doR c l ⟨3, key, 0, 0⟩ = (l, lookC (seek l c.bits.toNat key c.bits.toNat), lookV (seek l c.bits.toNat key c.bits.toNat))) ∨
    (¬ key < 2 ^ c.bits.toNat ∧ (doR c l ⟨3, key, 0, 0⟩).2.1 = 10) := by
  by_cases hk : key < 2 ^ c.bits.toNat
  · refine .inl ⟨hk, ?_⟩
    have hb : chk c ⟨3, key, 0, 0⟩ = 0 := by
      unfold chk
      rw [ok_bit h.1, if_neg (by decide), if_neg (by rw [h.2.1]; exact not_not_intro rfl), if_pos]
      unfold Fits
      exact .inr (.inr (.inl ⟨rfl, hk, rfl, rfl⟩))
    rw [doR_done h hb, done_look rfl]
  · refine .inr ⟨hk, ?_⟩
    have hb : chk c ⟨3, key, 0, 0⟩ = 10 := by
      unfold chk
      rw [ok_bit h.1, if_neg (by decide), if_neg (by rw [h.2.1]; exact not_not_intro rfl), if_neg]
      intro hf
      unfold Fits at hf
      rcases hf with h | h | h | h | h | h | h | h | h | h <;> simp only at h <;> first | omega | exact hk h.2.1
    rw [doR_bad h (by rw [hb]; decide), hb]
end Go.Proofs.YtfjpcdcaoefelaaDoor
