/- What the program's Do answers of an index, opened: its rows' places told; and what each operation means where the rows may be an index's. -/
import Derived.Test.YtohllaolbebogaaDoorOrLive
namespace Go.Proofs.YtohllaolbebogaaDoor
open Go.RowKit Go.Lib Tb Pt Opn

/-- What Do leaves, its two lists opened. -/
def Opened (rows res : List R) (x y er : Int) (na nr : Nat) (w : World) (e : Ending) (w' : World) : Prop := ∃ Aa da Ar dr, e = .returned (.tuple #[.slice Aa na da, .agg #[.int .i64 x, .int .u32 y, .slice Ar nr dr], .int .i64 er]) ∧
  (Aa = none → na = 0 ∧ da = 0) ∧ IsR w' Aa rows ∧ (Ar = none → nr = 0 ∧ dr = 0) ∧ (nr ≤ dr ∧ dr ≤ 9223372036854775807) ∧ IsR w' Ar res ∧ Below w.heap.size w w'
theorem odo_open (c : Cf) (A : Option Addr) (l : List R) (d : Nat) (o : O) (ho : Wf o) (hAn : A = none → l.length = 0 ∧ d = 0) (hl : l.length ≤ 100000) (rows res : List R) (x y er : Int) (hs : doOR c l o = (rows, x, y, res)) (he : doOE c l = er) (n na nr : Nat) (hn : l.length = n) (hna : rows.length = na) (hnr : res.length = nr) (w : World) (hp : Obs w) (h : IsR w A l) :
    Calls Tryd.prog 11 #[cfv c, .slice A n d, opv o] w (Opened rows res x y er na nr w) := by
  subst hn hna hnr
  have h1 := odo_any c A l d o ho hAn hl w hp h
  rw [hs, he] at h1
  refine h1.mono ?_
  rintro e w' ⟨u, r, rfl, hu, hr, _, hb⟩
  obtain ⟨Aa, da, rfl, _, h3, h4⟩ := MadeX.form rowL_len hu
  obtain ⟨Ar, dr, rfl, h5, h6, h7⟩ := MadeX.form rowL_len hr
  exact ⟨Aa, da, Ar, dr, rfl, h3, h4, h6, h5, h7, hb⟩

theorem chk_index {c : Cf} {l : List R} {o : O} (h : IsOr c l) (hk : 4 ≤ o.k ∧ o.k ≤ 8) : chk c o = if Fits c.bits.toNat o then 0 else 10 := by
  unfold chk
  rw [if_neg (by unfold okB; rw [decide_eq_true h.1]; decide)]
  have e : objAt o.k = 2 := by unfold objAt; rw [if_neg (by omega), if_neg (by omega), if_pos (by omega)]
  rw [if_neg (by rw [e, h.2.1]; decide)]
/-- A put, a scan: both numbers at most 2^31 - 1. -/
theorem chk_pair {c : Cf} {l : List R} (h : IsOr c l) (k a b : Nat) (hk : k = 4 ∨ k = 8) : (a ≤ 2147483647 ∧ b ≤ 2147483647 ∧ chk c ⟨k, a, b, 0⟩ = 0) ∨ (¬ (a ≤ 2147483647 ∧ b ≤ 2147483647) ∧ chk c ⟨k, a, b, 0⟩ = 10) := by
  rw [chk_index h (by simp only; omega)]
  by_cases hf : a ≤ 2147483647 ∧ b ≤ 2147483647
  · exact .inl ⟨hf.1, hf.2, if_pos (.inr (.inr (.inr (.inl ⟨hk, hf.1, hf.2, rfl⟩))))⟩
  · exact .inr ⟨hf, if_neg fun hh => by unfold Fits at hh; simp only at hh; rcases hh with hh | hh | hh | hh | hh | hh | hh | hh | hh | hh <;> omega⟩
theorem chk_one {c : Cf} {l : List R} (h : IsOr c l) (k a : Nat) (hk : k = 5 ∨ k = 6 ∨ k = 7) : (a ≤ 2147483647 ∧ chk c ⟨k, a, 0, 0⟩ = 0) ∨ (¬ a ≤ 2147483647 ∧ chk c ⟨k, a, 0, 0⟩ = 10) := by
  rw [chk_index h (by simp only; omega)]
  by_cases hf : a ≤ 2147483647
  · exact .inl ⟨hf, if_pos (.inr (.inr (.inr (.inr (.inl ⟨hk, hf, rfl, rfl⟩)))))⟩
  · exact .inr ⟨hf, if_neg fun hh => by unfold Fits at hh; simp only at hh; rcases hh with hh | hh | hh | hh | hh | hh | hh | hh | hh | hh <;> omega⟩

theorem ans_get {c : Cf} {l : List R} (h : IsOr c l) {a : Nat} (ha : a ≤ 2147483647) : doOR c l ⟨6, a, 0, 0⟩ = (l, (getR l a).1, (getR l a).2, []) := by
  rcases chk_one h 6 a (by simp) with ⟨_, h2⟩ | ⟨h2, _⟩
  · rw [doOR_done h h2]; simp only; rw [doneO_read (by decide), getR_read]
  · exact absurd ha h2
theorem ans_floor {c : Cf} {l : List R} (h : IsOr c l) {a : Nat} (ha : a ≤ 2147483647) : doOR c l ⟨7, a, 0, 0⟩ = (l, if flo l a = [] then 6 else 0, 0, flo l a) := by
  rcases chk_one h 7 a (by simp) with ⟨_, h2⟩ | ⟨h2, _⟩
  · rw [doOR_done h h2]; simp only; rw [doneO_read (by decide)]; rfl
  · exact absurd ha h2
theorem ans_scan {c : Cf} {l : List R} (h : IsOr c l) {a b : Nat} (ha : a ≤ 2147483647) (hb : b ≤ 2147483647) : doOR c l ⟨8, a, b, 0⟩ = (l, 0, 0, scan l a b) := by
  rcases chk_pair h 8 a b (by simp) with ⟨_, _, h2⟩ | ⟨h2, _⟩
  · rw [doOR_done h h2]; simp only; rw [doneO_read (by decide)]; rfl
  · exact absurd ⟨ha, hb⟩ h2
theorem ans_cut {c : Cf} {l : List R} (h : IsOr c l) {a : Nat} (ha : a ≤ 2147483647) : doOR c l ⟨5, a, 0, 0⟩ = (match Tb.get l a with | some v => (cut l a, 0, (((v + 1) % 4294967296 : Nat) : Int), []) | none => (l, 6, 0, [])) := by
  rcases chk_one h 5 a (by simp) with ⟨_, h2⟩ | ⟨h2, _⟩
  · rw [doOR_done h h2]; exact doneO_cut
  · exact absurd ha h2
theorem get_cut (l : List R) (k : Nat) : Tb.get (cut l k) k = none := get_none_of fun x hx => by
  have := (List.mem_filter.1 hx).2
  simpa using this
theorem getR_put {l : List R} (hu : Up l) (k v : Nat) : getR (put l k v) k = (0, (((v + 1) % 4294967296 : Nat) : Int)) := by unfold getR; rw [get_put k v hu]
theorem getR_cut (l : List R) (k : Nat) : getR (cut l k) k = (6, 0) := by unfold getR; rw [get_cut]
theorem ndoE {c : Cf} {l : List R} (h : IsOr c l) : doOE c l = 0 := by
  rcases doOE_cases c l with ⟨h1, _⟩ | ⟨_, h2⟩
  · exact h1
  · exact absurd h h2
/-- A put, as it turns out. -/
theorem ans_put (c : Cf) (l : List R) (a b : Nat) : (doOE c l ≠ 0 ∨ (doOR c l ⟨4, a, b, 0⟩).2.1 ≠ 0) ∨ (IsOr c l ∧ IsOr c (put l a b) ∧ a ≤ 2147483647 ∧ b ≤ 2147483647 ∧ ∃ y, doOR c l ⟨4, a, b, 0⟩ = (put l a b, 0, y, [])) := by
  rcases doOE_cases c l with ⟨h, ht⟩ | ⟨h, _⟩
  · rcases chk_pair ht 4 a b (by simp) with ⟨ha, hb, h2⟩ | ⟨_, h2⟩
    · have hd := doOR_done ht h2
      simp only at hd
      rw [doneO_put] at hd
      cases hg : Tb.get l a with
      | some v =>
        rw [hg] at hd
        exact .inr ⟨ht, orput_tab ht ha hb (.inl (by rw [hg]; rfl)), ha, hb, _, hd⟩
      | none =>
        rw [hg] at hd
        dsimp only at hd
        by_cases hc : c.cap.toNat ≤ l.length
        · rw [if_pos hc] at hd
          exact .inl (.inr (by rw [hd]; simp))
        · rw [if_neg hc] at hd
          exact .inr ⟨ht, orput_tab ht ha hb (.inr hc), ha, hb, _, hd⟩
    · exact .inl (.inr (by rw [doOR_bad ht (by rw [h2]; decide), h2]; simp))
  · exact .inl (.inl h)
end Go.Proofs.YtohllaolbebogaaDoor
