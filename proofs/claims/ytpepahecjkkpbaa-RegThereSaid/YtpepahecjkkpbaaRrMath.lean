/- The levels of a row: plain numbers. -/
import Derived.Test.YtpepahecjkkpbaaRkMath
namespace Go.Proofs.Ytpepahecjkkpbaa.Rk

/-- So many there are h levels up. -/
def items (m w h : Nat) : Nat := (m + w ^ h - 1) / w ^ h
/-- May such a row be? -/
def mayBe (m w : Int) : Bool := decide (0 ≤ m ∧ m ≤ 32 ∧ 2 ≤ w ∧ w ≤ 4)
theorem mayBe_nat {m w : Int} (h : mayBe m w = true) : ∃ M W : Nat, m = M ∧ w = W ∧ M ≤ 32 ∧ 2 ≤ W ∧ W ≤ 4 := by
  have := (of_decide_eq_true h : _ ∧ _ ∧ _ ∧ _)
  exact ⟨m.toNat, w.toNat, by omega, by omega, by omega, by omega, by omega⟩
theorem mayBe_mk {m w : Nat} (h1 : m ≤ 32) (h2 : 2 ≤ w) (h3 : w ≤ 4) : mayBe m w = true := by unfold mayBe; simp; omega
theorem mayBe_f {m w : Int} (h : ¬ (0 ≤ m ∧ m ≤ 32 ∧ 2 ≤ w ∧ w ≤ 4)) : mayBe m w = false := decide_eq_false h
theorem mayBe_false {m w : Int} (h : mayBe m w = false) : ¬ (0 ≤ m ∧ m ≤ 32 ∧ 2 ≤ w ∧ w ≤ 4) := of_decide_eq_false h

/-- The power that stands in the table's cell j. -/
def powAt (j : Nat) : Int := (((2 + j / 5) ^ (j % 5) : Nat) : Int)

theorem powAt_at {k h : Nat} (hh : h ≤ 4) : powAt (k * 5 + h) = (((k + 2) ^ h : Nat) : Int) := by
  unfold powAt
  rw [show (k * 5 + h) / 5 = k by omega, show (k * 5 + h) % 5 = h by omega, Nat.add_comm 2 k]
theorem pow_bounds : ∀ (k : Fin 3) (h : Fin 5), 1 ≤ (k.val + 2) ^ h.val ∧ (k.val + 2) ^ h.val ≤ 256 := by decide +kernel

/-- All that is asked of items, at every row and level that may be. -/
theorem items_all : ∀ (m : Fin 33) (w : Fin 3) (h : Fin 5), items m.val (w.val + 2) 0 = m.val ∧ items m.val (w.val + 2) h.val ≤ 32 ∧
    (items m.val (w.val + 2) h.val + (w.val + 2) - 1) / (w.val + 2) = items m.val (w.val + 2) (h.val + 1) ∧ items m.val (w.val + 2) 4 ≤ w.val + 2 ∧ (1 ≤ m.val → 1 ≤ items m.val (w.val + 2) h.val) := by decide +kernel
theorem items_zero (m w : Nat) : items m w 0 = m := by simp [items]
theorem items_le {m w h : Nat} (hm : m ≤ 32) (h2 : 2 ≤ w) (h4 : w ≤ 4) (hh : h ≤ 4) : items m w h ≤ 32 := by
  have := (items_all ⟨m, by omega⟩ ⟨w - 2, by omega⟩ ⟨h, by omega⟩).2.1
  simp only [show w - 2 + 2 = w by omega] at this
  exact this
theorem items_succ {m w h : Nat} (hm : m ≤ 32) (h2 : 2 ≤ w) (h4 : w ≤ 4) (hh : h ≤ 4) : (items m w h + w - 1) / w = items m w (h + 1) := by
  have := (items_all ⟨m, by omega⟩ ⟨w - 2, by omega⟩ ⟨h, by omega⟩).2.2.1
  simp only [show w - 2 + 2 = w by omega] at this
  exact this
theorem items_four {m w : Nat} (hm : m ≤ 32) (h2 : 2 ≤ w) (h4 : w ≤ 4) : items m w 4 ≤ w := by
  have := (items_all ⟨m, by omega⟩ ⟨w - 2, by omega⟩ ⟨0, by omega⟩).2.2.2.1
  simp only [show w - 2 + 2 = w by omega] at this
  exact this
theorem items_pos {m w h : Nat} (hm : m ≤ 32) (h1 : 1 ≤ m) (h2 : 2 ≤ w) (h4 : w ≤ 4) (hh : h ≤ 4) : 1 ≤ items m w h := by
  have := (items_all ⟨m, by omega⟩ ⟨w - 2, by omega⟩ ⟨h, by omega⟩).2.2.2.2
  simp only [show w - 2 + 2 = w by omega] at this
  exact this h1

/-- The top level, if it is not below h. -/
def topFrom (m w : Nat) : Nat → Nat → Nat
  | h, 0 => h
  | h, f + 1 => if items m w h ≤ w then h else topFrom m w (h + 1) f
def top (m w : Nat) : Nat := topFrom m w 0 4
theorem topFrom_le (m w : Nat) : ∀ f h, topFrom m w h f ≤ h + f
  | 0, h => Nat.le_refl _
  | f + 1, h => by
    unfold topFrom
    split
    · omega
    · have := topFrom_le m w f (h + 1); omega
theorem topFrom_ge (m w : Nat) : ∀ f h, h ≤ topFrom m w h f
  | 0, h => Nat.le_refl _
  | f + 1, h => by
    unfold topFrom
    split
    · omega
    · have := topFrom_ge m w f (h + 1); omega
theorem topFrom_below (m w : Nat) : ∀ f h j, h ≤ j → j < topFrom m w h f → w < items m w j
  | 0, h, j, h1, h2 => by unfold topFrom at h2; omega
  | f + 1, h, j, h1, h2 => by
    unfold topFrom at h2
    split at h2
    · omega
    · rename_i hn
      by_cases e : j = h
      · subst e; omega
      · exact topFrom_below m w f (h + 1) j (by omega) h2
theorem topFrom_at (m w : Nat) : ∀ f h, items m w (h + f) ≤ w → items m w (topFrom m w h f) ≤ w
  | 0, h, h1 => by unfold topFrom; exact h1
  | f + 1, h, h1 => by
    unfold topFrom
    split
    · assumption
    · exact topFrom_at m w f (h + 1) (by rw [show h + 1 + f = h + (f + 1) by omega]; exact h1)
theorem top_le (m w : Nat) : top m w ≤ 4 := by have := topFrom_le m w 4 0; unfold top; omega
theorem top_below {m w j : Nat} (h : j < top m w) : w < items m w j := topFrom_below m w 4 0 j (by omega) h
theorem top_at {m w : Nat} (hm : m ≤ 32) (h2 : 2 ≤ w) (h4 : w ≤ 4) : items m w (top m w) ≤ w := topFrom_at m w 4 0 (items_four hm h2 h4)
/-- The first level that has so few is the top. -/
theorem top_first {m w h : Nat} (hb : ∀ j, j < h → w < items m w j) (ha : items m w h ≤ w) (hm : m ≤ 32) (h2 : 2 ≤ w) (hw : w ≤ 4) : top m w = h := by
  have a := top_at hm h2 hw
  rcases Nat.lt_trichotomy (top m w) h with g | g | g
  · have := hb _ g; omega
  · exact g
  · have := top_below g; omega

/-- Count's answer. -/
def cnt (m w h : Int) : Int := (items m.toNat w.toNat h.toNat : Nat)
def okC (m w h : Int) : Bool := mayBe m w && decide (0 ≤ h ∧ h ≤ 4)
theorem okC_nat {m w h : Int} (g : okC m w h = true) : ∃ M W H : Nat, m = M ∧ w = W ∧ h = H ∧ M ≤ 32 ∧ 2 ≤ W ∧ W ≤ 4 ∧ H ≤ 4 := by
  unfold okC at g
  rw [Bool.and_eq_true] at g
  obtain ⟨M, W, rfl, rfl, h1, h2, h3⟩ := mayBe_nat g.1
  have := of_decide_eq_true g.2
  exact ⟨M, W, h.toNat, rfl, rfl, by omega, h1, h2, h3, by omega⟩
theorem okC_mk {m w h : Nat} (h1 : m ≤ 32) (h2 : 2 ≤ w) (h3 : w ≤ 4) (h4 : h ≤ 4) : okC m w h = true := by
  unfold okC; rw [mayBe_mk h1 h2 h3]; simp; omega
theorem okC_f1 {m w h : Int} (g : mayBe m w = false) : okC m w h = false := by unfold okC; rw [g]; rfl
theorem okC_f2 {m w h : Int} (g : ¬ (0 ≤ h ∧ h ≤ 4)) : okC m w h = false := by
  unfold okC
  rw [decide_eq_false g]
  exact Bool.and_false _
/-- Last's answer. -/
def lst (m w h i : Int) : Int := min ((i + 1) * w) (cnt m w (h - 1)) - 1
def okL (m w h i : Int) : Bool := mayBe m w && decide (1 ≤ h ∧ h ≤ 4 ∧ 0 ≤ i ∧ i < cnt m w h)
theorem okL_f1 {m w h i : Int} (g : mayBe m w = false) : okL m w h i = false := by unfold okL; rw [g]; rfl
theorem okL_f2 {m w h i : Int} (g : ¬ (1 ≤ h ∧ h ≤ 4 ∧ 0 ≤ i ∧ i < cnt m w h)) : okL m w h i = false := by
  unfold okL
  rw [decide_eq_false g]
  exact Bool.and_false _
theorem okL_mk {m w h i : Int} (g : mayBe m w = true) (g2 : 1 ≤ h ∧ h ≤ 4 ∧ 0 ≤ i ∧ i < cnt m w h) : okL m w h i = true := by
  unfold okL
  rw [g, decide_eq_true g2]
  rfl

/-- May such a row have levels? -/
def okV (m w : Int) : Bool := mayBe m w && decide (1 ≤ m)
theorem okV_nat {m w : Int} (g : okV m w = true) : ∃ M W : Nat, m = M ∧ w = W ∧ 1 ≤ M ∧ M ≤ 32 ∧ 2 ≤ W ∧ W ≤ 4 := by
  unfold okV at g
  rw [Bool.and_eq_true] at g
  obtain ⟨M, W, rfl, rfl, h1, h2, h3⟩ := mayBe_nat g.1
  have := of_decide_eq_true g.2
  exact ⟨M, W, rfl, rfl, by omega, h1, h2, h3⟩
theorem okV_mk {m w : Nat} (h0 : 1 ≤ m) (h1 : m ≤ 32) (h2 : 2 ≤ w) (h3 : w ≤ 4) : okV m w = true := by
  unfold okV; rw [mayBe_mk h1 h2 h3]; simp; omega
theorem okV_false {m w : Int} (g : okV m w = false) : mayBe m w = false ∨ m = 0 := by
  unfold okV at g
  cases h : mayBe m w with
  | false => exact .inl rfl
  | true =>
    rw [h, Bool.true_and] at g
    obtain ⟨M, W, rfl, rfl, h1, h2, h3⟩ := mayBe_nat h
    have := of_decide_eq_false g
    exact .inr (by omega)
/-- How many levels, and how many items each has. -/
def lvN (m w : Int) : Nat := if okV m w then top m.toNat w.toNat + 1 else 0
def lvF (m w : Int) (j : Nat) : Int := (items m.toNat w.toNat j : Nat)
theorem lvN_le (m w : Int) : lvN m w ≤ 5 := by
  have := top_le m.toNat w.toNat
  unfold lvN
  split <;> omega

/-- Rounded up: the first number of whole widths that is not below. -/
theorem ceil_at {q n j t : Nat} (ht : t = j * n) (h1 : q ≤ t) (h2 : t < q + n) : (q + n - 1) / n = j := by
  subst ht
  refine Nat.div_eq_of_lt_le (by omega) ?_
  rw [Nat.succ_mul]
  omega
theorem le_mul {j t n : Nat} (ht : t = j * n) (hn : 2 ≤ n) : j ≤ t := by rw [ht]; exact Nat.le_mul_of_pos_right j (by omega)
theorem mul_step {j t n : Nat} (ht : t = j * n) : t + n = (j + 1) * n := by rw [ht, Nat.succ_mul]

/-- The last place below k that the item i is for. -/
def lastTo (n i k : Nat) : Nat := if i * n < k then min ((i + 1) * n) k - 1 else 0
theorem lastTo_in {n i k : Nat} (hn : 0 < n) (h : k / n = i) : lastTo n i (k + 1) = k := by
  have h1 : i * n ≤ k := by rw [← h]; exact Nat.div_mul_le_self k n
  have h2 : k < (i + 1) * n := by rw [← h, Nat.mul_comm]; exact Nat.lt_mul_div_succ k hn
  unfold lastTo
  rw [if_pos (by omega)]
  omega
theorem lastTo_out {n i k : Nat} (hn : 0 < n) (h : k / n ≠ i) : lastTo n i (k + 1) = lastTo n i k := by
  unfold lastTo
  by_cases h1 : i * n < k
  · have h2 : (i + 1) * n ≤ k := by
      rcases Nat.lt_or_ge k ((i + 1) * n) with g | g
      · exact absurd (Nat.div_eq_of_lt_le (by omega) g) h
      · exact g
    rw [if_pos (by omega), if_pos h1]
    omega
  · by_cases h3 : i * n = k
    · exact absurd (by rw [← h3]; exact Nat.mul_div_cancel i hn) h
    · rw [if_neg (by omega), if_neg h1]
theorem lastTo_end {m n h i : Nat} (hm : m ≤ 32) (h2 : 2 ≤ n) (h4 : n ≤ 4) (hh : h ≤ 3) (hi : i < items m n (h + 1)) : ((lastTo n i (items m n h) : Nat) : Int) = lst m n ((h + 1 : Nat) : Int) i := by
  have e := items_succ hm h2 h4 (show h ≤ 4 by omega)
  have g : (i + 1) * n ≤ items m n h + n - 1 := by
    have : i + 1 ≤ (items m n h + n - 1) / n := by rw [e]; exact hi
    exact (Nat.le_div_iff_mul_le (by omega)).1 this
  have g2 : i * n < items m n h := by rw [Nat.succ_mul] at g; omega
  have e2 : ((h + 1 : Nat) : Int) - 1 = (h : Int) := by omega
  have e3 : ((i : Int) + 1) * n = (((i + 1) * n : Nat) : Int) := by simp
  unfold lst lastTo cnt
  rw [e2, e3, if_pos g2]
  simp only [Int.toNat_natCast]
  have g3 : 0 < (i + 1) * n := Nat.mul_pos (by omega) (by omega)
  generalize (i + 1) * n = a at *
  omega

open Go.RowKit in
theorem div_is {k n i : Nat} (hk : k < 100) : (wrap64 ((k : Int) / n) == (i : Int)) = decide (k / n = i) := by
  have e : (k : Int) / n = ((k / n : Nat) : Int) := by simp
  have l : k / n ≤ k := Nat.div_le_self _ _
  rw [e]
  generalize k / n = x at *
  have e2 : wrap64 (x : Int) = x := by unfold wrap64; omega
  rw [e2, Bool.eq_iff_iff]
  simp
  omega

theorem okC_false {m w h : Int} (g : okC m w h = false) : ¬ (0 ≤ m ∧ m ≤ 32 ∧ (2 ≤ w ∧ w ≤ 4) ∧ 0 ≤ h ∧ h ≤ 4) := fun a => by
  unfold okC mayBe at g
  rw [decide_eq_true (by omega), decide_eq_true (by omega)] at g
  cases g
theorem okL_nat {m w h i : Int} (g : okL m w h i = true) : ∃ M W H I : Nat, m = M ∧ w = W ∧ h = ((H + 1 : Nat) : Int) ∧ i = I ∧ M ≤ 32 ∧ 2 ≤ W ∧ W ≤ 4 ∧ H ≤ 3 ∧ I < items M W (H + 1) := by
  unfold okL at g
  rw [Bool.and_eq_true] at g
  obtain ⟨M, W, rfl, rfl, h1, h2, h3⟩ := mayBe_nat g.1
  obtain ⟨a, b, c, d⟩ := (of_decide_eq_true g.2 : _ ∧ _ ∧ _ ∧ _)
  obtain ⟨H, rfl⟩ : ∃ H : Nat, h = ((H + 1 : Nat) : Int) := ⟨h.toNat - 1, by omega⟩
  unfold cnt at d
  simp only [Int.toNat_natCast] at d
  exact ⟨M, W, H, i.toNat, rfl, rfl, rfl, by omega, h1, h2, h3, by omega, by omega⟩

theorem okL_f3 {m w h i : Int} (g : ¬ (1 ≤ m ∧ m ≤ 32 ∧ (2 ≤ w ∧ w ≤ 4) ∧ 1 ≤ h ∧ h ≤ 4 ∧ 0 ≤ i)) : okL m w h i = false := by
  cases e : okL m w h i with
  | false => rfl
  | true =>
    obtain ⟨M, W, H, I, rfl, rfl, rfl, rfl, h1, h2, h3, h4, h5⟩ := okL_nat e
    exfalso
    rcases Nat.eq_zero_or_pos M with z | z
    · subst z
      have := items_le (m := 0) (h := H + 1) (by omega) h2 h3 (by omega)
      have e0 : items 0 W (H + 1) = 0 := by
        unfold items
        have := Nat.pow_pos (n := H + 1) (show 0 < W by omega)
        exact Nat.div_eq_of_lt (by omega)
      omega
    · exact g ⟨by omega, by omega, by omega, by omega, by omega, by omega⟩
theorem okV_f {m w : Int} (g : okV m w = false) : ¬ (1 ≤ m ∧ m ≤ 32 ∧ (2 ≤ w ∧ w ≤ 4)) := fun a => by
  unfold okV mayBe at g
  rw [decide_eq_true (by omega), decide_eq_true (by omega)] at g
  cases g
end Go.Proofs.Ytpepahecjkkpbaa.Rk
