/- The program of an index, the program's own: which kinds a Pc has; is a kind one of them. -/
import Derived.Test.YtmkehailohgebaaDoorTpK
namespace Go.Proofs.YtmkehailohgebaaDoor
open Go.RowKit Go.Lib Pt Opn

/-- The kinds that the table has by a Pc. -/
def kindsP (p : Nat) : List Nat :=
  if p ≤ 1 then [4, 5, 6, 7, 8] else if p = 3 then [7] else if p = 4 ∨ p = 5 ∨ p = 6 ∨ p = 7 ∨ p = 22 ∨ p = 24 then [4] else if p = 8 ∨ p = 9 ∨ p = 11 then [4, 5]
  else if p = 12 ∨ p = 13 ∨ p = 14 ∨ p = 15 ∨ p = 25 then [5] else if p = 16 ∨ p = 17 then [8] else if p = 20 then [7, 8] else if p = 21 then [6, 7, 5] else if p = 23 then [6, 4] else []
theorem kindsP_none {p : Nat} (h : ¬ p ≤ 25) : kindsP p = [] := by
  unfold kindsP
  rw [if_neg (by omega), if_neg (by omega), if_neg (by omega), if_neg (by omega), if_neg (by omega), if_neg (by omega), if_neg (by omega), if_neg (by omega), if_neg (by omega)]
theorem kinds_there (k p : Nat) : ThereX k p ↔ k ∈ kindsP p := by
  by_cases hp : p ≤ 25
  · have hps : p = 0 ∨ p = 1 ∨ p = 2 ∨ p = 3 ∨ p = 4 ∨ p = 5 ∨ p = 6 ∨ p = 7 ∨ p = 8 ∨ p = 9 ∨ p = 10 ∨ p = 11 ∨ p = 12 ∨ p = 13 ∨ p = 14 ∨ p = 15 ∨ p = 16 ∨ p = 17 ∨ p = 18 ∨ p = 19 ∨ p = 20 ∨ p = 21 ∨ p = 22 ∨ p = 23 ∨ p = 24 ∨ p = 25 := by omega
    unfold ThereX pcsX kindsP
    rcases hps with rfl | rfl | rfl | rfl | rfl | rfl | rfl | rfl | rfl | rfl | rfl | rfl | rfl | rfl | rfl | rfl | rfl | rfl | rfl | rfl | rfl | rfl | rfl | rfl | rfl | rfl <;>
    · by_cases h4 : k = 4
      · subst h4; simp
      · by_cases h5 : k = 5
        · subst h5; simp
        · by_cases h6 : k = 6
          · subst h6; simp
          · by_cases h7 : k = 7
            · subst h7; simp
            · by_cases h8 : k = 8
              · subst h8; simp
              · simp [h4, h5, h6, h7, h8]
  · rw [kindsP_none hp]
    unfold ThereX pcsX
    constructor
    · intro h
      exfalso
      (repeat' split at h) <;> simp at h <;> omega
    · intro h
      simp at h
/-- A list of bytes, as it lies. -/
def Bys (A : Option Addr) (l : List Nat) (W : World) : Prop := ∀ i, (h : i < l.length) → ∃ g, A = some ⟨g, 0, none⟩ ∧ W.cell? ⟨g, i, none⟩ = some (.int .u8 (l[i] : Nat))
theorem Bys.below {A : Option Addr} {l : List Nat} {W X : World} (h : Bys A l W) (hb : Below W.heap.size W X) : Bys A l X := fun i hi => by
  obtain ⟨g, e, hc⟩ := h i hi
  exact ⟨g, e, (hb.cell (World.block_lt_of_cell? _ _ hc)).trans hc⟩
def RetK (l : List Nat) (w : World) (e : Ending) (w' : World) : Prop := ∃ (A : Option Addr) (cp : Nat), e = .returned (.slice A (l.length : Nat) cp) ∧ l.length ≤ cp ∧ cp ≤ 100 ∧ Bys A l w' ∧ Below w.heap.size w w'
set_option maxRecDepth 100000 in
set_option maxHeartbeats 16000000 in
theorem pKindsAt_any (p : Nat) (w : World) : Calls Tryd.prog 55 #[.int .u8 p] w (RetK (kindsP p) w) := by
  by_cases hp : p ≤ 25
  · have hps : p = 0 ∨ p = 1 ∨ p = 2 ∨ p = 3 ∨ p = 4 ∨ p = 5 ∨ p = 6 ∨ p = 7 ∨ p = 8 ∨ p = 9 ∨ p = 10 ∨ p = 11 ∨ p = 12 ∨ p = 13 ∨ p = 14 ∨ p = 15 ∨ p = 16 ∨ p = 17 ∨ p = 18 ∨ p = 19 ∨ p = 20 ∨ p = 21 ∨ p = 22 ∨ p = 23 ∨ p = 24 ∨ p = 25 := by omega
    rcases hps with rfl | rfl | rfl | rfl | rfl | rfl | rfl | rfl | rfl | rfl | rfl | rfl | rfl | rfl | rfl | rfl | rfl | rfl | rfl | rfl | rfl | rfl | rfl | rfl | rfl | rfl
    · rw [show ((0 : Nat) : Int) = 0 from rfl]
      go_enter Tryd.func55, Tryd.ntmps55
      go_wp2
      go_ret
      refine ⟨some ⟨w.heap.size, 0, none⟩, 5, rfl, by decide, by decide, fun i hi => ⟨w.heap.size, rfl, ?_⟩, below_one w _⟩
      rw [show kindsP 0 = [4, 5, 6, 7, 8] from rfl] at hi
      simp only [show kindsP 0 = [4, 5, 6, 7, 8] from rfl]
      obtain rfl | rfl | rfl | rfl | rfl : i = 0 ∨ i = 1 ∨ i = 2 ∨ i = 3 ∨ i = 4 := by simp at hi; omega
      all_goals simp [go_sem]
    · rw [show ((1 : Nat) : Int) = 1 from rfl]
      go_enter Tryd.func55, Tryd.ntmps55
      go_wp2
      go_ret
      refine ⟨some ⟨w.heap.size, 0, none⟩, 5, rfl, by decide, by decide, fun i hi => ⟨w.heap.size, rfl, ?_⟩, below_one w _⟩
      rw [show kindsP 1 = [4, 5, 6, 7, 8] from rfl] at hi
      simp only [show kindsP 1 = [4, 5, 6, 7, 8] from rfl]
      obtain rfl | rfl | rfl | rfl | rfl : i = 0 ∨ i = 1 ∨ i = 2 ∨ i = 3 ∨ i = 4 := by simp at hi; omega
      all_goals simp [go_sem]
    · rw [show ((2 : Nat) : Int) = 2 from rfl]
      go_enter Tryd.func55, Tryd.ntmps55
      go_wp2
      go_ret
      exact ⟨none, 0, rfl, Nat.le_refl _, by decide, fun i hi => absurd hi (by simp [kindsP]), Below.refl _ _⟩
    · rw [show ((3 : Nat) : Int) = 3 from rfl]
      go_enter Tryd.func55, Tryd.ntmps55
      go_wp2
      go_ret
      refine ⟨some ⟨w.heap.size, 0, none⟩, 1, rfl, by decide, by decide, fun i hi => ⟨w.heap.size, rfl, ?_⟩, below_one w _⟩
      rw [show kindsP 3 = [7] from rfl] at hi
      simp only [show kindsP 3 = [7] from rfl]
      obtain rfl : i = 0 := by simp at hi; omega
      simp [go_sem]
    · rw [show ((4 : Nat) : Int) = 4 from rfl]
      go_enter Tryd.func55, Tryd.ntmps55
      go_wp2
      go_ret
      refine ⟨some ⟨w.heap.size, 0, none⟩, 1, rfl, by decide, by decide, fun i hi => ⟨w.heap.size, rfl, ?_⟩, below_one w _⟩
      rw [show kindsP 4 = [4] from rfl] at hi
      simp only [show kindsP 4 = [4] from rfl]
      obtain rfl : i = 0 := by simp at hi; omega
      simp [go_sem]
    · rw [show ((5 : Nat) : Int) = 5 from rfl]
      go_enter Tryd.func55, Tryd.ntmps55
      go_wp2
      go_ret
      refine ⟨some ⟨w.heap.size, 0, none⟩, 1, rfl, by decide, by decide, fun i hi => ⟨w.heap.size, rfl, ?_⟩, below_one w _⟩
      rw [show kindsP 5 = [4] from rfl] at hi
      simp only [show kindsP 5 = [4] from rfl]
      obtain rfl : i = 0 := by simp at hi; omega
      simp [go_sem]
    · rw [show ((6 : Nat) : Int) = 6 from rfl]
      go_enter Tryd.func55, Tryd.ntmps55
      go_wp2
      go_ret
      refine ⟨some ⟨w.heap.size, 0, none⟩, 1, rfl, by decide, by decide, fun i hi => ⟨w.heap.size, rfl, ?_⟩, below_one w _⟩
      rw [show kindsP 6 = [4] from rfl] at hi
      simp only [show kindsP 6 = [4] from rfl]
      obtain rfl : i = 0 := by simp at hi; omega
      simp [go_sem]
    · rw [show ((7 : Nat) : Int) = 7 from rfl]
      go_enter Tryd.func55, Tryd.ntmps55
      go_wp2
      go_ret
      refine ⟨some ⟨w.heap.size, 0, none⟩, 1, rfl, by decide, by decide, fun i hi => ⟨w.heap.size, rfl, ?_⟩, below_one w _⟩
      rw [show kindsP 7 = [4] from rfl] at hi
      simp only [show kindsP 7 = [4] from rfl]
      obtain rfl : i = 0 := by simp at hi; omega
      simp [go_sem]
    · rw [show ((8 : Nat) : Int) = 8 from rfl]
      go_enter Tryd.func55, Tryd.ntmps55
      go_wp2
      go_ret
      refine ⟨some ⟨w.heap.size, 0, none⟩, 2, rfl, by decide, by decide, fun i hi => ⟨w.heap.size, rfl, ?_⟩, below_one w _⟩
      rw [show kindsP 8 = [4, 5] from rfl] at hi
      simp only [show kindsP 8 = [4, 5] from rfl]
      obtain rfl | rfl : i = 0 ∨ i = 1 := by simp at hi; omega
      all_goals simp [go_sem]
    · rw [show ((9 : Nat) : Int) = 9 from rfl]
      go_enter Tryd.func55, Tryd.ntmps55
      go_wp2
      go_ret
      refine ⟨some ⟨w.heap.size, 0, none⟩, 2, rfl, by decide, by decide, fun i hi => ⟨w.heap.size, rfl, ?_⟩, below_one w _⟩
      rw [show kindsP 9 = [4, 5] from rfl] at hi
      simp only [show kindsP 9 = [4, 5] from rfl]
      obtain rfl | rfl : i = 0 ∨ i = 1 := by simp at hi; omega
      all_goals simp [go_sem]
    · rw [show ((10 : Nat) : Int) = 10 from rfl]
      go_enter Tryd.func55, Tryd.ntmps55
      go_wp2
      go_ret
      exact ⟨none, 0, rfl, Nat.le_refl _, by decide, fun i hi => absurd hi (by simp [kindsP]), Below.refl _ _⟩
    · rw [show ((11 : Nat) : Int) = 11 from rfl]
      go_enter Tryd.func55, Tryd.ntmps55
      go_wp2
      go_ret
      refine ⟨some ⟨w.heap.size, 0, none⟩, 2, rfl, by decide, by decide, fun i hi => ⟨w.heap.size, rfl, ?_⟩, below_one w _⟩
      rw [show kindsP 11 = [4, 5] from rfl] at hi
      simp only [show kindsP 11 = [4, 5] from rfl]
      obtain rfl | rfl : i = 0 ∨ i = 1 := by simp at hi; omega
      all_goals simp [go_sem]
    · rw [show ((12 : Nat) : Int) = 12 from rfl]
      go_enter Tryd.func55, Tryd.ntmps55
      go_wp2
      go_ret
      refine ⟨some ⟨w.heap.size, 0, none⟩, 1, rfl, by decide, by decide, fun i hi => ⟨w.heap.size, rfl, ?_⟩, below_one w _⟩
      rw [show kindsP 12 = [5] from rfl] at hi
      simp only [show kindsP 12 = [5] from rfl]
      obtain rfl : i = 0 := by simp at hi; omega
      simp [go_sem]
    · rw [show ((13 : Nat) : Int) = 13 from rfl]
      go_enter Tryd.func55, Tryd.ntmps55
      go_wp2
      go_ret
      refine ⟨some ⟨w.heap.size, 0, none⟩, 1, rfl, by decide, by decide, fun i hi => ⟨w.heap.size, rfl, ?_⟩, below_one w _⟩
      rw [show kindsP 13 = [5] from rfl] at hi
      simp only [show kindsP 13 = [5] from rfl]
      obtain rfl : i = 0 := by simp at hi; omega
      simp [go_sem]
    · rw [show ((14 : Nat) : Int) = 14 from rfl]
      go_enter Tryd.func55, Tryd.ntmps55
      go_wp2
      go_ret
      refine ⟨some ⟨w.heap.size, 0, none⟩, 1, rfl, by decide, by decide, fun i hi => ⟨w.heap.size, rfl, ?_⟩, below_one w _⟩
      rw [show kindsP 14 = [5] from rfl] at hi
      simp only [show kindsP 14 = [5] from rfl]
      obtain rfl : i = 0 := by simp at hi; omega
      simp [go_sem]
    · rw [show ((15 : Nat) : Int) = 15 from rfl]
      go_enter Tryd.func55, Tryd.ntmps55
      go_wp2
      go_ret
      refine ⟨some ⟨w.heap.size, 0, none⟩, 1, rfl, by decide, by decide, fun i hi => ⟨w.heap.size, rfl, ?_⟩, below_one w _⟩
      rw [show kindsP 15 = [5] from rfl] at hi
      simp only [show kindsP 15 = [5] from rfl]
      obtain rfl : i = 0 := by simp at hi; omega
      simp [go_sem]
    · rw [show ((16 : Nat) : Int) = 16 from rfl]
      go_enter Tryd.func55, Tryd.ntmps55
      go_wp2
      go_ret
      refine ⟨some ⟨w.heap.size, 0, none⟩, 1, rfl, by decide, by decide, fun i hi => ⟨w.heap.size, rfl, ?_⟩, below_one w _⟩
      rw [show kindsP 16 = [8] from rfl] at hi
      simp only [show kindsP 16 = [8] from rfl]
      obtain rfl : i = 0 := by simp at hi; omega
      simp [go_sem]
    · rw [show ((17 : Nat) : Int) = 17 from rfl]
      go_enter Tryd.func55, Tryd.ntmps55
      go_wp2
      go_ret
      refine ⟨some ⟨w.heap.size, 0, none⟩, 1, rfl, by decide, by decide, fun i hi => ⟨w.heap.size, rfl, ?_⟩, below_one w _⟩
      rw [show kindsP 17 = [8] from rfl] at hi
      simp only [show kindsP 17 = [8] from rfl]
      obtain rfl : i = 0 := by simp at hi; omega
      simp [go_sem]
    · rw [show ((18 : Nat) : Int) = 18 from rfl]
      go_enter Tryd.func55, Tryd.ntmps55
      go_wp2
      go_ret
      exact ⟨none, 0, rfl, Nat.le_refl _, by decide, fun i hi => absurd hi (by simp [kindsP]), Below.refl _ _⟩
    · rw [show ((19 : Nat) : Int) = 19 from rfl]
      go_enter Tryd.func55, Tryd.ntmps55
      go_wp2
      go_ret
      exact ⟨none, 0, rfl, Nat.le_refl _, by decide, fun i hi => absurd hi (by simp [kindsP]), Below.refl _ _⟩
    · rw [show ((20 : Nat) : Int) = 20 from rfl]
      go_enter Tryd.func55, Tryd.ntmps55
      go_wp2
      go_ret
      refine ⟨some ⟨w.heap.size, 0, none⟩, 2, rfl, by decide, by decide, fun i hi => ⟨w.heap.size, rfl, ?_⟩, below_one w _⟩
      rw [show kindsP 20 = [7, 8] from rfl] at hi
      simp only [show kindsP 20 = [7, 8] from rfl]
      obtain rfl | rfl : i = 0 ∨ i = 1 := by simp at hi; omega
      all_goals simp [go_sem]
    · rw [show ((21 : Nat) : Int) = 21 from rfl]
      go_enter Tryd.func55, Tryd.ntmps55
      go_wp2
      go_ret
      refine ⟨some ⟨w.heap.size, 0, none⟩, 3, rfl, by decide, by decide, fun i hi => ⟨w.heap.size, rfl, ?_⟩, below_one w _⟩
      rw [show kindsP 21 = [6, 7, 5] from rfl] at hi
      simp only [show kindsP 21 = [6, 7, 5] from rfl]
      obtain rfl | rfl | rfl : i = 0 ∨ i = 1 ∨ i = 2 := by simp at hi; omega
      all_goals simp [go_sem]
    · rw [show ((22 : Nat) : Int) = 22 from rfl]
      go_enter Tryd.func55, Tryd.ntmps55
      go_wp2
      go_ret
      refine ⟨some ⟨w.heap.size, 0, none⟩, 1, rfl, by decide, by decide, fun i hi => ⟨w.heap.size, rfl, ?_⟩, below_one w _⟩
      rw [show kindsP 22 = [4] from rfl] at hi
      simp only [show kindsP 22 = [4] from rfl]
      obtain rfl : i = 0 := by simp at hi; omega
      simp [go_sem]
    · rw [show ((23 : Nat) : Int) = 23 from rfl]
      go_enter Tryd.func55, Tryd.ntmps55
      go_wp2
      go_ret
      refine ⟨some ⟨w.heap.size, 0, none⟩, 2, rfl, by decide, by decide, fun i hi => ⟨w.heap.size, rfl, ?_⟩, below_one w _⟩
      rw [show kindsP 23 = [6, 4] from rfl] at hi
      simp only [show kindsP 23 = [6, 4] from rfl]
      obtain rfl | rfl : i = 0 ∨ i = 1 := by simp at hi; omega
      all_goals simp [go_sem]
    · rw [show ((24 : Nat) : Int) = 24 from rfl]
      go_enter Tryd.func55, Tryd.ntmps55
      go_wp2
      go_ret
      refine ⟨some ⟨w.heap.size, 0, none⟩, 1, rfl, by decide, by decide, fun i hi => ⟨w.heap.size, rfl, ?_⟩, below_one w _⟩
      rw [show kindsP 24 = [4] from rfl] at hi
      simp only [show kindsP 24 = [4] from rfl]
      obtain rfl : i = 0 := by simp at hi; omega
      simp [go_sem]
    · rw [show ((25 : Nat) : Int) = 25 from rfl]
      go_enter Tryd.func55, Tryd.ntmps55
      go_wp2
      go_ret
      refine ⟨some ⟨w.heap.size, 0, none⟩, 1, rfl, by decide, by decide, fun i hi => ⟨w.heap.size, rfl, ?_⟩, below_one w _⟩
      rw [show kindsP 25 = [5] from rfl] at hi
      simp only [show kindsP 25 = [5] from rfl]
      obtain rfl : i = 0 := by simp at hi; omega
      simp [go_sem]
  · rw [kindsP_none hp]
    have n0 : ((p : Int) == 0) = false := by simp; omega
    have n1 : ((p : Int) == 1) = false := by simp; omega
    have n2 : ((p : Int) == 2) = false := by simp; omega
    have n3 : ((p : Int) == 3) = false := by simp; omega
    have n4 : ((p : Int) == 4) = false := by simp; omega
    have n5 : ((p : Int) == 5) = false := by simp; omega
    have n6 : ((p : Int) == 6) = false := by simp; omega
    have n7 : ((p : Int) == 7) = false := by simp; omega
    have n8 : ((p : Int) == 8) = false := by simp; omega
    have n9 : ((p : Int) == 9) = false := by simp; omega
    have n10 : ((p : Int) == 10) = false := by simp; omega
    have n11 : ((p : Int) == 11) = false := by simp; omega
    have n12 : ((p : Int) == 12) = false := by simp; omega
    have n13 : ((p : Int) == 13) = false := by simp; omega
    have n14 : ((p : Int) == 14) = false := by simp; omega
    have n15 : ((p : Int) == 15) = false := by simp; omega
    have n16 : ((p : Int) == 16) = false := by simp; omega
    have n17 : ((p : Int) == 17) = false := by simp; omega
    have n18 : ((p : Int) == 18) = false := by simp; omega
    have n19 : ((p : Int) == 19) = false := by simp; omega
    have n20 : ((p : Int) == 20) = false := by simp; omega
    have n21 : ((p : Int) == 21) = false := by simp; omega
    have n22 : ((p : Int) == 22) = false := by simp; omega
    have n23 : ((p : Int) == 23) = false := by simp; omega
    have n24 : ((p : Int) == 24) = false := by simp; omega
    have n25 : ((p : Int) == 25) = false := by simp; omega
    go_enter Tryd.func55, Tryd.ntmps55
    go_wp2
    go_ret
    exact ⟨none, 0, rfl, Nat.le_refl _, by decide, fun i hi => absurd hi (by simp), Below.refl _ _⟩
set_option maxRecDepth 100000 in
set_option maxHeartbeats 4000000 in
theorem pIndexK_any (A : Option Addr) (l : List Nat) (cp k : Nat) (hcp : l.length ≤ cp ∧ cp ≤ 100) (w : World) (hA : Bys A l w) :
    Calls Tryd.prog 96 #[.slice A (l.length : Nat) cp, .int .u8 k] w fun e w' => ∃ r : Int, e = .returned (.int .i64 r) ∧ (0 ≤ r ↔ k ∈ l) ∧ Below w.heap.size w w' := by
  have HA := Lib.hid hA
  clear hA
  go_enter Tryd.func96, Tryd.ntmps96
  go_wp2
  go_loopg [5, 8] l.length (fun g iv kv wr => wr = w ∧ ∃ m : Nat, m ≤ l.length ∧ g = l.length - m ∧ kv = .int .i64 m ∧ ∀ j, (h : j < l.length) → j < m → l[j] ≠ k)
  case atStart => exact ⟨rfl, 0, Nat.zero_le _, rfl, rfl, fun j _ hj => by omega⟩
  case round =>
    obtain ⟨rfl, m, hm, rfl, rfl, hlo⟩ := hrel
    have HLO := Lib.hid hlo
    clear hlo
    by_cases hml : m < l.length
    · obtain ⟨g, rfl, hc⟩ := HA.out m hml
      obtain ⟨v, hv⟩ : ∃ v, l[m] = v := ⟨_, rfl⟩
      rw [hv] at hc
      have HV := Lib.hid hv
      clear hv
      have m1 : (m : Int) < ((l.length : Nat) : Int) := by omega
      by_cases e : k = v
      · subst e
        go_wp2
        go_ret
        exact ⟨m, rfl, ⟨fun _ => by rw [← HV.out]; exact List.getElem_mem _, fun _ => by omega⟩, Below.refl _ _⟩
      · have e' : ((k : Int) == (v : Int)) = false := by simp; omega
        go_wp2
        go_roundg (l.length - (m + 1))
        case measure => omega
        case rel =>
          refine ⟨rfl, m + 1, by omega, rfl, by go_num, fun j hj hjm => ?_⟩
          by_cases ej : j = m
          · subst ej; rw [HV.out]; exact fun h => e h.symm
          · exact HLO.out j hj (by omega)
    · obtain rfl : m = l.length := by omega
      have HN : Hid (k ∉ l) := Lib.hid fun h => by
        obtain ⟨j, hj, e⟩ := List.getElem_of_mem h
        exact HLO.out j hj hj e
      clear HLO
      go_wp2
      go_ret
      exact ⟨-1, rfl, ⟨fun h => absurd h (by decide), fun h => (HN.out h).elim⟩, Below.refl _ _⟩
set_option maxRecDepth 100000 in
set_option maxHeartbeats 4000000 in
theorem pHasK_any (A : Option Addr) (l : List Nat) (cp k : Nat) (b : Bool) (hb : b = decide (k ∈ l)) (hcp : l.length ≤ cp ∧ cp ≤ 100) (w : World) (hA : Bys A l w) :
    Calls Tryd.prog 54 #[.slice A (l.length : Nat) cp, .int .u8 k] w (Ret (.bool b) w) := by
  have HI := Lib.hid (pIndexK_any A l cp k hcp w hA)
  clear hA
  generalize l.length = ln at *
  go_enter Tryd.func54, Tryd.ntmps54
  go_wp2_with (go_at_call 96; refine HI.out.mono ?_; rintro e w1 ⟨r, rfl, hr, hb1⟩; have HRR := Lib.hid hr; clear hr)
  go_ret
  exact Ret.mk (bool_eq (by rw [hb, ← decide_eq_decide.2 HRR.out])) hb1
set_option maxRecDepth 100000 in
set_option maxHeartbeats 4000000 in
theorem pRegs_any (c : Cf) (A : Option Addr) (cp : Nat) (f : Ds) (hT : topX c ≤ 4) (hf : f.n < 256 ∧ f.p < 256 ∧ f.j < 256 ∧ f.h < 256) (w : World) :
    Calls Tryd.prog 56 #[shX c (.slice A (topX c + 1 : Nat) cp), frv f] w (Ret (.bool (decide ((f.n : Int) ≤ c.cap ∧ (f.p : Int) ≤ c.cap ∧ (f.j : Int) ≤ c.chunk ∧ f.h ≤ topX c))) w) := by
  have HT := Lib.hid (fun W => pTopX_any c A (topX c) cp (by omega) W)
  unfold shX at *
  generalize topX c = T at *
  unfold frv
  obtain ⟨tg, k, seq, kind, a, b, pc, i, j, n, p, h, x, y⟩ := f
  simp only at *
  obtain ⟨b1, b2, b3, b4⟩ := hf
  go_enter Tryd.func56, Tryd.ntmps56
  go_upto_region 1 with fail
  refine ent2 fun W hb g0 g1 q0 q1 => ?_
  obtain ⟨r0, r1, r2, r3⟩ := cells4q g0
  obtain ⟨k0, k1, k2, k3, k4, k5, k6, k7, k8, k9, k10⟩ := cl11 g1
  have HB := Lib.hid hb
  clear g0 g1 hb
  by_cases e1 : (n : Int) ≤ c.cap
  · by_cases e2 : (p : Int) ≤ c.cap
    · by_cases e3 : (j : Int) ≤ c.chunk
      · refine wp_region_quiet_reads (by kernel_rfl) (by kernel_rfl) fun HR => ?_
        repeat (go_big_quiet_step (first | with_reducible exact Calls.regrown_of (HT.out _)))
        refine wpQuiet_nil ?_
        intro Q1 hw'
        obtain ⟨⟨dq, osq⟩, hw''⟩ := hw'
        have hbq1 : Below W.heap.size W Q1 := by rw [hw'']; exact below_regrown _ dq osq
        clear hw'' HR dq osq r0 r1 r2 r3 k0 k1 k2 k3 k4 k5 k6 k7 k8 k9 k10 HT
        go_wp2
        go_ret
        refine Ret.mk (bool_eq ?_) (below_then HB.out hbq1)
        by_cases e4 : h ≤ T
        · simp [*] <;> try omega
        · simp [*] <;> try omega
      · refine wp_region_quiet_reads (by kernel_rfl) (by kernel_rfl) fun HR => ?_
        repeat (go_big_quiet_step (first | with_reducible exact Calls.regrown_of (HT.out _)))
        refine wpQuiet_nil ?_
        intro Q1 hw'
        obtain ⟨⟨dq, osq⟩, hw''⟩ := hw'
        have hbq1 : Below W.heap.size W Q1 := by rw [hw'']; exact below_regrown _ dq osq
        clear hw'' HR dq osq r0 r1 r2 r3 k0 k1 k2 k3 k4 k5 k6 k7 k8 k9 k10 HT
        go_wp2
        go_ret
        refine Ret.mk (bool_eq ?_) (below_then HB.out hbq1)
        by_cases e4 : h ≤ T
        · simp [*] <;> try omega
        · simp [*] <;> try omega
    · refine wp_region_quiet_reads (by kernel_rfl) (by kernel_rfl) fun HR => ?_
      repeat (go_big_quiet_step (first | with_reducible exact Calls.regrown_of (HT.out _)))
      refine wpQuiet_nil ?_
      intro Q1 hw'
      obtain ⟨⟨dq, osq⟩, hw''⟩ := hw'
      have hbq1 : Below W.heap.size W Q1 := by rw [hw'']; exact below_regrown _ dq osq
      clear hw'' HR dq osq r0 r1 r2 r3 k0 k1 k2 k3 k4 k5 k6 k7 k8 k9 k10 HT
      go_wp2
      go_ret
      refine Ret.mk (bool_eq ?_) (below_then HB.out hbq1)
      by_cases e4 : h ≤ T
      · simp [*] <;> try omega
      · simp [*] <;> try omega
  · refine wp_region_quiet_reads (by kernel_rfl) (by kernel_rfl) fun HR => ?_
    repeat (go_big_quiet_step (first | with_reducible exact Calls.regrown_of (HT.out _)))
    refine wpQuiet_nil ?_
    intro Q1 hw'
    obtain ⟨⟨dq, osq⟩, hw''⟩ := hw'
    have hbq1 : Below W.heap.size W Q1 := by rw [hw'']; exact below_regrown _ dq osq
    clear hw'' HR dq osq r0 r1 r2 r3 k0 k1 k2 k3 k4 k5 k6 k7 k8 k9 k10 HT
    go_wp2
    go_ret
    refine Ret.mk (bool_eq ?_) (below_then HB.out hbq1)
    by_cases e4 : h ≤ T
    · simp [*] <;> try omega
    · simp [*] <;> try omega
end Go.Proofs.YtmkehailohgebaaDoor
