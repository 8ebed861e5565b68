/- Package rank: the list of a row's levels. -/
import Derived.Test.YtmnlfhpkfgfpoaaDoorRrItems
import Derived.Test.YtmnlfhpkfgfpoaaDoorMade
import Derived.WalkMore
namespace Go.Proofs.YtmnlfhpkfgfpoaaDoor
open Go.RowKit

theorem int_info : (Tryd.prog.info? 3).map (fun i => (i.zero, i.size, i.bytes)) = some (some (.int .i64 0), 1, 8) := by kernel_rfl

/-- A new list of numbers, and a number. -/
def RetL (N : Nat) (f : Nat → Int) (z : Int) (w : World) (e : Ending) (w' : World) : Prop :=
  ∃ A c, e = .returned (.tuple #[.slice A N c, .int .i64 z]) ∧ N ≤ c ∧ c ≤ 9223372036854775807 ∧ Hid (∀ i, i < N → ∃ g, A = some ⟨g, 0, none⟩ ∧ w'.cell? ⟨g, i, none⟩ = some (.int .i64 (f i))) ∧ Below w.heap.size w w'

set_option maxHeartbeats 1000000 in
theorem levels_bad (m n : Int) (g : Rk.okV m n = false) (w : World) :
    Calls Tryd.prog 52 #[.int .i64 m, .int .i64 n] w (RetL 0 (Rk.lvF m n) 2 w) := by
  have fin : ∀ w1 : World, Below w.heap.size w w1 → RetL 0 (Rk.lvF m n) 2 w (.returned (.tuple #[.slice none 0 0, .int .i64 2])) w1 := fun w1 hb =>
    ⟨none, 0, rfl, Nat.le_refl _, by omega, Lib.hid fun i hi => by omega, hb⟩
  have FIN := Lib.hid fin
  clear fin
  rcases Rk.okV_false g with g1 | rfl
  · clear g
    go_enter Tryd.func52, Tryd.ntmps52
    go_wp2
    go_step3
    go_wp2_with (go_at_call 54; refine (mayBe_any m n _).mono ?_; rintro e w1 ⟨rfl, hb1⟩; rw [g1])
    rw [Exit.noGoto_ret]
    go_ret2
    exact FIN.out _ (below_then (below_one _ _) hb1)
  · clear g
    go_enter Tryd.func52, Tryd.ntmps52
    go_wp2
    go_step3
    go_wp2_with (go_at_call 54; refine (mayBe_any 0 n _).mono ?_; rintro e w1 ⟨rfl, hb1⟩)
    all_goals rw [Exit.noGoto_ret]
    all_goals go_ret2
    all_goals exact FIN.out _ (below_then (below_one _ _) hb1)

set_option maxHeartbeats 1000000 in
theorem levels_ok (m n : Nat) (h0 : 1 ≤ m) (h1 : m ≤ 32) (h2 : 2 ≤ n) (h4 : n ≤ 4) (w : World) (hp : Pow w) :
    Calls Tryd.prog 52 #[.int .i64 m, .int .i64 n] w (RetL (Rk.top m n + 1) (Rk.lvF m n) 0 w) := by
  have g1 := Rk.mayBe_mk h1 h2 h4
  have hm0 : ((m : Int) == 0) = false := by simp; omega
  have HP := Lib.hid hp
  clear hp
  go_enter Tryd.func52, Tryd.ntmps52
  go_wp2
  go_step3
  go_wp2_with (go_at_call 54; refine (mayBe_any m n _).mono ?_; rintro e w1 ⟨rfl, hb1⟩; obtain ⟨hc1, hf1⟩ := bcell hb1; rw [g1])
  go_step3
  go_wp2
  have hz : w.heap.size < w1.heap.size := (by have := hb1.size; simp at this; omega)
  have c0 : w1.cell? ⟨w.heap.size, 0, none⟩ = some (.int .i64 m) := by rw [hc1 _ _ (by simp)]; simp [go_sem]
  have c1 : w1.cell? ⟨w.heap.size, 1, none⟩ = some (.int .i64 n) := by rw [hc1 _ _ (by simp)]; simp [go_sem]
  have P1 := Lib.hid ((HP.out.alloc _).below hb1)
  have hb01 := below_then (below_one w _) hb1
  obtain ⟨s, hs⟩ : ∃ s, w.heap.size = s := ⟨_, rfl⟩
  have HS := Lib.hid hs
  rw [hs] at hz c0 c1 ⊢
  clear hs hc1 hf1 hb1 HP
  go_loopw [7, 20] (fun v i wr => ∃ k : Nat, k ≤ 4 ∧ (∀ j, j < k → n < Rk.items m n j) ∧ i = .int .i64 k ∧ Made wr w1.heap.size 3 v k (fun j => .int .i64 (Rk.items m n j : Nat)) ∧ Below w1.heap.size w1 wr) (fun _ i _ => 5 - (intOf i).toNat)
  case atStart => exact ⟨0, Nat.zero_le _, fun j hj => by omega, rfl, Made.nil _ _ _ _, Below.refl _ _⟩
  case round =>
    obtain ⟨k, hk, hlo, rfl, hm, hbr⟩ := hrel
    have HLO := Lib.hid hlo
    have HM := Lib.hid hm
    clear hlo hm
    have d0 := (hbr.cell (p := ⟨s, 0, none⟩) hz).trans c0
    have d1 := (hbr.cell (p := ⟨s, 1, none⟩) hz).trans c1
    have hwz : w1.heap.size ≤ wr.heap.size := hbr.size
    go_wp2_with (first
      | (go_at_call 55; refine (itemsUp_nat m n k h1 h2 h4 hk _ (P1.out.below hbr)).mono ?_; rintro e w2 ⟨rfl, hb2⟩)
      | (at_builtin
         refine wpList_pushed rfl (.tmp 26) (.tmp 28) _ rfl Tryd.underlying79 int_info rfl (by decide) rfl ((HM.out.below hb2).alloc _) _ rfl (by simp [go_sem]) rfl (by omega) (Nat.le_refl _) ((below_then hbr hb2).alloc (Nat.le_trans hwz hb2.size) _) ?_
         intro v' W1 Hm1 hbW1 Hk1))
    · rename_i hy
      have et := Rk.top_first HLO.out hy h1 h2 h4
      obtain ⟨A, c, rfl, g2, g3, g4⟩ := Hm1.out.form
      rw [Exit.noGoto_ret, et]
      go_ret2
      refine ⟨A, c, rfl, g2, g3, Lib.hid fun i hi => ?_, hb01.trans (hbW1.mono hb01.size)⟩
      obtain ⟨g, rfl, _, hc⟩ := g4 i hi
      exact ⟨g, rfl, by rw [hc]; simp [Rk.lvF]⟩
    · rename_i hn
      have hk4 : k < 4 := by
        rcases Nat.lt_or_ge k 4 with g | g
        · exact g
        · obtain rfl : k = 4 := by omega
          exact absurd (Rk.items_four h1 h2 h4) hn
      go_roundw
      case rel =>
        refine ⟨k + 1, by omega, fun j hj => ?_, by go_num, Hm1.out, hbW1⟩
        by_cases e : j = k
        · subst e; omega
        · exact HLO.out j (by omega)
      case measure => simp [intOf]; omega

theorem levels_any (m n : Int) (w : World) (hp : Pow w) :
    Calls Tryd.prog 52 #[.int .i64 m, .int .i64 n] w (RetL (Rk.lvN m n) (Rk.lvF m n) (Rk.err (Rk.okV m n)) w) := by
  cases g : Rk.okV m n with
  | false => unfold Rk.lvN; rw [g]; exact levels_bad m n g w
  | true =>
    obtain ⟨M, N, rfl, rfl, h0, h1, h2, h4⟩ := Rk.okV_nat g
    unfold Rk.lvN
    rw [g]
    exact levels_ok M N h0 h1 h2 h4 w hp
end Go.Proofs.YtmnlfhpkfgfpoaaDoor
