/- Package rank: how many items a level has, where the powers stand in their table. Package rank: the list of a row's levels. Package rank: the levels of a row: counts and last items. The document's own answers on the levels of a row. -/
import Derived.Test.YtmkehailohgebaaDoorProg
import Derived.Test.YtmkehailohgebaaDoorGMath
import Derived.Test.YtmkehailohgebaaDoorGKit
import Derived.WalkMore
import Derived.Test.YtmkehailohgebaaDoorGOld
import Derived.Deep.LoopGhost
namespace Go.Proofs.YtmkehailohgebaaDoor
open Go.RowKit

/-- The table holds the powers. -/
def Pow (W : World) : Prop := ∀ j, j < 15 → W.cell? ⟨1, j, none⟩ = some (.int .i64 (Rk.powAt j))
theorem Pow.below {W W' : World} (h : Pow W) (hb : Below W.heap.size W W') : Pow W' := fun j hj =>
  (hb.cell (World.block_lt_of_cell? _ _ (h j hj))).trans (h j hj)
theorem Pow.alloc {W : World} (h : Pow W) (o : Obj) : Pow (W.alloc o) := h.below (below_one W o)
theorem Pow.at {W : World} (h : Pow W) (j : Nat) (x : Int) (hj : j < 15) (hx : Rk.powAt j = x) : W.cell? ⟨1, j, none⟩ = some (.int .i64 x) := by rw [h j hj, hx]

set_option maxHeartbeats 400000 in
theorem mayBe_any (m n : Int) (w : World) :
    Calls Tryd.prog 103 #[.agg #[.int .i64 m, .int .i64 n]] w (Ret (.bool (Rk.mayBe m n)) w) := by
  go_enter Tryd.func103, Tryd.ntmps103
  go_wp2
  all_goals go_ret
  all_goals exact Ret.mk (bool_eq (by unfold Rk.mayBe; rw [Bool.eq_iff_iff]; simp; omega)) (below_one _ _)

set_option maxHeartbeats 1000000 in
theorem itemsUp_nat (m n h : Nat) (hm : m ≤ 32) (h2 : 2 ≤ n) (h4 : n ≤ 4) (hh : h ≤ 4) (w : World) (hp : Pow w) :
    Calls Tryd.prog 104 #[.agg #[.int .i64 m, .int .i64 n], .int .i64 h] w (Ret (.int .i64 (Rk.items m n h : Nat)) w) := by
  obtain ⟨k, rfl⟩ : ∃ k, n = k + 2 := ⟨n - 2, by omega⟩
  have hk : k ≤ 2 := by omega
  have e : ((k + 2 : Nat) : Int) - 2 = (k : Int) := by omega
  obtain ⟨q1, q2⟩ := Rk.pow_bounds ⟨k, by omega⟩ ⟨h, by omega⟩
  simp only at q1 q2
  have hc := fun o => (hp.alloc o).at (k * 5 + h) _ (by omega) (Rk.powAt_at hh)
  have ei : Rk.items m (k + 2) h = (m + (k + 2) ^ h - 1) / (k + 2) ^ h := rfl
  generalize (k + 2) ^ h = q at q1 q2 hc ei
  have EI := Lib.hid ei
  clear ei hp
  generalize ((k + 2 : Nat) : Int) = z at *
  have z1 : z ≤ 4 := by omega
  have z2 : 2 ≤ z := by omega
  go_enter Tryd.func104, Tryd.ntmps104
  go_wp2
  go_ret
  exact Ret.mk (i64_eq (by rw [EI.out, Int.natCast_ediv]; congr 1; omega)) (below_one _ _)

theorem itemsUp_any (m n h : Int) (g : Rk.okC m n h = true) (w : World) (hp : Pow w) :
    Calls Tryd.prog 104 #[.agg #[.int .i64 m, .int .i64 n], .int .i64 h] w (Ret (.int .i64 (Rk.cnt m n h)) w) := by
  obtain ⟨M, N, H, rfl, rfl, rfl, h1, h2, h3, h4⟩ := Rk.okC_nat g
  exact itemsUp_nat M N H h1 h2 h3 h4 w hp
end Go.Proofs.YtmkehailohgebaaDoor

namespace Go.Proofs.YtmkehailohgebaaDoor
open Go.RowKit

theorem int_info : (Tryd.prog.info? 3).map (fun i => (i.zero, i.size, i.bytes)) = some (some (.int .i64 0), 1, 8) := by kernel_rfl

/-- A new list of numbers, and a number. -/
def RetL (N : Nat) (f : Nat → Int) (z : Int) (w : World) (e : Ending) (w' : World) : Prop :=
  ∃ A c, e = .returned (.tuple #[.slice A N c, .int .i64 z]) ∧ N ≤ c ∧ c ≤ 9223372036854775807 ∧ Hid (∀ i, i < N → ∃ g, A = some ⟨g, 0, none⟩ ∧ w'.cell? ⟨g, i, none⟩ = some (.int .i64 (f i))) ∧ Below w.heap.size w w'

set_option maxHeartbeats 1000000 in
theorem levels_bad (m n : Int) (g : Rk.okV m n = false) (w : World) :
    Calls Tryd.prog 60 #[.int .i64 m, .int .i64 n] w (RetL 0 (Rk.lvF m n) 2 w) := by
  have fin : ∀ w1 : World, Below w.heap.size w w1 → RetL 0 (Rk.lvF m n) 2 w (.returned (.tuple #[.slice none 0 0, .int .i64 2])) w1 := fun w1 hb =>
    ⟨none, 0, rfl, Nat.le_refl _, by omega, Lib.hid fun i hi => by omega, hb⟩
  have FIN := Lib.hid fin
  clear fin
  rcases Rk.okV_false g with g1 | rfl
  · clear g
    go_enter Tryd.func60, Tryd.ntmps60
    go_wp2
    go_step3
    go_wp2_with (go_at_call 103; refine (mayBe_any m n _).mono ?_; rintro e w1 ⟨rfl, hb1⟩; rw [g1])
    rw [Exit.noGoto_ret]
    go_ret2
    exact FIN.out _ (below_then (below_one _ _) hb1)
  · clear g
    go_enter Tryd.func60, Tryd.ntmps60
    go_wp2
    go_step3
    go_wp2_with (go_at_call 103; refine (mayBe_any 0 n _).mono ?_; rintro e w1 ⟨rfl, hb1⟩)
    all_goals rw [Exit.noGoto_ret]
    all_goals go_ret2
    all_goals exact FIN.out _ (below_then (below_one _ _) hb1)

set_option maxHeartbeats 1000000 in
theorem levels_ok (m n : Nat) (h0 : 1 ≤ m) (h1 : m ≤ 32) (h2 : 2 ≤ n) (h4 : n ≤ 4) (w : World) (hp : Pow w) :
    Calls Tryd.prog 60 #[.int .i64 m, .int .i64 n] w (RetL (Rk.top m n + 1) (Rk.lvF m n) 0 w) := by
  have g1 := Rk.mayBe_mk h1 h2 h4
  have hm0 : ((m : Int) == 0) = false := by simp; omega
  have HP := Lib.hid hp
  clear hp
  go_enter Tryd.func60, Tryd.ntmps60
  go_wp2
  go_step3
  go_wp2_with (go_at_call 103; refine (mayBe_any m n _).mono ?_; rintro e w1 ⟨rfl, hb1⟩; obtain ⟨hc1, hf1⟩ := bcell hb1; rw [g1])
  go_step3
  go_wp2
  have hz : w.heap.size < w1.heap.size := (by have := hb1.size; simp at this; omega)
  have c0 : w1.cell? ⟨w.heap.size, 0, none⟩ = some (.int .i64 m) := by rw [hc1 _ _ (by simp)]; simp [go_sem]
  have c1 : w1.cell? ⟨w.heap.size, 1, none⟩ = some (.int .i64 n) := by rw [hc1 _ _ (by simp)]; simp [go_sem]
  have P1 := Lib.hid ((HP.out.alloc _).below hb1)
  have hb01 := below_then (below_one w _) hb1
  obtain ⟨s, hs⟩ : ∃ s, w.heap.size = s := ⟨_, rfl⟩
  have HS := Lib.hid hs
  rw [hs] at hz c0 c1 ⊢
  clear hs hc1 hf1 hb1 HP
  go_loopw [7, 20] (fun v i wr => ∃ k : Nat, k ≤ 4 ∧ (∀ j, j < k → n < Rk.items m n j) ∧ i = .int .i64 k ∧ Made wr w1.heap.size 3 v k (fun j => .int .i64 (Rk.items m n j : Nat)) ∧ Below w1.heap.size w1 wr) (fun _ i _ => 5 - (intOf i).toNat)
  case atStart => exact ⟨0, Nat.zero_le _, fun j hj => by omega, rfl, Made.nil _ _ _ _, Below.refl _ _⟩
  case round =>
    obtain ⟨k, hk, hlo, rfl, hm, hbr⟩ := hrel
    have HLO := Lib.hid hlo
    have HM := Lib.hid hm
    clear hlo hm
    have d0 := (hbr.cell (p := ⟨s, 0, none⟩) hz).trans c0
    have d1 := (hbr.cell (p := ⟨s, 1, none⟩) hz).trans c1
    have hwz : w1.heap.size ≤ wr.heap.size := hbr.size
    go_wp2_with (first
      | (go_at_call 104; refine (itemsUp_nat m n k h1 h2 h4 hk _ (P1.out.below hbr)).mono ?_; rintro e w2 ⟨rfl, hb2⟩)
      | (at_builtin
         refine wpList_pushed rfl (.tmp 26) (.tmp 28) _ rfl Tryd.underlying44 int_info rfl (by decide) rfl ((HM.out.below hb2).alloc _) _ rfl (by simp [go_sem]) rfl (by omega) (Nat.le_refl _) ((below_then hbr hb2).alloc (Nat.le_trans hwz hb2.size) _) ?_
         intro v' W1 Hm1 hbW1 Hk1))
    · rename_i hy
      have et := Rk.top_first HLO.out hy h1 h2 h4
      obtain ⟨A, c, rfl, g2, g3, g4⟩ := Hm1.out.form
      rw [Exit.noGoto_ret, et]
      go_ret2
      refine ⟨A, c, rfl, g2, g3, Lib.hid fun i hi => ?_, hb01.trans (hbW1.mono hb01.size)⟩
      obtain ⟨g, rfl, _, hc⟩ := g4 i hi
      exact ⟨g, rfl, by rw [hc]; simp [Rk.lvF]⟩
    · rename_i hn
      have hk4 : k < 4 := by
        rcases Nat.lt_or_ge k 4 with g | g
        · exact g
        · obtain rfl : k = 4 := by omega
          exact absurd (Rk.items_four h1 h2 h4) hn
      go_roundw
      case rel =>
        refine ⟨k + 1, by omega, fun j hj => ?_, by go_num, Hm1.out, hbW1⟩
        by_cases e : j = k
        · subst e; omega
        · exact HLO.out j (by omega)
      case measure => simp [intOf]; omega

theorem levels_any (m n : Int) (w : World) (hp : Pow w) :
    Calls Tryd.prog 60 #[.int .i64 m, .int .i64 n] w (RetL (Rk.lvN m n) (Rk.lvF m n) (Rk.err (Rk.okV m n)) w) := by
  cases g : Rk.okV m n with
  | false => unfold Rk.lvN; rw [g]; exact levels_bad m n g w
  | true =>
    obtain ⟨M, N, rfl, rfl, h0, h1, h2, h4⟩ := Rk.okV_nat g
    unfold Rk.lvN
    rw [g]
    exact levels_ok M N h0 h1 h2 h4 w hp
end Go.Proofs.YtmkehailohgebaaDoor

namespace Go.Proofs.YtmkehailohgebaaDoor
open Go.RowKit

set_option maxHeartbeats 1000000 in
theorem count_any (m n h : Int) (w : World) (hp : Pow w) :
    Calls Tryd.prog 125 #[.int .i64 m, .int .i64 n, .int .i64 h] w (Ret2 (.int .i64 (Rk.val (Rk.okC m n h) (Rk.cnt m n h))) (.int .i64 (Rk.err (Rk.okC m n h))) w) := by
  cases g : Rk.mayBe m n with
  | false =>
    rw [Rk.okC_f1 g]
    go_enter Tryd.func125, Tryd.ntmps125
    go_wp2_with (go_at_call 103; refine (mayBe_any m n _).mono ?_; rintro e w1 ⟨rfl, hb1⟩)
    go_ret2
    exact Ret2.mk rfl rfl (below_then (below_one _ _) hb1)
  | true =>
    by_cases hh : 0 ≤ h ∧ h ≤ 4
    · have gc : Rk.okC m n h = true := by unfold Rk.okC; rw [g, decide_eq_true hh]; rfl
      obtain ⟨i1, i2⟩ := hh
      rw [gc]
      have HP := Lib.hid hp
      clear hp
      go_enter Tryd.func125, Tryd.ntmps125
      go_wp2_with (first
        | (go_at_call 103; refine (mayBe_any m n _).mono ?_; rintro e w1 ⟨rfl, hb1⟩; obtain ⟨hc1, hf1⟩ := bcell hb1)
        | (go_at_call 104; refine (itemsUp_any m n h gc _ ((HP.out.alloc _).below hb1)).mono ?_; rintro e w2 ⟨rfl, hb2⟩))
      go_ret2
      exact Ret2.mk rfl rfl (below_then (below_then (below_one _ _) hb1) hb2)
    · rw [Rk.okC_f2 hh]
      go_enter Tryd.func125, Tryd.ntmps125
      go_wp2_with (go_at_call 103; refine (mayBe_any m n _).mono ?_; rintro e w1 ⟨rfl, hb1⟩)
      all_goals go_ret2
      all_goals exact Ret2.mk rfl rfl (below_then (below_one _ _) hb1)

theorem cnt_bounds {m n h : Int} (g : Rk.okC m n h = true) : 0 ≤ Rk.cnt m n h ∧ Rk.cnt m n h ≤ 32 := by
  obtain ⟨M, N, H, rfl, rfl, rfl, h1, h2, h3, h4⟩ := Rk.okC_nat g
  have := Rk.items_le h1 h2 h3 h4
  unfold Rk.cnt
  simp only [Int.toNat_natCast]
  omega

set_option maxHeartbeats 2000000 in
theorem last_any (m n h i : Int) (w : World) (hp : Pow w) :
    Calls Tryd.prog 102 #[.int .i64 m, .int .i64 n, .int .i64 h, .int .i64 i] w (Ret2 (.int .i64 (Rk.val (Rk.okL m n h i) (Rk.lst m n h i))) (.int .i64 (Rk.err (Rk.okL m n h i))) w) := by
  cases g : Rk.mayBe m n with
  | false =>
    rw [Rk.okL_f1 g]
    go_enter Tryd.func102, Tryd.ntmps102
    go_wp2_with (go_at_call 103; refine (mayBe_any m n _).mono ?_; rintro e w1 ⟨rfl, hb1⟩)
    go_ret2
    exact Ret2.mk rfl rfl (below_then (below_one _ _) hb1)
  | true =>
    by_cases hh : 1 ≤ h ∧ h ≤ 4
    · have gc : Rk.okC m n h = true := by unfold Rk.okC; rw [g, decide_eq_true (by omega)]; rfl
      have gc' : Rk.okC m n (h - 1) = true := by unfold Rk.okC; rw [g, decide_eq_true (by omega)]; rfl
      obtain ⟨i1, i2⟩ := hh
      have HP := Lib.hid hp
      clear hp
      by_cases hi : 0 ≤ i
      · by_cases hl : i < Rk.cnt m n h
        · have b2 := (cnt_bounds gc).2
          have b3 := (cnt_bounds gc').1
          have b4 := (cnt_bounds gc').2
          have n1 : 2 ≤ n ∧ n ≤ 4 := by
            have := (of_decide_eq_true g : _ ∧ _ ∧ _ ∧ _)
            omega
          have n2 : 0 ≤ (i + 1) * n := Int.mul_nonneg (by omega) (by omega)
          have n3 : (i + 1) * n ≤ 33 * 4 := Int.mul_le_mul (by omega) (by omega) (by omega) (by omega)
          obtain ⟨n4, n5⟩ := n1
          rw [Rk.okL_mk g ⟨i1, i2, hi, hl⟩]
          have EL := Lib.hid (show Rk.lst m n h i = min ((i + 1) * n) (Rk.cnt m n (h - 1)) - 1 from rfl)
          go_enter Tryd.func102, Tryd.ntmps102
          go_wp2_with fail
          refine (mayBe_any m n _).mono ?_
          rintro e w1 ⟨rfl, hb1⟩
          obtain ⟨hc1, hf1⟩ := bcell hb1
          go_wp2_with fail
          refine (itemsUp_any m n h gc _ ((HP.out.alloc _).below hb1)).mono ?_
          rintro e w2 ⟨rfl, hb2⟩
          obtain ⟨hc2, hf2⟩ := bcell hb2
          have hz : w.heap.size < w1.heap.size := (by have := hb1.size; simp at this; omega)
          go_wp2_with fail
          refine (itemsUp_any m n (h - 1) gc' _ (((HP.out.alloc _).below hb1).below hb2)).mono ?_
          rintro e w3 ⟨rfl, hb3⟩
          have hb := below_then (below_then (below_then (below_one w _) hb1) hb2) hb3
          clear hb1 hb2 hb3 hc1 hc2 hf1 hf2
          go_wp2
          all_goals go_ret2
          all_goals exact Ret2.mk (i64_eq (by have := EL.out; show _ = Rk.lst _ _ _ _; omega)) rfl hb
        · have b1 := (cnt_bounds gc).1
          have b2 := (cnt_bounds gc).2
          rw [Rk.okL_f2 (by omega)]
          go_enter Tryd.func102, Tryd.ntmps102
          go_wp2_with (first
            | (go_at_call 103; refine (mayBe_any m n _).mono ?_; rintro e w1 ⟨rfl, hb1⟩; obtain ⟨hc1, hf1⟩ := bcell hb1)
            | (go_at_call 104; refine (itemsUp_any m n h gc _ ((HP.out.alloc _).below hb1)).mono ?_; rintro e w2 ⟨rfl, hb2⟩))
          go_ret2
          exact Ret2.mk rfl rfl (below_then (below_then (below_one _ _) hb1) hb2)
      · rw [Rk.okL_f2 (by omega)]
        go_enter Tryd.func102, Tryd.ntmps102
        go_wp2_with (go_at_call 103; refine (mayBe_any m n _).mono ?_; rintro e w1 ⟨rfl, hb1⟩)
        go_ret2
        exact Ret2.mk rfl rfl (below_then (below_one _ _) hb1)
    · rw [Rk.okL_f2 (by omega)]
      go_enter Tryd.func102, Tryd.ntmps102
      go_wp2_with (go_at_call 103; refine (mayBe_any m n _).mono ?_; rintro e w1 ⟨rfl, hb1⟩)
      all_goals go_ret2
      all_goals exact Ret2.mk rfl rfl (below_then (below_one _ _) hb1)
end Go.Proofs.YtmkehailohgebaaDoor

namespace Go.Proofs.YtmkehailohgebaaDoor
open Go.RowKit

set_option maxHeartbeats 1000000 in
theorem rEnd_nat (m n h i : Nat) (h1 : m ≤ 32) (h2 : 2 ≤ n) (h4 : n ≤ 4) (hh : h ≤ 3) (hi : i < Rk.items m n (h + 1)) (z : Int) (hz : z = ((h + 1 : Nat) : Int)) (w : World) :
    Calls Tryd.prog 52 #[.int .i64 m, .int .i64 n, .int .i64 z, .int .i64 i] w (Ret (.int .i64 (Rk.lst m n z i)) w) := by
  have EL := Lib.hid (Rk.lastTo_end h1 h2 h4 hh hi)
  have e : z - 1 = (h : Int) := by omega
  have z1 : z ≤ 4 := by omega
  have z2 : 1 ≤ z := by omega
  have HI := Lib.hid hi
  have HZ := Lib.hid hz
  have q1 := Rk.items_le h1 h2 h4 (show h ≤ 4 by omega)
  clear hz hi
  go_enter Tryd.func52, Tryd.ntmps52
  go_wp2_with (go_at_call 28; refine (rItems_nat m n h h1 h2 h4 (by omega) _).mono ?_; rintro e w2 ⟨rfl, hb2⟩)
  have EQ := Lib.hid (rfl : Rk.items m n h = Rk.items m n h)
  obtain ⟨q, hq⟩ : ∃ q, Rk.items m n h = q := ⟨_, rfl⟩
  have HQ := Lib.hid hq
  rw [hq] at q1 ⊢
  clear hq EQ
  go_loopg [10, 11] q (fun g lv kv wr => w2 = wr ∧ ∃ k : Nat, k ≤ q ∧ g = q - k ∧ kv = .int .i64 k ∧ lv = .int .i64 (Rk.lastTo n i k : Nat))
  case atStart => exact ⟨rfl, 0, Nat.zero_le _, rfl, rfl, by simp [Rk.lastTo]⟩
  case round =>
    obtain ⟨rfl, k, hk, rfl, rfl, rfl⟩ := hrel
    by_cases hlt : k < q
    · by_cases hd : k / n = i
      · have hD := Lib.hid (Rk.lastTo_in (show 0 < n by omega) hd)
        have hd' := Rk.div_is (n := n) (i := i) (show k < 100 by omega)
        rw [decide_eq_true hd] at hd'
        clear hd
        go_wp2
        go_roundg (q - (k + 1))
        case measure => omega
        case rel => exact ⟨rfl, k + 1, by omega, rfl, by go_num, i64_eq (by rw [hD.out])⟩
      · have hD := Lib.hid (Rk.lastTo_out (show 0 < n by omega) hd)
        have hd' := Rk.div_is (n := n) (i := i) (show k < 100 by omega)
        rw [decide_eq_false hd] at hd'
        clear hd
        go_wp2
        go_roundg (q - (k + 1))
        case measure => omega
        case rel => exact ⟨rfl, k + 1, by omega, rfl, by go_num, i64_eq (by rw [hD.out])⟩
    · obtain rfl : k = q := by omega
      go_wp2
      go_ret
      exact Ret.mk (i64_eq (by rw [HZ.out, ← EL.out, HQ.out])) hb2

theorem rItems_any (m n h : Int) (g : Rk.okC m n h = true) (w : World) :
    Calls Tryd.prog 28 #[.int .i64 m, .int .i64 n, .int .i64 h] w (Ret (.int .i64 (Rk.cnt m n h)) w) := by
  obtain ⟨M, N, H, rfl, rfl, rfl, h1, h2, h3, h4⟩ := Rk.okC_nat g
  exact rItems_nat M N H h1 h2 h3 h4 w

theorem rEnd_any (m n h i : Int) (g : Rk.okL m n h i = true) (w : World) :
    Calls Tryd.prog 52 #[.int .i64 m, .int .i64 n, .int .i64 h, .int .i64 i] w (Ret (.int .i64 (Rk.lst m n h i)) w) := by
  obtain ⟨M, N, H, I, rfl, rfl, rfl, rfl, h1, h2, h3, h4, h5⟩ := Rk.okL_nat g
  exact rEnd_nat M N H I h1 h2 h3 h4 h5 _ rfl w

end Go.Proofs.YtmkehailohgebaaDoor
