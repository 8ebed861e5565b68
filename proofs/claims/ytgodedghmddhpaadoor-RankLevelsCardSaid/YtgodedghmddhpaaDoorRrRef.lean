/- The document's own answers on the levels of a row. -/
import Derived.Test.YtgodedghmddhpaaDoorRrLevels
import Derived.Deep.LoopGhost
namespace Go.Proofs.YtgodedghmddhpaaDoor
open Go.RowKit

set_option maxHeartbeats 400000 in
theorem rWide_any (n : Int) (w : World) :
    Calls Tryd.prog 23 #[.int .i64 n] w (Ret (.bool (decide (2 ≤ n ∧ n ≤ 4))) w) := by
  go_enter Tryd.func23, Tryd.ntmps23
  go_wp2
  all_goals go_ret
  all_goals exact Ret.mk (bool_eq (by rw [Bool.eq_iff_iff]; simp; omega)) (Below.refl _ _)

set_option maxHeartbeats 1000000 in
theorem rItems_nat (m n h : Nat) (h1 : m ≤ 32) (h2 : 2 ≤ n) (h4 : n ≤ 4) (hh : h ≤ 4) (w : World) :
    Calls Tryd.prog 25 #[.int .i64 m, .int .i64 n, .int .i64 h] w (Ret (.int .i64 (Rk.items m n h : Nat)) w) := by
  go_enter Tryd.func25, Tryd.ntmps25
  go_wp2
  go_loopg [0, 7] h (fun g mv kv wr => w = wr ∧ ∃ k : Nat, k ≤ h ∧ g = h - k ∧ kv = .int .i64 k ∧ mv = .int .i64 (Rk.items m n k : Nat))
  case atStart => exact ⟨rfl, 0, Nat.zero_le _, rfl, rfl, by rw [Rk.items_zero]⟩
  case round =>
    obtain ⟨rfl, k, hk, rfl, rfl, rfl⟩ := hrel
    by_cases hlt : k < h
    · have q1 := Rk.items_le h1 h2 h4 (show k ≤ 4 by omega)
      have qs := Lib.hid (Rk.items_succ h1 h2 h4 (show k ≤ 4 by omega))
      generalize Rk.items m n k = q at *
      go_wp2
      go_loopg [8, 9] 33 (fun g nv iv wi => w = wi ∧ ∃ j t : Nat, j ≤ 32 ∧ g = 33 - j ∧ nv = .int .i64 j ∧ iv = .int .i64 t ∧ t = j * n ∧ t < q + n)
      case atStart => exact ⟨rfl, 0, 0, by omega, rfl, rfl, rfl, by simp, by omega⟩
      case round =>
        obtain ⟨rfl, j, t, hj, rfl, rfl, rfl, ht, htq⟩ := hrel
        have hjt := Rk.le_mul ht h2
        have HT := Lib.hid ht
        clear ht
        by_cases hin : t < q
        · go_wp2
          go_roundg (33 - (j + 1))
          case measure => omega
          case rel => exact ⟨rfl, j + 1, t + n, by omega, rfl, by go_num, by go_num, Rk.mul_step HT.out, by omega⟩
        · go_wp2
          go_roundg (h - (k + 1))
          case measure => omega
          case rel => exact ⟨rfl, k + 1, by omega, rfl, by go_num, i64_eq (by rw [← qs.out, Rk.ceil_at HT.out (by omega) htq])⟩
    · obtain rfl : k = h := by omega
      go_wp2
      go_ret
      exact Ret.mk rfl (Below.refl _ _)

set_option maxHeartbeats 1000000 in
theorem rTop_nat (m n : Nat) (h1 : m ≤ 32) (h2 : 2 ≤ n) (h4 : n ≤ 4) (w : World) :
    Calls Tryd.prog 24 #[.int .i64 m, .int .i64 n] w (Ret (.int .i64 (Rk.top m n : Nat)) w) := by
  go_enter Tryd.func24, Tryd.ntmps24
  go_wp2
  go_loopg [5] 5 (fun g kv wr => ∃ k : Nat, k ≤ 4 ∧ g = 5 - k ∧ (∀ j, j < k → n < Rk.items m n j) ∧ kv = .int .i64 k ∧ Below w.heap.size w wr)
  case atStart => exact ⟨0, by omega, rfl, fun j hj => by omega, rfl, Below.refl _ _⟩
  case round =>
    obtain ⟨k, hk, rfl, hlo, rfl, hbr⟩ := hrel
    have HLO := Lib.hid hlo
    clear hlo
    by_cases hle : Rk.items m n k ≤ n
    · have et := Lib.hid (Rk.top_first HLO.out hle h1 h2 h4)
      go_wp2_with (go_at_call 25; refine (rItems_nat m n k h1 h2 h4 hk _).mono ?_; rintro e w2 ⟨rfl, hb2⟩)
      go_ret
      exact Ret.mk (i64_eq (by rw [et.out])) (below_then hbr hb2)
    · have hk4 : k < 4 := by
        rcases Nat.lt_or_ge k 4 with g | g
        · exact g
        · obtain rfl : k = 4 := by omega
          exact absurd (Rk.items_four h1 h2 h4) hle
      go_wp2_with (go_at_call 25; refine (rItems_nat m n k h1 h2 h4 hk _).mono ?_; rintro e w2 ⟨rfl, hb2⟩)
      go_roundg (5 - (k + 1))
      case measure => omega
      case rel =>
        refine ⟨k + 1, by omega, rfl, fun j hj => ?_, by go_num, below_then hbr hb2⟩
        by_cases e : j = k
        · subst e; omega
        · exact HLO.out j (by omega)

set_option maxHeartbeats 1000000 in
theorem rEnd_nat (m n h i : Nat) (h1 : m ≤ 32) (h2 : 2 ≤ n) (h4 : n ≤ 4) (hh : h ≤ 3) (hi : i < Rk.items m n (h + 1)) (z : Int) (hz : z = ((h + 1 : Nat) : Int)) (w : World) :
    Calls Tryd.prog 26 #[.int .i64 m, .int .i64 n, .int .i64 z, .int .i64 i] w (Ret (.int .i64 (Rk.lst m n z i)) w) := by
  have EL := Lib.hid (Rk.lastTo_end h1 h2 h4 hh hi)
  have e : z - 1 = (h : Int) := by omega
  have z1 : z ≤ 4 := by omega
  have z2 : 1 ≤ z := by omega
  have HI := Lib.hid hi
  have HZ := Lib.hid hz
  have q1 := Rk.items_le h1 h2 h4 (show h ≤ 4 by omega)
  clear hz hi
  go_enter Tryd.func26, Tryd.ntmps26
  go_wp2_with (go_at_call 25; refine (rItems_nat m n h h1 h2 h4 (by omega) _).mono ?_; rintro e w2 ⟨rfl, hb2⟩)
  have EQ := Lib.hid (rfl : Rk.items m n h = Rk.items m n h)
  obtain ⟨q, hq⟩ : ∃ q, Rk.items m n h = q := ⟨_, rfl⟩
  have HQ := Lib.hid hq
  rw [hq] at q1 ⊢
  clear hq EQ
  go_loopg [10, 11] q (fun g lv kv wr => w2 = wr ∧ ∃ k : Nat, k ≤ q ∧ g = q - k ∧ kv = .int .i64 k ∧ lv = .int .i64 (Rk.lastTo n i k : Nat))
  case atStart => exact ⟨rfl, 0, Nat.zero_le _, rfl, rfl, by simp [Rk.lastTo]⟩
  case round =>
    obtain ⟨rfl, k, hk, rfl, rfl, rfl⟩ := hrel
    by_cases hlt : k < q
    · by_cases hd : k / n = i
      · have hD := Lib.hid (Rk.lastTo_in (show 0 < n by omega) hd)
        have hd' := Rk.div_is (n := n) (i := i) (show k < 100 by omega)
        rw [decide_eq_true hd] at hd'
        clear hd
        go_wp2
        go_roundg (q - (k + 1))
        case measure => omega
        case rel => exact ⟨rfl, k + 1, by omega, rfl, by go_num, i64_eq (by rw [hD.out])⟩
      · have hD := Lib.hid (Rk.lastTo_out (show 0 < n by omega) hd)
        have hd' := Rk.div_is (n := n) (i := i) (show k < 100 by omega)
        rw [decide_eq_false hd] at hd'
        clear hd
        go_wp2
        go_roundg (q - (k + 1))
        case measure => omega
        case rel => exact ⟨rfl, k + 1, by omega, rfl, by go_num, i64_eq (by rw [hD.out])⟩
    · obtain rfl : k = q := by omega
      go_wp2
      go_ret
      exact Ret.mk (i64_eq (by rw [HZ.out, ← EL.out, HQ.out])) hb2

theorem rItems_any (m n h : Int) (g : Rk.okC m n h = true) (w : World) :
    Calls Tryd.prog 25 #[.int .i64 m, .int .i64 n, .int .i64 h] w (Ret (.int .i64 (Rk.cnt m n h)) w) := by
  obtain ⟨M, N, H, rfl, rfl, rfl, h1, h2, h3, h4⟩ := Rk.okC_nat g
  exact rItems_nat M N H h1 h2 h3 h4 w

theorem rEnd_any (m n h i : Int) (g : Rk.okL m n h i = true) (w : World) :
    Calls Tryd.prog 26 #[.int .i64 m, .int .i64 n, .int .i64 h, .int .i64 i] w (Ret (.int .i64 (Rk.lst m n h i)) w) := by
  obtain ⟨M, N, H, I, rfl, rfl, rfl, rfl, h1, h2, h3, h4, h5⟩ := Rk.okL_nat g
  exact rEnd_nat M N H I h1 h2 h3 h4 h5 _ rfl w

set_option maxHeartbeats 1000000 in
theorem rCount_any (m n h : Int) (w : World) :
    Calls Tryd.prog 17 #[.int .i64 m, .int .i64 n, .int .i64 h] w (Ret2 (.int .i64 (Rk.val (Rk.okC m n h) (Rk.cnt m n h))) (.int .i64 (Rk.err (Rk.okC m n h))) w) := by
  cases g : Rk.okC m n h with
  | false =>
    have g' := Rk.okC_false g
    clear g
    go_enter Tryd.func17, Tryd.ntmps17
    go_wp2_with (go_at_call 23; refine (rWide_any n _).mono ?_; rintro e w1 ⟨rfl, hb1⟩)
    all_goals first
      | (go_ret2; first | exact Ret2.mk rfl rfl hb1 | exact Ret2.mk rfl rfl (Below.refl _ _))
      | (exfalso; omega)
  | true =>
    obtain ⟨M, N, H, rfl, rfl, rfl, h1, h2, h3, h4⟩ := Rk.okC_nat g
    have n1 : (decide (2 ≤ (N : Int) ∧ (N : Int) ≤ 4)) = true := by simp; omega
    go_enter Tryd.func17, Tryd.ntmps17
    go_wp2_with (first
      | (go_at_call 23; refine (rWide_any N _).mono ?_; rintro e w1 ⟨rfl, hb1⟩; rw [n1])
      | (go_at_call 25; refine (rItems_any M N H g _).mono ?_; rintro e w2 ⟨rfl, hb2⟩))
    go_ret2
    exact Ret2.mk rfl rfl (below_then hb1 hb2)

set_option maxHeartbeats 2000000 in
theorem rLast_any (m n h i : Int) (w : World) :
    Calls Tryd.prog 18 #[.int .i64 m, .int .i64 n, .int .i64 h, .int .i64 i] w (Ret2 (.int .i64 (Rk.val (Rk.okL m n h i) (Rk.lst m n h i))) (.int .i64 (Rk.err (Rk.okL m n h i))) w) := by
  by_cases g0 : 1 ≤ m ∧ m ≤ 32 ∧ (2 ≤ n ∧ n ≤ 4) ∧ 1 ≤ h ∧ h ≤ 4 ∧ 0 ≤ i
  · obtain ⟨a1, a2, a3, a4, a5, a6⟩ := g0
    have n1 := decide_eq_true a3
    have gm : Rk.mayBe m n = true := decide_eq_true (by omega)
    have gc : Rk.okC m n h = true := by unfold Rk.okC; rw [gm, decide_eq_true (by omega)]; rfl
    have b1 := (cnt_bounds gc).1
    by_cases hl : i < Rk.cnt m n h
    · have gl := Rk.okL_mk gm ⟨a4, a5, a6, hl⟩
      have GL := Lib.hid gl
      rw [gl]
      clear gl
      go_enter Tryd.func18, Tryd.ntmps18
      go_wp2_with (first
        | (go_at_call 23; refine (rWide_any n _).mono ?_; rintro e w1 ⟨rfl, hb1⟩; rw [n1])
        | (go_at_call 25; refine (rItems_any m n h gc _).mono ?_; rintro e w2 ⟨rfl, hb2⟩)
        | (go_at_call 26; refine (rEnd_any m n h i GL.out _).mono ?_; rintro e w3 ⟨rfl, hb3⟩))
      go_ret2
      exact Ret2.mk rfl rfl (below_then (below_then hb1 hb2) hb3)
    · rw [Rk.okL_f2 (by omega)]
      go_enter Tryd.func18, Tryd.ntmps18
      go_wp2_with (first
        | (go_at_call 23; refine (rWide_any n _).mono ?_; rintro e w1 ⟨rfl, hb1⟩; rw [n1])
        | (go_at_call 25; refine (rItems_any m n h gc _).mono ?_; rintro e w2 ⟨rfl, hb2⟩))
      go_ret2
      exact Ret2.mk rfl rfl (below_then hb1 hb2)
  · rw [Rk.okL_f3 g0]
    go_enter Tryd.func18, Tryd.ntmps18
    go_wp2_with (first
      | (go_at_call 23; refine (rWide_any n _).mono ?_; rintro e w1 ⟨rfl, hb1⟩)
      | (go_at_call 25; exfalso; omega))
    all_goals first
      | (go_ret2; first | exact Ret2.mk rfl rfl hb1 | exact Ret2.mk rfl rfl (Below.refl _ _))
      | (exfalso; omega)

set_option maxHeartbeats 1000000 in
theorem rLevels_ok (m n : Nat) (h0 : 1 ≤ m) (h1 : m ≤ 32) (h2 : 2 ≤ n) (h4 : n ≤ 4) (w : World) :
    Calls Tryd.prog 16 #[.int .i64 m, .int .i64 n] w (RetL (Rk.top m n + 1) (Rk.lvF m n) 0 w) := by
  have n1 : (decide (2 ≤ (n : Int) ∧ (n : Int) ≤ 4)) = true := by simp; omega
  have t4 := Rk.top_le m n
  go_enter Tryd.func16, Tryd.ntmps16
  go_wp2_with (first
    | (go_at_call 23; refine (rWide_any n _).mono ?_; rintro e w1 ⟨rfl, hb1⟩; rw [n1])
    | (go_at_call 24; refine (rTop_nat m n h1 h2 h4 _).mono ?_; rintro e w2 ⟨rfl, hb2⟩))
  have hb02 := below_then hb1 hb2
  clear hb1 hb2
  have HF := Lib.hid (fun j => show Rk.lvF m n j = ((Rk.items m n j : Nat) : Int) by simp [Rk.lvF])
  generalize Rk.top m n = T at *
  go_loopg [6, 8] 6 (fun g v kv wr => ∃ k : Nat, k ≤ T + 1 ∧ g = 6 - k ∧ kv = .int .i64 k ∧ Made wr w2.heap.size 3 v k (fun j => .int .i64 (Rk.items m n j : Nat)) ∧ Below w2.heap.size w2 wr)
  case atStart => exact ⟨0, by omega, rfl, rfl, Made.nil _ _ _ _, Below.refl _ _⟩
  case round =>
    obtain ⟨k, hk, rfl, rfl, hm, hbr⟩ := hrel
    by_cases hlt : k ≤ T
    · have HM := Lib.hid hm
      clear hm
      have hwz : w2.heap.size ≤ wr.heap.size := hbr.size
      go_wp2_with (first
        | (go_at_call 25; refine (rItems_nat m n k h1 h2 h4 (by omega) _).mono ?_; rintro e w3 ⟨rfl, hb3⟩)
        | (at_builtin
           refine wpList_pushed rfl (.tmp 28) (.tmp 33) _ rfl Tryd.underlying22 int_info rfl (by decide) rfl ((HM.out.below hb3).alloc _) _ rfl (by simp [go_sem]) rfl (by omega) (Nat.le_refl _) ((below_then hbr hb3).alloc (Nat.le_trans hwz hb3.size) _) ?_
           intro v' W1 Hm1 hbW1 Hk1))
      go_roundg (6 - (k + 1))
      case measure => omega
      case rel => exact ⟨k + 1, by omega, rfl, by go_num, Hm1.out, hbW1⟩
    · obtain rfl : k = T + 1 := by omega
      obtain ⟨A, c, rfl, g2, g3, g4⟩ := hm.form
      go_wp2
      go_ret2
      refine ⟨A, c, rfl, g2, g3, Lib.hid fun i hi => ?_, hb02.trans (hbr.mono hb02.size)⟩
      obtain ⟨g, rfl, _, hc⟩ := g4 i hi
      exact ⟨g, rfl, by rw [hc, HF.out]⟩

set_option maxHeartbeats 1000000 in
theorem rLevels_bad (m n : Int) (g : Rk.okV m n = false) (w : World) :
    Calls Tryd.prog 16 #[.int .i64 m, .int .i64 n] w (RetL 0 (Rk.lvF m n) 2 w) := by
  have FIN := Lib.hid (fun (w1 : World) (hb : Below w.heap.size w w1) => (⟨none, 0, rfl, Nat.le_refl _, by omega, Lib.hid fun i hi => by omega, hb⟩ : RetL 0 (Rk.lvF m n) 2 w (.returned (.tuple #[.slice none 0 0, .int .i64 2])) w1))
  have g' := Rk.okV_f g
  clear g
  by_cases hw : 2 ≤ n ∧ n ≤ 4
  · have n1 := decide_eq_true hw
    have g2 : ¬ (1 ≤ m ∧ m ≤ 32) := by omega
    clear g' hw
    go_enter Tryd.func16, Tryd.ntmps16
    go_wp2_with (first
      | (go_at_call 23; refine (rWide_any n _).mono ?_; rintro e w1 ⟨rfl, hb1⟩; rw [n1])
      | (go_at_call 24; exfalso; omega))
    all_goals first
      | (go_ret2; first | exact FIN.out _ hb1 | exact FIN.out _ (Below.refl _ _))
      | (exfalso; omega)
  · have n1 := decide_eq_false hw
    clear g' hw
    go_enter Tryd.func16, Tryd.ntmps16
    go_wp2_with (go_at_call 23; refine (rWide_any n _).mono ?_; rintro e w1 ⟨rfl, hb1⟩; rw [n1])
    all_goals (go_ret2; first | exact FIN.out _ hb1 | exact FIN.out _ (Below.refl _ _))

theorem rLevels_any (m n : Int) (w : World) :
    Calls Tryd.prog 16 #[.int .i64 m, .int .i64 n] w (RetL (Rk.lvN m n) (Rk.lvF m n) (Rk.err (Rk.okV m n)) w) := by
  cases g : Rk.okV m n with
  | false => unfold Rk.lvN; rw [g]; exact rLevels_bad m n g w
  | true =>
    obtain ⟨M, N, rfl, rfl, h0, h1, h2, h4⟩ := Rk.okV_nat g
    unfold Rk.lvN
    rw [g]
    exact rLevels_ok M N h0 h1 h2 h4 w
end Go.Proofs.YtgodedghmddhpaaDoor
