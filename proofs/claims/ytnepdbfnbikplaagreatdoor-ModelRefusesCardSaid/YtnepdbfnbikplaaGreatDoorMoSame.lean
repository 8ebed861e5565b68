/- Two lists of answers: the document's own comparison. -/
import Derived.Test.YtnepdbfnbikplaaGreatDoorMoTold
import Derived.Lib.QuietBelow
import Derived.BigQuiet
namespace Go.Proofs.YtnepdbfnbikplaaGreatDoor
open Go.RowKit Go.Lib Tb Pt Opn

theorem IsAs.row {w : World} {A : Option Addr} {t : List Ans} (h : IsAs w A t) {i : Nat} (hi : i < t.length) : ∃ b off v, A = some ⟨b, off, none⟩ ∧ w.cell? ⟨b, off + i * 3, none⟩ = some (.int .i64 t[i].1) ∧ w.cell? ⟨b, off + i * 3 + 1, none⟩ = some (.int .u32 t[i].2.1) ∧ w.cell? ⟨b, off + i * 3 + 2, none⟩ = some v ∧ IsRV w v t[i].2.2 := h i _ (List.getElem?_eq_getElem hi)
/-- How far two lists are the same. -/
def Alike (s t : List Ans) (j : Nat) : Prop := ∀ m, (h : m < s.length) → (h' : m < t.length) → m < j → s[m] = t[m]
theorem alike_all {s t : List Ans} (hl : s.length = t.length) (h : Alike s t s.length) : s = t := List.ext_getElem hl fun m h1 h2 => h m h1 h2 h1

set_option maxRecDepth 100000 in
set_option maxHeartbeats 4000000 in
theorem mSameAll_any (A B : Option Addr) (s t : List Ans) (c d : Nat) (hl : s.length ≤ 1000000 ∧ t.length ≤ 1000000) (hls : ∀ x ∈ s, x.2.2.length ≤ 9223372036854775807) (w : World) (h : IsAs w A s) (g : IsAs w B t) :
    Calls Tryz.prog 10 #[.slice A s.length c, .slice B t.length d] w (Ret (.bool (decide (s = t))) w) := by
  obtain ⟨x, hx⟩ : ∃ x, decide (s = t) = x := ⟨_, rfl⟩
  rw [hx]
  have HX := Lib.hid hx
  have HA := Lib.hid h
  have HB := Lib.hid g
  have HL := Lib.hid hls
  clear h g hx hls
  obtain ⟨N, hN⟩ : ∃ N, s.length = N := ⟨_, rfl⟩
  obtain ⟨M, hM⟩ : ∃ M, t.length = M := ⟨_, rfl⟩
  rw [hN, hM] at hl ⊢
  have HN := Lib.hid hN
  have HM := Lib.hid hM
  clear hN hM
  by_cases hnm : N = M
  · subst hnm
    have hne : ((N : Int) != (N : Int)) = false := by simp
    go_enter Tryz.func10, Tryz.ntmps10
    go_wp2
    go_loopw [5] (fun iv wr => Below w.heap.size w wr ∧ ∃ j : Nat, j ≤ N ∧ iv = .int .i64 j ∧ Hid (Alike s t j)) (fun iv _ => N - (intOf iv).toNat)
    case atStart => exact ⟨Below.refl _ _, 0, Nat.zero_le _, rfl, Lib.hid fun m _ _ hm => by omega⟩
    case round =>
      obtain ⟨hbr, j, hj, rfl, HO⟩ := hrel
      have i1 : (0 : Int) ≤ (j : Int) := by omega
      by_cases hlt : j < N
      · have i2 : (j : Int) < (N : Int) := by omega
        have j1 : j < s.length := by rw [HN.out]; exact hlt
        have j2 : j < t.length := by rw [HM.out]; exact hlt
        obtain ⟨b1, o1, v1, rfl, p0, p1, p2, p3⟩ := HA.out.row j1
        obtain ⟨b2, o2, v2, rfl, q0, q1, q2, q3⟩ := HB.out.row j2
        obtain ⟨A1, c1, rfl, _, _, hr1⟩ := p3
        obtain ⟨A2, c2, rfl, _, _, hr2⟩ := q3
        have HR := Lib.hid (fun W (h1 : IsR W A1 (s[j]'j1).2.2) (h2 : IsR W A2 (t[j]'j2).2.2) => rSameRes_any (s[j]'j1).1 (s[j]'j1).2.1 (t[j]'j2).1 (t[j]'j2).2.1 A1 A2 (s[j]'j1).2.2 (t[j]'j2).2.2 c1 c2 (HL.out _ (List.getElem_mem j1)) W h1 h2)
        have H1 := Lib.hid (hr1.below hbr)
        have H2 := Lib.hid (hr2.below hbr)
        have hst : decide (s[j].1 = t[j].1 ∧ s[j].2.1 = t[j].2.1 ∧ s[j].2.2 = t[j].2.2) = decide (s[j] = t[j]) := by
          rw [Bool.eq_iff_iff, decide_eq_true_iff, decide_eq_true_iff]
          exact ⟨fun e => Prod.ext e.1 (Prod.ext e.2.1 e.2.2), fun e => by rw [e]; exact ⟨rfl, rfl, rfl⟩⟩
        rw [hst] at HR
        obtain ⟨z, hz⟩ : ∃ z, decide (s[j] = t[j]) = z := ⟨_, rfl⟩
        rw [hz] at HR
        have HZ := Lib.hid hz
        replace p0 := (hbr.cell (World.block_lt_of_cell? _ _ p0)).trans p0
        replace p1 := (hbr.cell (World.block_lt_of_cell? _ _ p1)).trans p1
        replace p2 := (hbr.cell (World.block_lt_of_cell? _ _ p2)).trans p2
        replace q0 := (hbr.cell (World.block_lt_of_cell? _ _ q0)).trans q0
        replace q1 := (hbr.cell (World.block_lt_of_cell? _ _ q1)).trans q1
        replace q2 := (hbr.cell (World.block_lt_of_cell? _ _ q2)).trans q2
        generalize s[j].1 = x1 at *
        generalize s[j].2.1 = x2 at *
        generalize t[j].1 = y1 at *
        generalize t[j].2.1 = y2 at *
        generalize s[j].2.2.length = x3 at *
        generalize t[j].2.2.length = y3 at *
        clear hst hz hr1 hr2
        go_wp2_with fail
        have k0 := cell_regrown p0
        have k1 := cell_regrown p1
        have k2 := cell_regrown p2
        have l0 := cell_regrown q0
        have l1 := cell_regrown q1
        have l2 := cell_regrown q2
        refine wp_region_quiet_below (by kernel_rfl) (by kernel_rfl) ?_
        repeat (go_big_quiet_step (exact Calls.regrown_of (HR.out _ (H1.out.below (below_regrown _ _ _)) (H2.out.below (below_regrown _ _ _)))))
        refine wpQuiet_nil ?_
        intro W3 hw'
        obtain ⟨⟨dq, osq⟩, hw''⟩ := hw'
        have hb3 := below_regrown wr dq osq
        rw [← hw''] at hb3
        have hb4 := below_then hbr hb3
        clear hw'' k0 k1 k2 l0 l1 l2
        cases z with
        | true =>
          have HT := Lib.hid (of_decide_eq_true HZ.out)
          go_wp2
          go_roundw
          case rel => exact ⟨hb4, j + 1, by omega, by go_num, Lib.hid fun m h1 h2 hm => by
            rcases Nat.lt_or_eq_of_le (Nat.le_of_lt_succ hm) with hh | rfl
            · exact HO.out m h1 h2 hh
            · exact HT.out⟩
          case measure => simp [intOf]; omega
        | false =>
          have HT := Lib.hid (of_decide_eq_false HZ.out)
          have e : x = false := by rw [← HX.out]; exact decide_eq_false fun e => HT.out (by subst e; rfl)
          subst e
          go_wp2
          go_ret
          exact Ret.mk rfl hb4
      · obtain rfl : j = N := by omega
        have i2 : ¬ (j : Int) < (j : Int) := by omega
        have e : x = true := by rw [← HX.out]; exact decide_eq_true (alike_all (by rw [HN.out, HM.out]) (by rw [HN.out]; exact HO.out))
        subst e
        go_wp2
        go_ret
        exact Ret.mk rfl hbr
  · have hne : ((N : Int) != (M : Int)) = true := bne_iff_ne.2 (by omega)
    have e : x = false := by rw [← HX.out]; exact decide_eq_false fun e => hnm (by rw [← HN.out, ← HM.out, e])
    subst e
    go_enter Tryz.func10, Tryz.ntmps10
    go_wp2
    go_ret
    exact Ret.mk rfl (Below.refl _ _)
end Go.Proofs.YtnepdbfnbikplaaGreatDoor
