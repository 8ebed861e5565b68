/- For every row: it has MaxHigh levels above it at most, each as Count says; the top has as many items as the width at most, and no level below it has so few. Condition: the table of powers holds at the call's start what the program's text lays there (the tied card). -/
import Derived.Test.YtgodedghmddhpaaDoorRrLaid
import Derived.Deep.LoopGhost
namespace Go.Proofs.YtgodedghmddhpaaDoor.rankTop
open Go.ChangeShapes Go.WideShapes Go.ChangeAt Go.RowKit

set_option maxHeartbeats 2000000 in
theorem walk_bad (m n : Int) (g : Rk.okV m n = false) (w : World) (hp : Pow w) :
    Calls Tryd.prog 7 #[.int .i64 m, .int .i64 n] w (Ret (.bool true) w) := by
  have HP := Lib.hid hp
  have hN : Rk.lvN m n = 0 := by unfold Rk.lvN; rw [g]; rfl
  have hE : Rk.err (Rk.okV m n) = 2 := by rw [g]; rfl
  clear hp g
  go_enter Tryd.func7, Tryd.ntmps7
  go_wp2_with fail
  refine (alive_any _ HP.out).mono ?_
  rintro e w1 ⟨rfl, b1⟩
  go_wp2_with fail
  refine (exL (levels_any m n _ (HP.out.below b1)) hN hE).mono ?_
  rintro e w2 ⟨A2, c2, rfl, _, _, H2, hb2⟩
  go_wp2
  go_ret
  exact Ret.mk rfl (below_then b1 hb2)

set_option maxHeartbeats 2000000 in
theorem walk_ok (m n : Nat) (h0 : 1 ≤ m) (h1 : m ≤ 32) (h2 : 2 ≤ n) (h4 : n ≤ 4) (w : World) (hp : Pow w) :
    Calls Tryd.prog 7 #[.int .i64 m, .int .i64 n] w (Ret (.bool true) w) := by
  have HP := Lib.hid hp
  have hN : Rk.lvN m n = Rk.top m n + 1 := by unfold Rk.lvN; rw [Rk.okV_mk h0 h1 h2 h4]; rfl
  have hE : Rk.err (Rk.okV m n) = 0 := by rw [Rk.okV_mk h0 h1 h2 h4]; rfl
  have t4 := Rk.top_le m n
  have tA := Rk.top_at h1 h2 h4
  have tP := Rk.items_pos h1 h0 h2 h4 t4
  have TB := Lib.hid (fun j => @Rk.top_below m n j)
  have HF := Lib.hid (fun j => show Rk.lvF m n j = ((Rk.items m n j : Nat) : Int) by simp [Rk.lvF])
  have F0 := HF.out 0
  have FT := HF.out (Rk.top m n)
  rw [Rk.items_zero] at F0
  clear hp
  go_enter Tryd.func7, Tryd.ntmps7
  go_wp2_with fail
  refine (alive_any _ HP.out).mono ?_
  rintro e w1 ⟨rfl, b1⟩
  go_wp2_with fail
  refine (exL (levels_any m n _ (HP.out.below b1)) hN hE).mono ?_
  rintro e w2 ⟨A, c, rfl, hc1, hc2, H2, hb2⟩
  have b2 := below_then b1 hb2
  clear b1 hb2
  generalize Rk.top m n = T at *
  obtain ⟨g, rfl, k0⟩ := H2.out 0 (by omega)
  have kT : w2.cell? ⟨g, T, none⟩ = some (.int .i64 (Rk.lvF m n T)) := by
    obtain ⟨g', e, h⟩ := H2.out T (by omega)
    injection e with e
    injection e with e
    subst e
    exact h
  rw [F0] at k0
  rw [FT] at kT
  clear F0 FT
  generalize Rk.items m n T = q at *
  have e1 : decide ((T : Int) + 1 < 1) = false := by simp; omega
  have e2 : decide (5 < (T : Int) + 1) = false := by simp; omega
  have e3 : decide (n < q) = false := by simp; omega
  have e4 : decide ((q : Int) < 1) = false := by simp; omega
  go_wp2
  clear e1 e2 e3 e4
  go_loopg [8] 6 (fun gh hv wr => ∃ k : Nat, k ≤ T + 1 ∧ gh = 6 - k ∧ hv = .int .i64 k ∧ Below w2.heap.size w2 wr)
  case atStart => exact ⟨0, by omega, rfl, rfl, Below.refl _ _⟩
  case round =>
    obtain ⟨k, hk, rfl, rfl, hbr⟩ := hrel
    by_cases hlt : k ≤ T
    · have ck : w2.cell? ⟨g, k, none⟩ = some (.int .i64 (Rk.items m n k : Nat)) := by
        obtain ⟨g', e, h⟩ := H2.out k (by omega)
        injection e with e
        injection e with e
        subst e
        rw [h, HF.out]
      have hgs := World.block_lt_of_cell? _ _ ck
      have eC : Rk.val (Rk.okC m n k) (Rk.cnt m n k) = ((Rk.items m n k : Nat) : Int) := by rw [Rk.okC_mk h1 h2 h4 (by omega)]; simp [Rk.val, Rk.cnt]
      have eE : Rk.err (Rk.okC m n k) = 0 := by rw [Rk.okC_mk h1 h2 h4 (by omega)]; rfl
      have hlo : k < T → n < Rk.items m n k := TB.out k
      have CNT := Lib.hid (fun W (hW : Pow W) => ex2 (count_any m n k W hW) eC eE)
      clear eC eE k0 kT tA tP
      generalize Rk.items m n k = x at *
      by_cases hkT : k < T
      · have hlo' := hlo hkT
        clear hlo
        go_wp2_with fail
        refine (CNT.out _ (HP.out.below (below_then b2 hbr))).mono ?_
        rintro e w3 ⟨rfl, hb3⟩
        have hbr' := below_then hbr hb3
        have ck' := (hbr'.cell (p := ⟨g, k, none⟩) hgs).trans ck
        go_wp2
        go_roundg (6 - (k + 1))
        case measure => omega
        case rel => exact ⟨k + 1, by omega, rfl, by go_num, hbr'⟩
      · obtain rfl : k = T := by omega
        clear hlo
        go_wp2_with fail
        refine (CNT.out _ (HP.out.below (below_then b2 hbr))).mono ?_
        rintro e w3 ⟨rfl, hb3⟩
        have hbr' := below_then hbr hb3
        have ck' := (hbr'.cell (p := ⟨g, k, none⟩) hgs).trans ck
        go_wp2
        go_roundg (6 - (k + 1))
        case measure => omega
        case rel => exact ⟨k + 1, by omega, rfl, by go_num, hbr'⟩
    · obtain rfl : k = T + 1 := by omega
      go_wp2
      go_ret
      exact Ret.mk rfl (below_then b2 hbr)

theorem walk (m n : Int) (w : World) (hp : Pow w) :
    Calls Tryd.prog 7 #[.int .i64 m, .int .i64 n] w (Ret (.bool true) w) := by
  cases g : Rk.okV m n with
  | false => exact walk_bad m n g w hp
  | true =>
    obtain ⟨M, N, rfl, rfl, h0, h1, h2, h4⟩ := Rk.okV_nat g
    exact walk_ok M N h0 h1 h2 h4 w hp

set_option maxRecDepth 100000 in
theorem lifted (os : Os) (started : os.Started) (H : Type) (enc : TypeId × Value → H) :
    ReturnsInHanded {} Tryd.checked os 7 .any (fun w args => (Rows.rankTopSpec.pre enc Tryd.prog Tryd.f7 [] false w args ∧ laidMetH Tryd.prog laidL w) ∧ sizedMet enc Tryd.prog Tryd.f7 (OpenSpec.ofChange Rows.rankTopSpec) false w args)
      (Rows.rankTopSpec.post enc Tryd.prog Tryd.f7 false true false false) := by
  refine returnsInHanded_of_change_and (C := Tryd.checked) (X := fun w _ => laidMetH Tryd.prog laidL w) (fun _ _ _ hh h => h.of_heap hh) own started (by kernel_rfl) Tryd.func7
    (ChangeSpec.witness_shaped (enc := enc) (C := Tryd.checked) (os := os) (X := fun w _ => laidMetH Tryd.prog laidL w) false (World.doorLaid Tryd.prog 400 os) #[.int .i64 0, .int .i64 0] 8 rfl (World.shaped_of_RefB (by kernel_rfl) (by kernel_rfl)) (by kernel_rfl) (by kernel_rfl) (by kernel_rfl) (door_met os _)) ?_
  intro W base args ds gs before hval0 hW _ _ hL _
  refine law_of laidOut (by kernel_rfl) (by kernel_rfl) Tryd.underlying4 rfl ?_ hW fun p hA => ?_
  · intro ds hd
    match ds, hd with
    | [_, _], _ => rfl
  have hval' : ∀ (j : Nat) t v, Tryd.f7.params[j]? = some t → args[j]? = some v → Value.okWide Tryd.prog W .any base t v := hval0
  rw [Tryd.params7] at hA hval'
  obtain ⟨v0, vs0, d0, ds0, p0, q0, hargs, rfl, rfl, h0, r0⟩ := trodAll_cons hA
  obtain ⟨v1, vs1, d1, ds1, p1, q1, rfl, rfl, rfl, h1, r1⟩ := trodAll_cons r0
  obtain ⟨rfl, rfl, rfl⟩ := trodAll_nil r1
  obtain rfl : args = #[v0, v1] := by cases args; simp_all
  obtain ⟨a0, rfl, _, _, _⟩ := open_int Tryd.underlying3 (hval' 0 _ v0 rfl rfl) h0
  obtain ⟨a1, rfl, _, _, _⟩ := open_int Tryd.underlying3 (hval' 1 _ v1 rfl rfl) h1
  exact walk a0 a1 W (of_laid hL)

theorem row : Rows.RankTopSaid :=
  OpenClaim.holds_of_wide 7 Tryd.f7 rfl rfl rfl rfl rfl rfl rfl ⟨rfl, rfl, rfl, rfl, rfl⟩ rfl rfl rfl rfl rfl (by kernel_rfl) Tryd.func7 (by kernel_rfl)
    (of_decide_eq_true (by kernel_rfl)) (by unfold Func.isWrapper; first | (rw [if_pos (by decide +kernel)]; kernel_rfl) | (rw [if_neg (by decide +kernel)]; exact ⟨rfl, rfl⟩))
    (fun os started H enc _ => lifted os started H enc)

theorem card : Rows.RankTopCardSaid :=
  Claim7.holds_tied_plain_at .later [] [.data] true Rows.rankTopCard.stood.harness false
    row (fun _ h => by cases h) (by kernel_rfl) (fun _ h => by cases h) rankTop_row_tie rfl ⟨rfl, rfl⟩ (by kernel_rfl) rfl
    (fun f fn hf hfn => by
      obtain rfl : f = 7 := Option.some.inj ((show Tryd.prog.funcNamed "bascule/basculelaw03.RankTop" = some 7 by kernel_rfl).symm.trans hf) |>.symm
      obtain rfl : fn = Tryd.f7 := (Option.some.inj (Tryd.func7.symm.trans hfn)).symm
      exact ⟨by kernel_rfl, fun j t ht => by
        rw [Tryd.params7] at ht
        have hm : t ∈ [3] := by simpa using Array.mem_of_getElem? ht
        have hall : ([3].all fun u => !Tryd.prog.wantsStandIn u) = true := by kernel_rfl
        exact (show Tryd.prog.wantsStandIn t = false by simpa using List.all_eq_true.1 hall t hm)⟩)
    (by kernel_rfl)
#print axioms card
end Go.Proofs.YtgodedghmddhpaaDoor.rankTop
