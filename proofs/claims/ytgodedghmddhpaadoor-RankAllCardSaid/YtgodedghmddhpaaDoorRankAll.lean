/- For every row and level: its items are for all items of the level below, in a row. Condition: the table of powers holds at the call's start what the program's text lays there (the tied card). -/
import Derived.Test.YtgodedghmddhpaaDoorRrLaid
import Derived.Deep.LoopGhost
namespace Go.Proofs.YtgodedghmddhpaaDoor.rankAll
open Go.ChangeShapes Go.WideShapes Go.ChangeAt Go.RowKit

/-- The item i of a level, and the one ahead. -/
theorem step {b n N i : Nat} (hN : (b + n - 1) / n = N) (hn : 2 ≤ n) (hi : i < N) : i * n < b ∧ (i + 1 < N → (i + 1) * n < b) := by
  have g : ∀ j, j < N → j * n < b := fun j hj => by
    have : (j + 1) * n ≤ b + n - 1 := (Nat.le_div_iff_mul_le (by omega)).1 (by rw [hN]; exact hj)
    rw [Nat.succ_mul] at this
    omega
  exact ⟨g i hi, g (i + 1)⟩
theorem last_end {b n N : Nat} (hN : (b + n - 1) / n = N) (hn : 2 ≤ n) : b ≤ N * n := by
  have := Nat.lt_succ_self N
  rw [← hN] at this
  have h := (Nat.div_lt_iff_lt_mul (by omega)).1 this
  rw [hN, Nat.succ_mul] at h
  omega

theorem lst_nat {m n i b h : Nat} {z : Int} (ez : z - 1 = (h : Int)) (ch : Rk.cnt m n h = (b : Int)) : Rk.lst m n z i = ((min ((i + 1) * n) b : Nat) : Int) - 1 := by
  have e : ((i : Int) + 1) * n = (((i + 1) * n : Nat) : Int) := by simp
  unfold Rk.lst
  rw [ez, ch, e]
  generalize (i + 1) * n = a
  omega

set_option maxHeartbeats 2000000 in
theorem walk_none (m n h : Int) (g : Rk.okC m n h = false ∨ m < 1 ∨ h < 1) (w : World) (hp : Pow w) :
    Calls Tryd.prog 6 #[.int .i64 m, .int .i64 n, .int .i64 h] w (Ret (.bool true) w) := by
  have HP := Lib.hid hp
  clear hp
  have HG := Lib.hid g
  cases gc : Rk.okC m n h with
  | false =>
    go_enter Tryd.func6, Tryd.ntmps6
    go_wp2_with fail
    refine (alive_any _ HP.out).mono ?_
    rintro e w1 ⟨rfl, b1⟩
    go_wp2_with fail
    refine (ex2 (x := 0) (z := 2) (count_any m n h _ (HP.out.below b1)) (by rw [gc]; rfl) (by rw [gc]; rfl)).mono ?_
    rintro e w2 ⟨rfl, hb2⟩
    go_wp2
    go_ret
    exact Ret.mk rfl (below_then b1 hb2)
  | true =>
    have hmh : m < 1 ∨ h < 1 := by rcases g with g | g; · rw [gc] at g; cases g
                                   · exact g
    clear g
    by_cases hm : m < 1
    · clear hmh
      go_enter Tryd.func6, Tryd.ntmps6
      go_wp2_with fail
      refine (alive_any _ HP.out).mono ?_
      rintro e w1 ⟨rfl, b1⟩
      go_wp2_with fail
      refine (ex2 (z := 0) (count_any m n h _ (HP.out.below b1)) rfl (by rw [gc]; rfl)).mono ?_
      rintro e w2 ⟨rfl, hb2⟩
      go_wp2
      go_ret
      exact Ret.mk rfl (below_then b1 hb2)
    · have hh : h < 1 := by omega
      clear hmh
      go_enter Tryd.func6, Tryd.ntmps6
      go_wp2_with fail
      refine (alive_any _ HP.out).mono ?_
      rintro e w1 ⟨rfl, b1⟩
      go_wp2_with fail
      refine (ex2 (z := 0) (count_any m n h _ (HP.out.below b1)) rfl (by rw [gc]; rfl)).mono ?_
      rintro e w2 ⟨rfl, hb2⟩
      go_wp2
      go_ret
      exact Ret.mk rfl (below_then b1 hb2)

set_option maxHeartbeats 2000000 in
theorem walk_some (m n h : Nat) (h0 : 1 ≤ m) (h1 : m ≤ 32) (h2 : 2 ≤ n) (h4 : n ≤ 4) (hh : h ≤ 3) (z : Int) (hz : z = ((h + 1 : Nat) : Int)) (w : World) (hp : Pow w) :
    Calls Tryd.prog 6 #[.int .i64 m, .int .i64 n, .int .i64 z] w (Ret (.bool true) w) := by
  have HP := Lib.hid hp
  have z1 : 1 ≤ z := by omega
  have z4 : z ≤ 4 := by omega
  have ez : z - 1 = (h : Int) := by omega
  have gm : Rk.mayBe m n = true := Rk.mayBe_mk h1 h2 h4
  have gc : Rk.okC m n z = true := by rw [hz]; exact Rk.okC_mk h1 h2 h4 (by omega)
  have gc' : Rk.okC m n h = true := Rk.okC_mk h1 h2 h4 (by omega)
  have cz : Rk.cnt m n z = ((Rk.items m n (h + 1) : Nat) : Int) := by rw [hz]; simp [Rk.cnt]
  have ch : Rk.cnt m n h = ((Rk.items m n h : Nat) : Int) := by simp [Rk.cnt]
  have hN := Lib.hid (Rk.items_succ h1 h2 h4 (show h ≤ 4 by omega))
  have N1 := Rk.items_pos h1 h0 h2 h4 (show h + 1 ≤ 4 by omega)
  have N32 := Rk.items_le h1 h2 h4 (show h + 1 ≤ 4 by omega)
  have b1 := Rk.items_pos h1 h0 h2 h4 (show h ≤ 4 by omega)
  have b32 := Rk.items_le h1 h2 h4 (show h ≤ 4 by omega)
  have LST := Lib.hid (fun (i : Nat) (hi : i < Rk.items m n (h + 1)) (W : World) (hW : Pow W) =>
    ex2 (x := ((min ((i + 1) * n) (Rk.items m n h) : Nat) : Int) - 1) (z := 0) (last_any m n z i W hW)
      (by rw [Rk.okL_mk gm ⟨z1, z4, by omega, by rw [cz]; omega⟩]; show Rk.lst _ _ _ _ = _; exact lst_nat ez ch)
      (by rw [Rk.okL_mk gm ⟨z1, z4, by omega, by rw [cz]; omega⟩]; rfl))
  have CZ := Lib.hid (fun (W : World) (hW : Pow W) => ex2 (x := ((Rk.items m n (h + 1) : Nat) : Int)) (z := 0) (count_any m n z W hW) (by rw [gc]; exact cz) (by rw [gc]; rfl))
  have CH := Lib.hid (fun (W : World) (hW : Pow W) => ex2 (x := ((Rk.items m n h : Nat) : Int)) (z := 0) (count_any m n h W hW) (by rw [gc']; exact ch) (by rw [gc']; rfl))
  clear hp hz gm gc gc' cz ch
  generalize Rk.items m n (h + 1) = N at *
  generalize Rk.items m n h = b at *
  go_enter Tryd.func6, Tryd.ntmps6
  go_wp2_with fail
  refine (alive_any _ HP.out).mono ?_
  rintro e w1 ⟨rfl, b1⟩
  go_wp2_with fail
  refine (CZ.out _ (HP.out.below b1)).mono ?_
  rintro e w2 ⟨rfl, hb2⟩
  have b2 := below_then b1 hb2
  clear b1 hb2
  go_wp2_with fail
  refine (CH.out _ (HP.out.below b2)).mono ?_
  rintro e w3 ⟨rfl, hb3⟩
  have b3 := below_then b2 hb3
  clear b2 hb3
  go_wp2
  go_loopg [12, 13] 33 (fun gh av kv wr => ∃ k a : Nat, k ≤ N ∧ gh = 33 - k ∧ a = min (k * n) b ∧ kv = .int .i64 k ∧ av = .int .i64 ((a : Int) - 1) ∧ Below w3.heap.size w3 wr)
  case atStart => exact ⟨0, 0, by omega, rfl, by simp, rfl, rfl, Below.refl _ _⟩
  case round =>
    obtain ⟨k, a, hk, rfl, ha, rfl, rfl, hbr⟩ := hrel
    by_cases hlt : k < N
    · obtain ⟨s1, s2⟩ := step hN.out h2 hlt
      have L := LST.out k hlt
      have HA := Lib.hid (rfl : min ((k + 1) * n) b = min ((k + 1) * n) b)
      obtain ⟨x, hx⟩ : ∃ x, min ((k + 1) * n) b = x := ⟨_, rfl⟩
      have HX := Lib.hid hx.symm
      rw [hx] at L
      have LL := Lib.hid L
      rw [Nat.succ_mul] at hx s2
      generalize k * n = q at *
      have x1 : a < x := by omega
      have x2 : x ≤ a + n := by omega
      have x3 : x ≤ 32 := by omega
      clear HA L
      by_cases hl : k + 1 < N
      · have x4 : (((x : Int) - 1) == ((a : Int) - 1 + n)) = true := by have := s2 hl; simp; omega
        have x5 : (((x : Int) - 1) != ((a : Int) - 1 + n)) = false := by unfold bne; rw [x4]; rfl
        clear s2 hx ha
        go_wp2_with fail
        refine (LL.out _ (HP.out.below (below_then b3 hbr))).mono ?_
        rintro e w4 ⟨rfl, hb4⟩
        have hbr' := below_then hbr hb4
        go_wp2
        go_roundg (33 - (k + 1))
        case measure => omega
        case rel => exact ⟨k + 1, x, by omega, rfl, HX.out, by go_num, rfl, hbr'⟩
      · clear s2 hx ha
        go_wp2_with fail
        refine (LL.out _ (HP.out.below (below_then b3 hbr))).mono ?_
        rintro e w4 ⟨rfl, hb4⟩
        have hbr' := below_then hbr hb4
        go_wp2
        go_roundg (33 - (k + 1))
        case measure => omega
        case rel => exact ⟨k + 1, x, by omega, rfl, HX.out, by go_num, rfl, hbr'⟩
    · obtain rfl : k = N := by omega
      have hE := last_end hN.out h2
      obtain rfl : a = b := by omega
      clear ha hE
      go_wp2
      go_ret
      exact Ret.mk rfl (below_then b3 hbr)

theorem walk (m n h : Int) (w : World) (hp : Pow w) :
    Calls Tryd.prog 6 #[.int .i64 m, .int .i64 n, .int .i64 h] w (Ret (.bool true) w) := by
  by_cases g : Rk.okC m n h = false ∨ m < 1 ∨ h < 1
  · exact walk_none m n h g w hp
  · have gc : Rk.okC m n h = true := by
      cases e : Rk.okC m n h with
      | false => exact absurd (.inl e) g
      | true => rfl
    obtain ⟨M, N, H, rfl, rfl, rfl, h1, h2, h3, h4⟩ := Rk.okC_nat gc
    exact walk_some M N (H - 1) (by omega) h1 h2 h3 (by omega) _ (by omega) w hp

set_option maxRecDepth 100000 in
theorem lifted (os : Os) (started : os.Started) (H : Type) (enc : TypeId × Value → H) :
    ReturnsInHanded {} Tryd.checked os 6 .any (fun w args => (Rows.rankAllSpec.pre enc Tryd.prog Tryd.f6 [] false w args ∧ laidMetH Tryd.prog laidL w) ∧ sizedMet enc Tryd.prog Tryd.f6 (OpenSpec.ofChange Rows.rankAllSpec) false w args)
      (Rows.rankAllSpec.post enc Tryd.prog Tryd.f6 false true false false) := by
  refine returnsInHanded_of_change_and (C := Tryd.checked) (X := fun w _ => laidMetH Tryd.prog laidL w) (fun _ _ _ hh h => h.of_heap hh) own started (by kernel_rfl) Tryd.func6
    (ChangeSpec.witness_shaped (enc := enc) (C := Tryd.checked) (os := os) (X := fun w _ => laidMetH Tryd.prog laidL w) false (World.doorLaid Tryd.prog 400 os) #[.int .i64 0, .int .i64 0, .int .i64 0] 8 rfl (World.shaped_of_RefB (by kernel_rfl) (by kernel_rfl)) (by kernel_rfl) (by kernel_rfl) (by kernel_rfl) (door_met os _)) ?_
  intro W base args ds gs before hval0 hW _ _ hL _
  refine law_of laidOut (by kernel_rfl) (by kernel_rfl) Tryd.underlying4 rfl ?_ hW fun p hA => ?_
  · intro ds hd
    match ds, hd with
    | [_, _, _], _ => rfl
  have hval' : ∀ (j : Nat) t v, Tryd.f6.params[j]? = some t → args[j]? = some v → Value.okWide Tryd.prog W .any base t v := hval0
  rw [Tryd.params6] at hA hval'
  obtain ⟨v0, vs0, d0, ds0, p0, q0, hargs, rfl, rfl, h0, r0⟩ := trodAll_cons hA
  obtain ⟨v1, vs1, d1, ds1, p1, q1, rfl, rfl, rfl, h1, r1⟩ := trodAll_cons r0
  obtain ⟨v2, vs2, d2, ds2, p2, q2, rfl, rfl, rfl, h2, r2⟩ := trodAll_cons r1
  obtain ⟨rfl, rfl, rfl⟩ := trodAll_nil r2
  obtain rfl : args = #[v0, v1, v2] := by cases args; simp_all
  obtain ⟨a0, rfl, _, _, _⟩ := open_int Tryd.underlying3 (hval' 0 _ v0 rfl rfl) h0
  obtain ⟨a1, rfl, _, _, _⟩ := open_int Tryd.underlying3 (hval' 1 _ v1 rfl rfl) h1
  obtain ⟨a2, rfl, _, _, _⟩ := open_int Tryd.underlying3 (hval' 2 _ v2 rfl rfl) h2
  exact walk a0 a1 a2 W (of_laid hL)

theorem row : Rows.RankAllSaid :=
  OpenClaim.holds_of_wide 6 Tryd.f6 rfl rfl rfl rfl rfl rfl rfl ⟨rfl, rfl, rfl, rfl, rfl⟩ rfl rfl rfl rfl rfl (by kernel_rfl) Tryd.func6 (by kernel_rfl)
    (of_decide_eq_true (by kernel_rfl)) (by unfold Func.isWrapper; first | (rw [if_pos (by decide +kernel)]; kernel_rfl) | (rw [if_neg (by decide +kernel)]; exact ⟨rfl, rfl⟩))
    (fun os started H enc _ => lifted os started H enc)

theorem card : Rows.RankAllCardSaid :=
  Claim7.holds_tied_plain_at .later [] [.data] true Rows.rankAllCard.stood.harness false
    row (fun _ h => by cases h) (by kernel_rfl) (fun _ h => by cases h) rankAll_row_tie rfl ⟨rfl, rfl⟩ (by kernel_rfl) rfl
    (fun f fn hf hfn => by
      obtain rfl : f = 6 := Option.some.inj ((show Tryd.prog.funcNamed "bascule/basculelaw03.RankAll" = some 6 by kernel_rfl).symm.trans hf) |>.symm
      obtain rfl : fn = Tryd.f6 := (Option.some.inj (Tryd.func6.symm.trans hfn)).symm
      exact ⟨by kernel_rfl, fun j t ht => by
        rw [Tryd.params6] at ht
        have hm : t ∈ [3] := by simpa using Array.mem_of_getElem? ht
        have hall : ([3].all fun u => !Tryd.prog.wantsStandIn u) = true := by kernel_rfl
        exact (show Tryd.prog.wantsStandIn t = false by simpa using List.all_eq_true.1 hall t hm)⟩)
    (by kernel_rfl)
#print axioms card
end Go.Proofs.YtgodedghmddhpaaDoor.rankAll
