/- Adds that come from the other end leave the same cells: for all cells (up to 1,024), places and counts (up to 100; beyond them the law answers true). No condition. -/
import Derived.Test.YtiaimenngmfnmaaLaw
import Derived.Test.YtiaimenngmfnmaaCeAlive
import Derived.Test.YtiaimenngmfnmaaCsMath
import Derived.Test.YtiaimenngmfnmaaCePush
import Derived.Test.YtiaimenngmfnmaaCeOpen
namespace Go.Proofs.Ytiaimenngmfnmaa.cellSums
open Go.ChangeShapes Go.WideShapes Go.ChangeAt Go.RowKit Ce

theorem acc_info : (Try.prog.info? 32).map (fun i => (i.zero, i.size, i.bytes)) = some (some (.agg #[.int .u8 0, .int .i64 0, .int .u64 0, .int .u64 0, .int .u64 0, .int .u64 0, .int .u64 0, .int .u64 0, .int .u64 0, .int .u64 0]), 10, 80) := by kernel_rfl

theorem l10_one1 {a : Acc} {u : Value} (h : u ∈ l10 a) : u.oneCell' = true := by
  simp only [l10, List.mem_cons, List.not_mem_nil, or_false] at h
  rcases h with rfl | rfl | rfl | rfl | rfl | rfl | rfl | rfl | rfl | rfl <;> rfl

set_option maxHeartbeats 2000000 in
theorem walk_few (A T U : Option Addr) (n c N d e : Nat) (hn : n ≤ 1024) (hN : N ≤ 100) (hc : n ≤ c ∧ c ≤ 9223372036854775807) (hA : A = none → n = 0 ∧ c = 0) (cf : Nat → C4) (f g : Nat → Int) (w : World) (hI : IsCells w A n cf) (hF : IsNums .i64 w T N f) (hG : IsNums .u64 w U N g) :
    Calls Try.prog 8 #[.slice A n c, .slice T N d, .slice U N e] w (Ret (.bool true) w) := by
  have HI := Lib.hid hI
  have HF := Lib.hid hF
  have HG := Lib.hid hG
  have HA := Lib.hid hA
  clear hI hF hG hA
  have t1 : decide ((1024 : Int) < n) = false := by simp; omega
  have t2 : decide ((100 : Int) < N) = false := by simp; omega
  go_enter Try.func8, Try.ntmps8
  go_wp2_with (go_at_call 12; refine (alive_any _).mono ?_; rintro e w1 ⟨rfl, hb1⟩)
  obtain ⟨B, hB⟩ : ∃ B, w.heap.size = B := ⟨_, rfl⟩
  have HB := Lib.hid hB
  rw [hB] at hb1
  clear hB
  go_loopw [8, 9, 10] (fun va vb i wr => ∃ k : Nat, k ≤ N ∧ i = .int .i64 k ∧ Hid (MadeL wr B 32 10 va k (fun j => l10 (addA (f j) (g j)))) ∧ Hid (MadeL wr B 32 10 vb k (fun j => l10 (addA (f (N - 1 - j)) (g (N - 1 - j))))) ∧ Hid (Apart va vb) ∧ Below B w wr) (fun _ _ i _ => N - (intOf i).toNat)
  case atStart => exact ⟨0, Nat.zero_le _, rfl, MadeL.nil _ _ _ _ _, MadeL.nil _ _ _ _ _, Lib.hid (Apart.nil _ _), hb1⟩
  case round =>
    obtain ⟨k, hk, rfl, Ha, Hb, Hne, hbr⟩ := hrel
    by_cases hlt : k < N
    · obtain ⟨b1, o1, rfl, f1⟩ := HF.out k hlt
      obtain ⟨b2, o2, rfl, f2⟩ := HG.out k hlt
      obtain ⟨_, _, e3, f3⟩ := HF.out (N - 1 - k) (by omega)
      obtain ⟨_, _, e4, f4⟩ := HG.out (N - 1 - k) (by omega)
      cases e3; cases e4
      have hB1 : ∀ {b : Nat} {o : Nat} {v : Value}, w.cell? ⟨b, o, none⟩ = some v → wr.cell? ⟨b, o, none⟩ = some v := fun h => (hbr.cell (by rw [← HB.out]; exact World.block_lt_of_cell? _ _ h)).trans h
      have g1 := hB1 f1
      have g2 := hB1 f2
      have g3 := hB1 f3
      have g4 := hB1 f4
      have HL1 := Lib.hid (World.block_lt_of_cell? _ _ f3)
      have HL2 := Lib.hid (World.block_lt_of_cell? _ _ f4)
      have i1 : (0 : Int) ≤ (k : Int) := by omega
      have i2 : (k : Int) < (N : Int) := by omega
      obtain ⟨q, hq⟩ : ∃ q, q = N - 1 - k := ⟨_, rfl⟩
      have i3 : (0 : Int) ≤ (q : Int) := by omega
      have i4 : (q : Int) < (N : Int) := by omega
      rw [← hq] at g3 g4
      have HQ := Lib.hid hq
      have hq' : (N : Int) - 1 - k = (q : Int) := by omega
      have HQ' := Lib.hid hq'
      clear hB1 f1 f2 f3 f4 hq hq'
      go_wp2
      rw [HQ'.out]
      have k1 := cell_regrown g1
      have k2 := cell_regrown g2
      refine wp_region_tail1_below (.tmp 8) rfl rfl 10 (by kernel_rfl) (by kernel_rfl) (fun _ _ _ _ h => h) ?_
      simp only [List.take_succ_cons, List.take_zero, List.drop_succ_cons, List.drop_zero]
      repeat (go_big_quiet_step (fail))
      refine wpQuiet_nil ?_
      intro W3 hw'
      obtain ⟨⟨dq, osq⟩, hw''⟩ := hw'
      have hb3 := below_regrown wr dq osq
      rw [← hw''] at hb3
      clear hw'' k1 k2
      have HBB : B ≤ W3.heap.size := by have h1 := hbr.size; have h2 := hb3.size; rw [← HB.out]; omega
      have hb4 : Below B w W3 := hbr.trans (hb3.mono (by rw [← HB.out]; exact hbr.size))
      have HA3 := Lib.hid (Ha.out.below hb3)
      have HB3 := Lib.hid (Hb.out.below hb3)
      have hBz : B ≤ w.heap.size := by rw [HB.out]; exact Nat.le_refl _
      have G3 := Lib.hid ((hbr.cell (p := ⟨b1, o1 + q, none⟩) (by rw [← HB.out]; exact HL1.out)).symm.trans g3)
      have G4 := Lib.hid ((hbr.cell (p := ⟨b2, o2 + q, none⟩) (by rw [← HB.out]; exact HL2.out)).symm.trans g4)
      clear g1 g2 g3 g4
      go_wp2_with (at_builtin
                   refine wpList_pushL rfl (.tmp 46) (.tmp 57) _ rfl Try.underlying39 acc_info rfl (by decide) (by decide) (v := u8) (f := fun j => l10 (addA (f j) (g j))) rfl rfl (HA3.out.alloc _) _ rfl (fun j u h => boxed W3 4 (f k) C4.zero ⟨0, g k, 0, 0⟩ j u h) (fun u hu => l10_one1 hu) (by omega) hBz (hb4.alloc HBB _) ?_
                   intro va W4 Ha4 hbW4 Hg4 Ho4)
      have Hb4 := Lib.hid ((HB3.out.alloc _).grown Hg4.out Hne.out.symm.kept)
      have Hne4 := Lib.hid (Hne.out.symm.push (fun k hk => ((HB3.out.alloc _).lt k hk).2) Ho4.out)
      have g3 := (hbW4.cell (p := ⟨b1, o1 + q, none⟩) (by rw [← HB.out]; exact HL1.out)).trans G3.out
      have g4 := (hbW4.cell (p := ⟨b2, o2 + q, none⟩) (by rw [← HB.out]; exact HL2.out)).trans G4.out
      have hBW4 : B ≤ W4.heap.size := by rw [← HB.out]; exact hbW4.size
      clear Hg4 Ho4 HA3 HB3 Ha Hb Hne hb3 hb4 HBB hbr
      have k1 := cell_regrown g3
      have k2 := cell_regrown g4
      refine wp_region_tail1_below (.tmp 9) rfl rfl 10 (by kernel_rfl) (by kernel_rfl) (fun _ _ _ _ h => h) ?_
      simp only [List.take_succ_cons, List.take_zero, List.drop_succ_cons, List.drop_zero]
      repeat (go_big_quiet_step (fail))
      refine wpQuiet_nil ?_
      intro W5 hw'
      obtain ⟨⟨dq, osq⟩, hw''⟩ := hw'
      have hb5 := below_regrown W4 dq osq
      rw [← hw''] at hb5
      clear hw'' k1 k2 g3 g4
      have HBB : B ≤ W5.heap.size := Nat.le_trans hBW4 hb5.size
      have hb6 : Below B w W5 := hbW4.trans (hb5.mono hBW4)
      have HA5 := Lib.hid (Ha4.out.below hb5)
      have HB5 := Lib.hid (Hb4.out.below hb5)
      go_wp2_with (at_builtin
                   refine wpList_pushL rfl (.tmp 59) (.tmp 70) _ rfl Try.underlying39 acc_info rfl (by decide) (by decide) (v := u9) (f := fun j => l10 (addA (f (N - 1 - j)) (g (N - 1 - j)))) rfl rfl (HB5.out.alloc _) _ rfl (fun j u h => boxed W5 4 (f q) C4.zero ⟨0, g q, 0, 0⟩ j u (by rw [HQ.out]; exact h)) (fun u hu => l10_one1 hu) (by omega) hBz (hb6.alloc HBB _) ?_
                   intro vb W6 Hb7 hbW7 Hg7 Ho7)
      have Ha7 := Lib.hid ((HA5.out.alloc _).grown Hg7.out Hne4.out.symm.kept)
      have Hne7 := Lib.hid (Hne4.out.symm.push (fun k hk => ((HA5.out.alloc _).lt k hk).2) Ho7.out)
      clear Hg7 Ho7 HA5 HB5 Ha4 Hb4 Hne4
      go_roundw
      case rel => exact ⟨k + 1, by omega, by go_num, Ha7, Hb7, Hne7, hbW7⟩
      case measure => simp [intOf]; omega
    · obtain rfl : k = N := by omega
      obtain ⟨Aa, ca, rfl, h1, h2, hOa⟩ := MadeL.form (s := 10) (f := fun j => l10 (addA (f j) (g j))) (fun _ => rfl) Ha.out
      obtain ⟨Ab, cb, rfl, h3, h4, hOb⟩ := MadeL.form (s := 10) (f := fun j => l10 (addA (f (k - 1 - j)) (g (k - 1 - j)))) (fun _ => rfl) Hb.out
      have HIr := Lib.hid (HI.out.same fun j hj => hbr.block j (by rw [← HB.out]; exact hj))
      have HAa := Lib.hid hOa.accs
      have HAb := Lib.hid hOb.accs
      clear hOa hOb Ha Hb Hne
      cases ho : okTo n (fun j => addA (f j) (g j)) k with
      | true =>
        have ho2 := (adds_ok n k f g).symm.trans ho
        have HO := Lib.hid ho
        have HO2 := Lib.hid ho2
        clear ho ho2
        go_wp2_with fail
        refine (run_ok A Aa n c k ca HA.out ⟨h1, h2⟩ (by omega) hn cf _ _ HIr.out HAa.out HO.out).mono ?_
        rintro e1 w2 ⟨A2, c2, S2, rfl, _, hO2, _, _, hb2⟩
        have HX := Lib.hid hO2.cells
        clear hO2
        go_wp2_with fail
        refine (run_ok A Ab n c k cb HA.out ⟨h3, h4⟩ (by omega) hn cf _ _ (HIr.out.same hb2.block) (HAb.out.same hb2.block) HO2.out).mono ?_
        rintro e2 w3 ⟨A3, c3, S3, rfl, _, hO3, _, _, hb3⟩
        have HY := Lib.hid hO3.cells
        clear hO3
        go_wp2_with fail
        refine (same_cells_true A2 A3 n c2 c3 (by omega) _ _ (HX.out.same hb3.block) (by rw [adds_back]; exact HY.out)).mono ?_
        rintro e3 w4 ⟨rfl, hb4⟩
        go_wp2
        go_ret
        exact Ret.mk rfl (by rw [HB.out]; exact hbr.trans ((below_then (below_then hb2 hb3) hb4).mono (by rw [← HB.out]; exact hbr.size)))
      | false =>
        have ho2 := (adds_ok n k f g).symm.trans ho
        have HO := Lib.hid ho
        have HO2 := Lib.hid ho2
        clear ho ho2
        go_wp2_with fail
        refine (run_bad A Aa n c k ca HA.out ⟨h1, h2⟩ (by omega) hn cf _ _ HIr.out HAa.out HO.out).mono ?_
        rintro e1 w2 ⟨rfl, hb2⟩
        go_wp2_with fail
        refine (run_bad A Ab n c k cb HA.out ⟨h3, h4⟩ (by omega) hn cf _ _ (HIr.out.same hb2.block) (HAb.out.same hb2.block) HO2.out).mono ?_
        rintro e2 w3 ⟨rfl, hb3⟩
        go_wp2_with fail
        refine (same_cells_true none none 0 0 0 (by omega) cf _ (fun i hi => by omega) (fun i hi => by omega)).mono ?_
        rintro e3 w4 ⟨rfl, hb4⟩
        go_wp2
        go_ret
        exact Ret.mk rfl (by rw [HB.out]; exact hbr.trans ((below_then (below_then hb2 hb3) hb4).mono (by rw [← HB.out]; exact hbr.size)))

/-- More than the law goes through. -/
theorem walk_many (A T U : Option Addr) (n c N d M e : Nat) (h : 1024 < n ∨ 100 < N ∨ N ≠ M) (w : World) : Calls Try.prog 8 #[.slice A n c, .slice T N d, .slice U M e] w (Ret (.bool true) w) := by
  by_cases h1 : 1024 < n
  · clear h
    go_enter Try.func8, Try.ntmps8
    go_wp2_with (go_at_call 12; refine (alive_any _).mono ?_; rintro e w1 ⟨rfl, hb1⟩)
    go_ret
    exact Ret.mk rfl hb1
  · have t1 : decide ((1024 : Int) < n) = false := by simp; omega
    by_cases h2 : 100 < N
    · clear h
      go_enter Try.func8, Try.ntmps8
      go_wp2_with (go_at_call 12; refine (alive_any _).mono ?_; rintro e w1 ⟨rfl, hb1⟩)
      go_ret
      exact Ret.mk rfl hb1
    · have t2 : decide ((100 : Int) < N) = false := by simp; omega
      have t3 : ¬ ((N : Int) = M) := by omega
      clear h
      go_enter Try.func8, Try.ntmps8
      go_wp2_with (go_at_call 12; refine (alive_any _).mono ?_; rintro e w1 ⟨rfl, hb1⟩)
      all_goals
        go_ret
        exact Ret.mk rfl hb1

theorem walk (A T U : Option Addr) (n c N d M e : Nat) (hc : n ≤ c ∧ c ≤ 9223372036854775807) (hA : A = none → n = 0 ∧ c = 0) (cf : Nat → C4) (f g : Nat → Int) (w : World) (hI : IsCells w A n cf) (hF : IsNums .i64 w T N f) (hG : IsNums .u64 w U M g) :
    Calls Try.prog 8 #[.slice A n c, .slice T N d, .slice U M e] w (Ret (.bool true) w) := by
  by_cases h : 1024 < n ∨ 100 < N ∨ N ≠ M
  · exact walk_many A T U n c N d M e h w
  · obtain rfl : N = M := by omega
    exact walk_few A T U n c N d e (by omega) (by omega) hc hA cf f g w hI hF hG

set_option maxRecDepth 100000 in
theorem lifted (os : Os) (started : os.Started) (H : Type) (enc : TypeId × Value → H) :
    ReturnsInHanded {} Try.checked os 8 .any (Rows.cellSumsSpec.pre6 enc Try.prog Try.f8 Rows.cellSumsRow.domain false) (Rows.cellSumsSpec.post enc Try.prog Try.f8 false true false false) := by
  refine returnsInHanded_of_change (C := Try.checked) own started (by kernel_rfl) Try.func8
    (ChangeSpec.witness6 (enc := enc) (C := Try.checked) false ⟨#[], #[.slice none 0 0, .slice none 0 0, .slice none 0 0], []⟩ 8 (by kernel_rfl) (by kernel_rfl) (by kernel_rfl) (by kernel_rfl)) ?_
  intro W base args ds gs before hval hW hcnd _
  refine law_of laidOut (by kernel_rfl) (by kernel_rfl) Try.underlying4 rfl ?_ hW fun p hA => ?_
  · intro ds hd
    match ds, hd with
    | [_, _, _], _ => rfl
  have hval' : ∀ (j : Nat) t v, Try.f8.params[j]? = some t → args[j]? = some v → Value.okWide Try.prog W .any base t v := hval
  rw [Try.params8] at hA hval'
  obtain ⟨v0, vs0, d0, ds0, p0, q0, hargs, rfl, rfl, h0, r0⟩ := trodAll_cons hA
  obtain ⟨v1, vs1, d1, ds1, p1, q1, rfl, rfl, rfl, h1, r1⟩ := trodAll_cons r0
  obtain ⟨v2, vs2, d2, ds2, p2, q2, rfl, rfl, rfl, h2, r2⟩ := trodAll_cons r1
  obtain ⟨rfl, rfl, rfl⟩ := trodAll_nil r2
  obtain rfl : args = #[v0, v1, v2] := by cases args; simp_all
  obtain ⟨A, n, c, cf, rfl, hc, hA0, hI⟩ := open_cells (hval' 0 _ v0 rfl rfl) h0
  obtain ⟨T, N, d, f, rfl, _, _, hF⟩ := open_nums (k := .i64) Try.underlying52 Try.underlying3 (by kernel_rfl) (hval' 1 _ v1 rfl rfl) h1
  obtain ⟨U, M, e, g, rfl, _, _, hG⟩ := open_nums (k := .u64) Try.underlying53 Try.underlying23 (by kernel_rfl) (hval' 2 _ v2 rfl rfl) h2
  exact walk A T U n c N d M e hc hA0 cf f g W hI hF hG

theorem proved : Rows.CellSumsSaid :=
  OpenClaim.holds_of_wide 8 Try.f8 rfl rfl rfl rfl rfl rfl rfl ⟨rfl, rfl, rfl, rfl, rfl⟩ rfl rfl rfl rfl rfl (by kernel_rfl) Try.func8 (by kernel_rfl)
    (of_decide_eq_true (by kernel_rfl)) (by unfold Func.isWrapper; rw [if_neg (by decide +kernel)]; exact ⟨rfl, rfl⟩)
    (fun os started H enc _ => lifted os started H enc)
#print axioms proved
end Go.Proofs.Ytiaimenngmfnmaa.cellSums
