/- Of exchanges of one cell, that all expect what is there and would make it others, just the first is done; a load behind them sees what that made: for all cells (up to 1,024), places and new ones (up to 100; beyond them the law answers true). No condition. -/
import Derived.Test.YtiaimenngmfnmaaLaw
import Derived.Test.YtiaimenngmfnmaaCeAlive
import Derived.Test.YtiaimenngmfnmaaCePush
import Derived.Test.YtiaimenngmfnmaaCeOpen
namespace Go.Proofs.Ytiaimenngmfnmaa.cellOnce
open Go.ChangeShapes Go.WideShapes Go.ChangeAt Go.RowKit Ce

theorem acc_info : (Try.prog.info? 32).map (fun i => (i.zero, i.size, i.bytes)) = some (some (.agg #[.int .u8 0, .int .i64 0, .int .u64 0, .int .u64 0, .int .u64 0, .int .u64 0, .int .u64 0, .int .u64 0, .int .u64 0, .int .u64 0]), 10, 80) := by kernel_rfl

/-- The accesses: exchanges of x at p, and a load. -/
def accs (p : Nat) (x : C4) (N : Nat) (nf : Nat → C4) (i : Nat) : Acc := if i < N then ⟨3, p, x, nf i⟩ else ⟨1, p, C4.zero, C4.zero⟩
theorem accs_lt {p : Nat} {x : C4} {N i : Nat} {nf : Nat → C4} (h : i < N) : accs p x N nf i = ⟨3, p, x, nf i⟩ := by simp [accs, h]
theorem accs_end {p : Nat} {x : C4} {N : Nat} {nf : Nat → C4} : accs p x N nf N = ⟨1, p, C4.zero, C4.zero⟩ := by simp [accs]
theorem may_any {n p : Nat} (hp : p < n) (x : C4) (N : Nat) (nf : Nat → C4) (i : Nat) : mayB n (accs p x N nf i) = true := by
  unfold accs mayB
  rw [decide_eq_true_iff]
  split <;> (simp; omega)
theorem ok_all {n p : Nat} (hp : p < n) (x : C4) (N : Nat) (nf : Nat → C4) (k : Nat) : okTo n (accs p x N nf) k = true := okTo_iff.2 fun j _ => may_any hp x N nf j

theorem st_once {n p N : Nat} (hp : p < n) (cf nf : Nat → C4) (hne : ∀ i, i < N → nf i ≠ cf p) : ∀ k, k + 1 ≤ N → st n cf (accs p (cf p) N nf) (k + 1) = upd cf p (nf 0)
  | 0, h => by
    show Ce.step n cf (accs p (cf p) N nf 0) = _
    unfold Ce.step
    rw [if_pos (may_any hp _ _ _ _), accs_lt (by omega)]
    simp [becomes, eqB_refl]
  | k + 1, h => by
    show Ce.step n (st n cf (accs p (cf p) N nf) (k + 1)) (accs p (cf p) N nf (k + 1)) = _
    rw [st_once hp cf nf hne k (by omega)]
    unfold Ce.step
    rw [if_pos (may_any hp _ _ _ _), accs_lt (by omega)]
    have h1 : ¬ eqB (nf 0) (cf p) = true := fun e => hne 0 (by omega) (eqB_iff.1 e)
    simp [becomes, upd_same, h1]
    funext j
    unfold upd
    split <;> simp_all
theorem saw_done {n p N : Nat} (hp : p < n) (cf nf : Nat → C4) (hne : ∀ i, i < N → nf i ≠ cf p) (i : Nat) (hi : i < N) : sawD n cf (accs p (cf p) N nf) i = decide (i = 0) := by
  unfold sawD
  rw [if_pos (may_any hp _ _ _ _), accs_lt hi]
  cases i with
  | zero => simp [doneB, st, eqB_refl]
  | succ k =>
    rw [st_once hp cf nf hne k (by omega)]
    have h1 : eqB (nf 0) (cf p) = false := by cases e : eqB (nf 0) (cf p) with
      | false => rfl
      | true => exact absurd (eqB_iff.1 e) (hne 0 (by omega))
    simp [doneB, upd_same, h1]
theorem saw_last {n p N : Nat} (hp : p < n) (hN : 0 < N) (cf nf : Nat → C4) (hne : ∀ i, i < N → nf i ≠ cf p) : sawC n cf (accs p (cf p) N nf) N = nf 0 := by
  obtain ⟨k, rfl⟩ : ∃ k, N = k + 1 := ⟨N - 1, by omega⟩
  unfold sawC
  rw [if_pos (may_any hp _ _ _ _), accs_end, st_once hp cf nf hne k (Nat.le_refl _)]
  simp [upd_same]

theorem l10_one1 {a : Acc} {u : Value} (h : u ∈ l10 a) : u.oneCell' = true := by
  simp only [l10, List.mem_cons, List.not_mem_nil, or_false] at h
  rcases h with rfl | rfl | rfl | rfl | rfl | rfl | rfl | rfl | rfl | rfl <;> rfl

set_option maxHeartbeats 2000000 in
theorem walk_few (A T : Option Addr) (n c p N d : Nat) (hn : n ≤ 1024) (hp : p < n) (hN : N ≤ 100) (hN0 : 0 < N) (hA : A = none → n = 0 ∧ c = 0) (cf nf : Nat → C4) (w : World) (hI : IsCells w A n cf) (hF : IsCells w T N nf) :
    Calls Try.prog 7 #[.slice A n c, .int .i64 p, .slice T N d] w (Ret (.bool true) w) := by
  have HI := Lib.hid hI
  have HF := Lib.hid hF
  have HA := Lib.hid hA
  obtain ⟨b1, o1, rfl, hp4⟩ := hI p hp
  obtain ⟨b2, o2, rfl, _⟩ := hF 0 hN0
  have HP := Lib.hid hp4
  clear hI hF hA hp4
  have t1 : decide ((1024 : Int) < n) = false := by simp; omega
  have t2 : decide ((100 : Int) < N) = false := by simp; omega
  have t3 : decide ((p : Int) < 0) = false := by simp
  have t4 : ¬ (n ≤ p) := by omega
  have t5 : ((N : Int) == 0) = false := by simp; omega
  have p1 : (0 : Int) ≤ (p : Int) := by omega
  have p2 : (p : Int) < (n : Int) := by omega
  go_enter Try.func7, Try.ntmps7
  go_wp2_with (go_at_call 12; refine (alive_any _).mono ?_; rintro e w1 ⟨rfl, hb1⟩)
  obtain ⟨B, hB⟩ : ∃ B, w.heap.size = B := ⟨_, rfl⟩
  have HB := Lib.hid hB
  have hBz : B ≤ w.heap.size := by rw [hB]; exact Nat.le_refl _
  rw [hB] at hb1
  clear hB
  go_loopw [8, 9] (fun va i wr => ∃ k : Nat, k ≤ N ∧ i = .int .i64 k ∧ Hid (MadeL wr B 32 10 va k (fun j => l10 (accs p (cf p) N nf j))) ∧ Hid (∀ j, j < k → nf j ≠ cf p) ∧ Below B w wr) (fun _ i _ => N - (intOf i).toNat)
  case atStart => exact ⟨0, Nat.zero_le _, rfl, MadeL.nil _ _ _ _ _, Lib.hid (fun j hj => by omega), hb1⟩
  case round =>
    obtain ⟨k, hk, rfl, Ha, Hne, hbr⟩ := hrel
    have hBr : B ≤ wr.heap.size := Nat.le_trans hBz hbr.size
    by_cases hlt : k < N
    · have i1 : (0 : Int) ≤ (k : Int) := by omega
      have i2 : (k : Int) < (N : Int) := by omega
      obtain ⟨_, _, e2, h4⟩ := HF.out k hlt
      cases e2
      obtain ⟨c0, c1, c2, c3⟩ := h4.same (hbr.block _ (by rw [← HB.out]; exact h4.lt))
      obtain ⟨d0, d1, d2, d3⟩ := HP.out.same (hbr.block _ (by rw [← HB.out]; exact HP.out.lt))
      have HN4 := Lib.hid h4
      clear h4
      go_wp2
      have k0 := cell_regrown c0
      have k1 := cell_regrown c1
      have k2 := cell_regrown c2
      have k3 := cell_regrown c3
      have l0 := cell_regrown d0
      have l1 := cell_regrown d1
      have l2 := cell_regrown d2
      have l3 := cell_regrown d3
      by_cases heq : nf k = cf p
      · have HEQ := Lib.hid heq
        clear heq
        refine wp_region_quiet_below (by kernel_rfl) (by kernel_rfl) ?_
        repeat (go_big_quiet_step (exact Calls.regrown_of (rSame_true _ _ HEQ.out _)))
        refine wpQuiet_nil ?_
        intro W3 hw'
        obtain ⟨⟨dq, osq⟩, hw''⟩ := hw'
        have hb3 := below_regrown wr dq osq
        rw [← hw''] at hb3
        clear hw'' k0 k1 k2 k3 l0 l1 l2 l3
        go_wp2
        go_ret
        exact Ret.mk rfl (by rw [HB.out]; exact hbr.trans (hb3.mono hBr))
      · have HEQ := Lib.hid heq
        clear heq
        refine wp_region_quiet_below (by kernel_rfl) (by kernel_rfl) ?_
        repeat (go_big_quiet_step (exact Calls.regrown_of (rSame_false _ _ HEQ.out _)))
        refine wpQuiet_nil ?_
        intro W3 hw'
        obtain ⟨⟨dq, osq⟩, hw''⟩ := hw'
        have hb3 := below_regrown wr dq osq
        rw [← hw''] at hb3
        clear hw'' k0 k1 k2 k3 l0 l1 l2 l3 c0 c1 c2 c3 d0 d1 d2 d3
        have hb4 : Below B w W3 := hbr.trans (hb3.mono hBr)
        have HA3 := Lib.hid (Ha.out.below hb3)
        clear Ha
        obtain ⟨c0, c1, c2, c3⟩ := HN4.out.same (hb4.block _ (by rw [← HB.out]; exact HN4.out.lt))
        obtain ⟨d0, d1, d2, d3⟩ := HP.out.same (hb4.block _ (by rw [← HB.out]; exact HP.out.lt))
        go_wp2
        have k0 := cell_regrown c0
        have k1 := cell_regrown c1
        have k2 := cell_regrown c2
        have k3 := cell_regrown c3
        have l0 := cell_regrown d0
        have l1 := cell_regrown d1
        have l2 := cell_regrown d2
        have l3 := cell_regrown d3
        refine wp_region_tail1_below (.tmp 8) rfl rfl 10 (by kernel_rfl) (by kernel_rfl) (fun _ _ _ _ h => h) ?_
        simp only [List.take_succ_cons, List.take_zero, List.drop_succ_cons, List.drop_zero]
        repeat (go_big_quiet_step (fail))
        refine wpQuiet_nil ?_
        intro W5 hw'
        obtain ⟨⟨dq, osq⟩, hw''⟩ := hw'
        have hb5 := below_regrown W3 dq osq
        rw [← hw''] at hb5
        clear hw'' k0 k1 k2 k3 l0 l1 l2 l3 c0 c1 c2 c3 d0 d1 d2 d3
        have hb6 : Below B w W5 := hb4.trans (hb5.mono (Nat.le_trans hBz hb4.size))
        have HBB : B ≤ W5.heap.size := Nat.le_trans hBz hb6.size
        have HA5 := Lib.hid (HA3.out.below hb5)
        go_wp2_with (at_builtin
                     refine wpList_pushL rfl (.tmp 55) (.tmp 66) _ rfl Try.underlying39 acc_info rfl (by decide) (by decide) (v := u8) (f := fun j => l10 (accs p (cf p) N nf j)) rfl rfl (HA5.out.alloc _) _ rfl (fun j u h => boxed W5 3 p (cf p) (nf k) j u (by rw [← accs_lt (N := N) (nf := nf) hlt]; exact h)) (fun u hu => l10_one1 hu) (by omega) hBz (hb6.alloc HBB _) ?_
                     intro va W6 Ha7 hbW7 Hg7 Ho7)
        clear Hg7 Ho7
        go_roundw
        case rel => exact ⟨k + 1, by omega, by go_num, Ha7, Lib.hid (fun j hj => by
          by_cases e : j = k
          · subst e; exact HEQ.out
          · exact Hne.out j (by omega)), hbW7⟩
        case measure => simp [intOf]; omega
    · obtain rfl : k = N := by omega
      go_wp2_with (at_builtin
                   refine wpList_pushL rfl (.tmp 68) (.tmp 71) _ rfl Try.underlying39 acc_info rfl (by decide) (by decide) (v := u8) (f := fun j => l10 (accs p (cf p) k nf j)) rfl rfl (Ha.out.alloc _) _ rfl (fun j u h => boxed wr 1 p C4.zero C4.zero j u (by rw [← accs_end (p := p) (x := cf p) (N := k) (nf := nf)]; exact h)) (fun u hu => l10_one1 hu) (by omega) hBz (hbr.alloc hBr _) ?_
                   intro va W6 Ha7 hbW7 Hg7 Ho7)
      clear Hg7 Ho7 Ha
      obtain ⟨Aa, ca, rfl, h1, h2, hOa⟩ := MadeL.form (s := 10) (f := fun j => l10 (accs p (cf p) k nf j)) (fun _ => rfl) Ha7.out
      have HIr := Lib.hid (HI.out.same fun j hj => hbW7.block j (by rw [← HB.out]; exact hj))
      refine (run_ok _ Aa n c (k + 1) ca HA.out ⟨h1, h2⟩ (by omega) hn cf _ _ HIr.out hOa.accs (ok_all hp _ _ _ _)).mono ?_
      rintro e1 w2 ⟨A2, c2, S2, rfl, _, _, hS2, _, hb2⟩
      have hbw2 : Below B w w2 := hbW7.trans (hb2.mono (Nat.le_trans hBz hbW7.size))
      have HS := Lib.hid hS2
      clear hS2 hOa Ha7 HIr hbW7 hb2
      obtain ⟨b3, o3, rfl, _⟩ := HS.out 0 (by omega)
      go_wp2
      go_loopw [13] (fun i wr => ∃ q : Nat, q ≤ k ∧ i = .int .i64 q ∧ Below B w wr ∧ Below w2.heap.size w2 wr) (fun i _ => k - (intOf i).toNat)
      case atStart => exact ⟨0, Nat.zero_le _, rfl, hbw2, Below.refl _ _⟩
      case round =>
        obtain ⟨q, hq, rfl, hbq, hbs⟩ := hrel
        by_cases hql : q < k
        · obtain ⟨_, _, e3, h5⟩ := HS.out q (by omega)
          cases e3
          have hcell := (h5.same (hbs.block _ h5.lt)).2
          rw [saw_done hp cf nf Hne.out q hql] at hcell
          clear h5
          have i1 : (0 : Int) ≤ (q : Int) := by omega
          have i2 : (q : Int) < ((k + 1 : Nat) : Int) := by omega
          by_cases q0 : q = 0
          · subst q0
            simp only [decide_true] at hcell
            go_wp2
            go_roundw
            case rel => exact ⟨0 + 1, by omega, by go_num, hbq, hbs⟩
            case measure => simp [intOf]; omega
          · have hz : ((q : Int) == 0) = false := by simp; omega
            simp only [q0, decide_false] at hcell
            go_wp2
            go_roundw
            case rel => exact ⟨q + 1, by omega, by go_num, hbq, hbs⟩
            case measure => simp [intOf]; omega
        · obtain rfl : q = k := by omega
          obtain ⟨_, _, e3, h5⟩ := HS.out q (by omega)
          cases e3
          obtain ⟨c0, c1, c2, c3⟩ := (h5.same (hbs.block _ h5.lt)).1
          rw [saw_last hp hN0 cf nf Hne.out] at c0 c1 c2 c3
          obtain ⟨_, _, e4, h6⟩ := HF.out 0 hN0
          cases e4
          obtain ⟨d0, d1, d2, d3⟩ := h6.same (hbq.block _ (by rw [← HB.out]; exact h6.lt))
          simp only [Nat.zero_mul, Nat.add_zero] at d0 d1 d2 d3
          have i1 : (0 : Int) ≤ (q : Int) := by omega
          have i2 : (q : Int) < ((q + 1 : Nat) : Int) := by omega
          have i3 : (0 : Int) < (q : Int) := by omega
          clear h5 h6
          go_wp2
          have k0 := cell_regrown c0
          have k1 := cell_regrown c1
          have k2 := cell_regrown c2
          have k3 := cell_regrown c3
          have l0 := cell_regrown d0
          have l1 := cell_regrown d1
          have l2 := cell_regrown d2
          have l3 := cell_regrown d3
          refine wp_region_quiet_below (by kernel_rfl) (by kernel_rfl) ?_
          repeat (go_big_quiet_step (exact Calls.regrown_of (rSame_true _ _ rfl _)))
          refine wpQuiet_nil ?_
          intro W8 hw'
          obtain ⟨⟨dq, osq⟩, hw''⟩ := hw'
          have hb8 := below_regrown wr dq osq
          rw [← hw''] at hb8
          clear hw'' k0 k1 k2 k3 l0 l1 l2 l3
          go_wp2
          go_ret
          exact Ret.mk rfl (by rw [HB.out]; exact hbq.trans (hb8.mono (Nat.le_trans hBz hbq.size)))

theorem early (A T : Option Addr) (n c : Nat) (z : Int) (N d : Nat) (h : 1024 < n ∨ z < 0 ∨ (n : Int) ≤ z ∨ 100 < N ∨ N = 0) (w : World) :
    Calls Try.prog 7 #[.slice A n c, .int .i64 z, .slice T N d] w (Ret (.bool true) w) := by
  by_cases h1 : 1024 < n
  · clear h
    go_enter Try.func7, Try.ntmps7
    go_wp2_with (go_at_call 12; refine (alive_any _).mono ?_; rintro e w1 ⟨rfl, hb1⟩)
    go_ret
    exact Ret.mk rfl hb1
  have t1 : decide ((1024 : Int) < n) = false := by simp; omega
  by_cases h2 : z < 0
  · clear h
    go_enter Try.func7, Try.ntmps7
    go_wp2_with (go_at_call 12; refine (alive_any _).mono ?_; rintro e w1 ⟨rfl, hb1⟩)
    go_ret
    exact Ret.mk rfl hb1
  have t2 : decide (z < 0) = false := by simp; omega
  by_cases h3 : (n : Int) ≤ z
  · clear h
    go_enter Try.func7, Try.ntmps7
    go_wp2_with (go_at_call 12; refine (alive_any _).mono ?_; rintro e w1 ⟨rfl, hb1⟩)
    go_ret
    exact Ret.mk rfl hb1
  have t3 : decide ((n : Int) ≤ z) = false := by simp; omega
  by_cases h4 : 100 < N
  · clear h
    go_enter Try.func7, Try.ntmps7
    go_wp2_with (go_at_call 12; refine (alive_any _).mono ?_; rintro e w1 ⟨rfl, hb1⟩)
    go_ret
    exact Ret.mk rfl hb1
  obtain rfl : N = 0 := by omega
  clear h
  go_enter Try.func7, Try.ntmps7
  go_wp2_with (go_at_call 12; refine (alive_any _).mono ?_; rintro e w1 ⟨rfl, hb1⟩)
  go_ret
  exact Ret.mk rfl hb1

theorem walk (A T : Option Addr) (n c : Nat) (z : Int) (N d : Nat) (hA : A = none → n = 0 ∧ c = 0) (cf nf : Nat → C4) (w : World) (hI : IsCells w A n cf) (hF : IsCells w T N nf) :
    Calls Try.prog 7 #[.slice A n c, .int .i64 z, .slice T N d] w (Ret (.bool true) w) := by
  by_cases h : 1024 < n ∨ z < 0 ∨ (n : Int) ≤ z ∨ 100 < N ∨ N = 0
  · exact early A T n c z N d h w
  · obtain ⟨p, rfl⟩ : ∃ p : Nat, z = p := ⟨z.toNat, by omega⟩
    exact walk_few A T n c p N d (by omega) (by omega) (by omega) (by omega) hA cf nf w hI hF

set_option maxRecDepth 100000 in
theorem lifted (os : Os) (started : os.Started) (H : Type) (enc : TypeId × Value → H) :
    ReturnsInHanded {} Try.checked os 7 .any (Rows.cellOnceSpec.pre6 enc Try.prog Try.f7 Rows.cellOnceRow.domain false) (Rows.cellOnceSpec.post enc Try.prog Try.f7 false true false false) := by
  refine returnsInHanded_of_change (C := Try.checked) own started (by kernel_rfl) Try.func7
    (ChangeSpec.witness6 (enc := enc) (C := Try.checked) false ⟨#[], #[.slice none 0 0, .int .i64 0, .slice none 0 0], []⟩ 8 (by kernel_rfl) (by kernel_rfl) (by kernel_rfl) (by kernel_rfl)) ?_
  intro W base args ds gs before hval hW hcnd _
  refine law_of laidOut (by kernel_rfl) (by kernel_rfl) Try.underlying4 rfl ?_ hW fun p hA => ?_
  · intro ds hd
    match ds, hd with
    | [_, _, _], _ => rfl
  have hval' : ∀ (j : Nat) t v, Try.f7.params[j]? = some t → args[j]? = some v → Value.okWide Try.prog W .any base t v := hval
  rw [Try.params7] at hA hval'
  obtain ⟨v0, vs0, d0, ds0, p0, q0, hargs, rfl, rfl, h0, r0⟩ := trodAll_cons hA
  obtain ⟨v1, vs1, d1, ds1, p1, q1, rfl, rfl, rfl, h1, r1⟩ := trodAll_cons r0
  obtain ⟨v2, vs2, d2, ds2, p2, q2, rfl, rfl, rfl, h2, r2⟩ := trodAll_cons r1
  obtain ⟨rfl, rfl, rfl⟩ := trodAll_nil r2
  obtain rfl : args = #[v0, v1, v2] := by cases args; simp_all
  obtain ⟨A, n, c, cf, rfl, hc, hA0, hI⟩ := open_cells (hval' 0 _ v0 rfl rfl) h0
  obtain ⟨z, rfl, _⟩ := open_int (k := .i64) Try.underlying3 (hval' 1 _ v1 rfl rfl) h1
  obtain ⟨T, N, d, nf, rfl, _, _, hF⟩ := open_cells (hval' 2 _ v2 rfl rfl) h2
  exact walk A T n c z N d hA0 cf nf W hI hF

theorem proved : Rows.CellOnceSaid :=
  OpenClaim.holds_of_wide 7 Try.f7 rfl rfl rfl rfl rfl rfl rfl ⟨rfl, rfl, rfl, rfl, rfl⟩ rfl rfl rfl rfl rfl (by kernel_rfl) Try.func7 (by kernel_rfl)
    (of_decide_eq_true (by kernel_rfl)) (by unfold Func.isWrapper; rw [if_neg (by decide +kernel)]; exact ⟨rfl, rfl⟩)
    (fun os started H enc _ => lifted os started H enc)
#print axioms proved
end Go.Proofs.Ytiaimenngmfnmaa.cellOnce
