/- For every config: of a fresh memory all cells are noughts, but the control's, whose Tag is the rest. Condition: the table of powers holds at the call's start what the program's text lays there (the tied card). -/
import Derived.Test.YtmnlfhpkfgfpoaaDoorPtOpen
import Derived.Deep.LoopGhost
namespace Go.Proofs.YtmnlfhpkfgfpoaaDoor.partFresh
open Go.ChangeShapes Go.WideShapes Go.ChangeAt Go.RowKit Pt Ce

set_option maxHeartbeats 4000000 in
theorem walk (c : Cf) (w : World) (hp : Pow w) : Calls Tryd.prog 8 #[cfv c] w (Ret (.bool true) w) := by
  have HP := Lib.hid hp
  have hn := fun W hW => cells_any c W hW
  have hf := fun W hW => fresh_any c W hW
  have ha := fun W hW => at_any c ⟨3, 0, 0⟩ W hW
  have FIN := Lib.hid (fun (w4 : World) (h : Below w.heap.size w w4) => (Ret.mk rfl h : Ret (.bool true) w (.returned (.bool true)) w4))
  clear hp
  cases hok : okB c with
  | false =>
    have hall : allA c = 0 := by unfold allA; rw [hok]; rfl
    have hfr : freshN c = 0 := by unfold freshN; rw [hok]; rfl
    have h1 : atV c ⟨3, 0, 0⟩ = 0 := by unfold atV; rw [hok]; rfl
    have h2 : atE c ⟨3, 0, 0⟩ = 40 := by unfold atE; rw [hok]; rfl
    rw [hok, hall, show Pt.err false = 40 from rfl] at hn
    rw [hok, hfr, show Pt.err false = 40 from rfl] at hf
    rw [h1, h2] at ha
    clear hall hok hfr h1 h2
    unfold cfv at *
    unfold plv at ha
    go_enter Tryd.func8, Tryd.ntmps8
    go_wp2_with fail
    refine (alive_any _ ((HP.out.below (below_one w _)))).mono ?_
    rintro e w1 ⟨rfl, hb1⟩
    obtain ⟨hc1, hf1⟩ := bcell hb1
    have hb01 := below_b1 hb1
    go_wp2_with fail
    refine (hf _ (HP.out.below hb01)).mono ?_
    rintro e w2 ⟨A, cap, rfl, _, _, _, hb2⟩
    replace hb1 := below_then hb1 hb2
    clear hc1 hf1 hb2 hb01
    obtain ⟨hc1, hf1⟩ := bcell hb1
    have hb01 := below_b1 hb1
    go_wp2_with fail
    refine (hn _ (HP.out.below hb01)).mono ?_
    rintro e w2 ⟨rfl, hb2⟩
    replace hb1 := below_then hb1 hb2
    clear hc1 hf1 hb2 hb01
    obtain ⟨hc1, hf1⟩ := bcell hb1
    have hb01 := below_b1 hb1
    go_wp2_with fail
    refine (ha _ (HP.out.below hb01)).mono ?_
    rintro e w2 ⟨rfl, hb2⟩
    replace hb1 := below_then hb1 hb2
    clear hc1 hf1 hb2 hb01
    obtain ⟨hc1, hf1⟩ := bcell hb1
    have hb01 := below_b1 hb1
    go_wp2
    go_ret
    exact FIN.out _ hb01
  | true =>
    have hall : allA c = (all c : Nat) := by unfold allA; rw [hok]; rfl
    have hfr : freshN c = all c := by unfold freshN; rw [hok]; rfl
    obtain ⟨h1, h2⟩ := at_some hok (find_control c)
    obtain ⟨hlo, hhi⟩ := all_bounds (ok_of hok)
    have hI : 2 ≤ c.inst ∧ c.inst ≤ 4 := by have := (ok_of hok).2.2; unfold RestOk at this; omega
    rw [hok, hall, show Pt.err true = 0 from rfl] at hn
    rw [hok, hfr, show Pt.err true = 0 from rfl] at hf
    rw [h1, h2] at ha
    have HF := Lib.hid (fun i => show freshF c i = if i = 2 then ⟨c.inst + 5, 0, 0, 0⟩ else ⟨0, 0, 0, 0⟩ from rfl)
    clear hall hok hfr h1 h2
    generalize all c = N at *
    unfold cfv at *
    unfold plv at ha
    go_enter Tryd.func8, Tryd.ntmps8
    go_wp2_with fail
    refine (alive_any _ ((HP.out.below (below_one w _)))).mono ?_
    rintro e w1 ⟨rfl, hb1⟩
    obtain ⟨hc1, hf1⟩ := bcell hb1
    have hb01 := below_b1 hb1
    go_wp2_with fail
    refine (hf _ (HP.out.below hb01)).mono ?_
    rintro e w3 ⟨A, cap, rfl, hA1, hA2, HC, hb2⟩
    replace hb1 := below_then hb1 hb2
    have HC3 := Lib.hid HC.out
    clear HC hc1 hf1 hb2 hb01
    obtain ⟨hc1, hf1⟩ := bcell hb1
    have hb01 := below_b1 hb1
    go_wp2_with fail
    refine (hn _ (HP.out.below hb01)).mono ?_
    rintro e w2 ⟨rfl, hb2⟩
    replace hb1 := below_then hb1 hb2
    have hb3 := hb2
    clear hc1 hf1 hb2 hb01
    obtain ⟨hc1, hf1⟩ := bcell hb1
    have hb01 := below_b1 hb1
    go_wp2_with fail
    refine (ha _ (HP.out.below hb01)).mono ?_
    rintro e w5 ⟨rfl, hb2⟩
    replace hb1 := below_then hb1 hb2
    replace hb3 := below_then hb3 hb2
    clear hc1 hf1 hb2 hb01
    obtain ⟨hc1, hf1⟩ := bcell hb1
    have hb01 := below_b1 hb1
    have HC := Lib.hid (HC3.out.same hb3.block)
    have g1 : w5.cell? ⟨w.heap.size, 1, none⟩ = some (.int .i64 c.inst) := (hc1 _ _ (by simp)).trans (by simp [go_sem])
    obtain ⟨r, hr⟩ : ∃ r, w.heap.size = r := ⟨_, rfl⟩
    rw [hr] at g1 ⊢
    clear hc1 hf1 hb1 hb3 HC3 HP hn hf ha
    go_wp2
    go_loopw [10] (fun i wr => ∃ k : Nat, k ≤ N ∧ i = .int .i64 k ∧ Below w5.heap.size w5 wr) (fun i _ => N - (intOf i).toNat)
    case atStart => exact ⟨0, Nat.zero_le _, rfl, Below.refl _ _⟩
    case round =>
      obtain ⟨k, hk, rfl, hbr⟩ := hrel
      have f1 := (hbr.cell (World.block_lt_of_cell? _ _ g1)).trans g1
      have hr1 : r < wr.heap.size := World.block_lt_of_cell? _ _ f1
      by_cases hlt : k < N
      · obtain ⟨b, off, rfl, hat⟩ := HC.out k hlt
        obtain ⟨p0, p1, p2, p3⟩ := hat.same (hbr.block _ hat.lt)
        rw [HF.out] at p0 p1 p2 p3
        have hb1 := World.block_lt_of_cell? _ _ p0
        have i1 : (0 : Int) ≤ (k : Int) := by omega
        have i2 : (k : Int) < (N : Int) := by omega
        clear hat
        by_cases h2 : k = 2
        · subst h2
          rw [if_pos rfl] at p0 p1 p2 p3
          simp only at p0 p1 p2 p3
          go_wp2
          obtain ⟨W, hW⟩ : ∃ W, W = wr.alloc (.cells #[.int .u64 (c.inst + 5), .int .u64 0, .int .u64 0, .int .u64 0] 51) := ⟨_, rfl⟩
          have hbw : Below wr.heap.size wr W := by rw [hW]; exact below_one _ _
          rw [← hW]
          have m0 : W.cell? ⟨wr.heap.size, 0, none⟩ = some (.int .u64 (c.inst + 5)) := by rw [hW]; simp [go_sem]
          have m1 : W.cell? ⟨wr.heap.size, 1, none⟩ = some (.int .u64 0) := by rw [hW]; simp [go_sem]
          have m2 : W.cell? ⟨wr.heap.size, 2, none⟩ = some (.int .u64 0) := by rw [hW]; simp [go_sem]
          have m3 : W.cell? ⟨wr.heap.size, 3, none⟩ = some (.int .u64 0) := by rw [hW]; simp [go_sem]
          have l0 := (hbw.cell hb1).trans p0
          have l1 := (hbw.cell hb1).trans p1
          have l2 := (hbw.cell hb1).trans p2
          have l3 := (hbw.cell hb1).trans p3
          have hbr' := below_then hbr hbw
          clear hW p0 p1 p2 p3 hbw hbr f1 hr1 hb1
          generalize wr.heap.size = s at *
          have k0 := cell_regrown l0
          have k1 := cell_regrown l1
          have k2 := cell_regrown l2
          have k3 := cell_regrown l3
          have n0 := cell_regrown m0
          have n1 := cell_regrown m1
          have n2 := cell_regrown m2
          have n3 := cell_regrown m3
          refine wp_region_quiet_below (by kernel_rfl) (by kernel_rfl) ?_
          repeat (go_big_quiet_step (fail))
          refine wpQuiet_nil ?_
          intro W3 hw'
          obtain ⟨⟨dq, osq⟩, hw''⟩ := hw'
          have hb3 := below_regrown W dq osq
          rw [← hw''] at hb3
          clear hw'' k0 k1 k2 k3 n0 n1 n2 n3
          go_wp2
          go_roundw
          case rel => exact ⟨2 + 1, by omega, by go_num, below_then hbr' hb3⟩
          case measure => simp [intOf]; omega
        · rw [if_neg h2] at p0 p1 p2 p3
          simp only at p0 p1 p2 p3
          go_wp2
          obtain ⟨W, hW⟩ : ∃ W, W = wr.alloc (.cells #[.int .u64 0, .int .u64 0, .int .u64 0, .int .u64 0] 51) := ⟨_, rfl⟩
          have hbw : Below wr.heap.size wr W := by rw [hW]; exact below_one _ _
          rw [← hW]
          have m0 : W.cell? ⟨wr.heap.size, 0, none⟩ = some (.int .u64 0) := by rw [hW]; simp [go_sem]
          have m1 : W.cell? ⟨wr.heap.size, 1, none⟩ = some (.int .u64 0) := by rw [hW]; simp [go_sem]
          have m2 : W.cell? ⟨wr.heap.size, 2, none⟩ = some (.int .u64 0) := by rw [hW]; simp [go_sem]
          have m3 : W.cell? ⟨wr.heap.size, 3, none⟩ = some (.int .u64 0) := by rw [hW]; simp [go_sem]
          have l0 := (hbw.cell hb1).trans p0
          have l1 := (hbw.cell hb1).trans p1
          have l2 := (hbw.cell hb1).trans p2
          have l3 := (hbw.cell hb1).trans p3
          have hbr' := below_then hbr hbw
          clear hW p0 p1 p2 p3 hbw hbr f1 hr1 hb1
          generalize wr.heap.size = s at *
          have k0 := cell_regrown l0
          have k1 := cell_regrown l1
          have k2 := cell_regrown l2
          have k3 := cell_regrown l3
          have n0 := cell_regrown m0
          have n1 := cell_regrown m1
          have n2 := cell_regrown m2
          have n3 := cell_regrown m3
          refine wp_region_quiet_below (by kernel_rfl) (by kernel_rfl) ?_
          repeat (go_big_quiet_step (fail))
          refine wpQuiet_nil ?_
          intro W3 hw'
          obtain ⟨⟨dq, osq⟩, hw''⟩ := hw'
          have hb3 := below_regrown W dq osq
          rw [← hw''] at hb3
          clear hw'' k0 k1 k2 k3 n0 n1 n2 n3
          go_wp2
          go_roundw
          case rel => exact ⟨k + 1, by omega, by go_num, below_then hbr' hb3⟩
          case measure => simp [intOf]; omega
      · obtain rfl : k = N := by omega
        go_wp2
        go_ret
        exact FIN.out _ (below_then hb01 hbr)

set_option maxRecDepth 100000 in
theorem lifted (os : Os) (started : os.Started) (H : Type) (enc : TypeId × Value → H) :
    ReturnsInHanded {} Tryd.checked os 8 .any (fun w args => (Rows.partFreshSpec.pre enc Tryd.prog Tryd.f8 [] false w args ∧ laidMetH Tryd.prog laidL w) ∧ sizedMet enc Tryd.prog Tryd.f8 (OpenSpec.ofChange Rows.partFreshSpec) false w args)
      (Rows.partFreshSpec.post enc Tryd.prog Tryd.f8 false true false false) := by
  refine returnsInHanded_of_change_and (C := Tryd.checked) (X := fun w _ => laidMetH Tryd.prog laidL w) (fun _ _ _ hh h => h.of_heap hh) own started (by kernel_rfl) Tryd.func8
    (ChangeSpec.witness_shaped (enc := enc) (C := Tryd.checked) (os := os) (X := fun w _ => laidMetH Tryd.prog laidL w) false (World.doorLaid Tryd.prog 400 os) #[.agg #[.int .u8 0, .int .i64 0, .int .i64 0, .int .u8 0, .int .i64 0, .int .i64 0, .int .i64 0, .int .i64 0, .int .i64 0, .int .i64 0, .int .u64 0, .int .u64 0]] 8 rfl (World.shaped_of_RefB (by kernel_rfl) (by kernel_rfl)) (by kernel_rfl) (by kernel_rfl) (by kernel_rfl) (door_met os _)) ?_
  intro W base args ds gs before hval0 hW _ _ hL _
  refine law_of laidOut (by kernel_rfl) (by kernel_rfl) Tryd.underlying4 rfl ?_ hW fun p hA => ?_
  · intro ds hd
    match ds, hd with
    | [_], _ => rfl
  have hval' : ∀ (j : Nat) t v, Tryd.f8.params[j]? = some t → args[j]? = some v → Value.okWide Tryd.prog W .any base t v := hval0
  rw [Tryd.params8] at hA hval'
  obtain ⟨v0, vs0, d0, ds0, p0, q0, hargs, rfl, rfl, h0, r0⟩ := trodAll_cons hA
  obtain ⟨rfl, rfl, rfl⟩ := trodAll_nil r0
  obtain rfl : args = #[v0] := by cases args; simp_all
  obtain ⟨c, rfl⟩ := open_cfg (hval' 0 _ v0 rfl rfl) h0
  exact walk c W (of_laid hL)

theorem row : Rows.PartFreshSaid :=
  OpenClaim.holds_of_wide 8 Tryd.f8 rfl rfl rfl rfl rfl rfl rfl ⟨rfl, rfl, rfl, rfl, rfl⟩ rfl rfl rfl rfl rfl (by kernel_rfl) Tryd.func8 (by kernel_rfl)
    (of_decide_eq_true (by kernel_rfl)) (by unfold Func.isWrapper; first | (rw [if_pos (by decide +kernel)]; kernel_rfl) | (rw [if_neg (by decide +kernel)]; exact ⟨rfl, rfl⟩))
    (fun os started H enc _ => lifted os started H enc)

theorem card : Rows.PartFreshCardSaid :=
  Claim7.holds_tied_plain_at .later [] [.data] true Rows.partFreshCard.stood.harness false
    row (fun _ h => by cases h) (by kernel_rfl) (fun _ h => by cases h) partFresh_row_tie rfl ⟨rfl, rfl⟩ (by kernel_rfl) rfl
    (fun f fn hf hfn => by
      obtain rfl : f = 8 := Option.some.inj ((show Tryd.prog.funcNamed "bascule/basculelaw04.PartFresh" = some 8 by kernel_rfl).symm.trans hf) |>.symm
      obtain rfl : fn = Tryd.f8 := (Option.some.inj (Tryd.func8.symm.trans hfn)).symm
      exact ⟨by kernel_rfl, fun j t ht => by
        rw [Tryd.params8] at ht
        have hm : t ∈ [24] := by simpa using Array.mem_of_getElem? ht
        have hall : ([24].all fun u => !Tryd.prog.wantsStandIn u) = true := by kernel_rfl
        exact (show Tryd.prog.wantsStandIn t = false by simpa using List.all_eq_true.1 hall t hm)⟩)
    (by kernel_rfl)
#print axioms card

end Go.Proofs.YtmnlfhpkfgfpoaaDoor.partFresh
