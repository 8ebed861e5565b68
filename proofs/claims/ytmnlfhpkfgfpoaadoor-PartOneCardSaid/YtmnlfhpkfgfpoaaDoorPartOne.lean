/- For every config and two places: no two places are one cell's. Condition: the table of powers holds at the call's start what the program's text lays there (the tied card). -/
import Derived.Test.YtmnlfhpkfgfpoaaDoorPtOpen
namespace Go.Proofs.YtmnlfhpkfgfpoaaDoor.partOne
open Go.ChangeShapes Go.WideShapes Go.ChangeAt Go.RowKit Pt

/-- The four ways that a pair may go. -/
theorem at_cases (c : Cf) (p : Pl) : (∃ a, okB c = true ∧ find (bl c) p = some a ∧ atV c p = (a : Nat) ∧ atE c p = 0 ∧ a < all c) ∨ (atE c p = 2 ∨ atE c p = 40) := by
  cases h : okB c with
  | false => right; right; unfold atE; rw [h]; rfl
  | true =>
    cases hf : find (bl c) p with
    | none => right; left; exact (at_none h hf).2
    | some a => left; exact ⟨a, rfl, rfl, (at_some h hf).1, (at_some h hf).2, (find_lt hf).1⟩

set_option maxHeartbeats 4000000 in
theorem walk (c : Cf) (p q : Pl) (w : World) (hp : Pow w) : Calls Tryd.prog 6 #[cfv c, plv p, plv q] w (Ret (.bool true) w) := by
  have HP := Lib.hid hp
  have ha := fun W hW => at_any c p W hW
  have hb := fun W hW => at_any c q W hW
  have hn := fun W hW => cells_any c W hW
  have fin : ∀ w4 : World, Below w.heap.size w w4 → Ret (.bool true) w (.returned (.bool true)) w4 := fun w4 h => Ret.mk rfl h
  have FIN := Lib.hid fin
  have HA := Lib.hid (at_cases c p)
  have HB := Lib.hid (at_cases c q)
  clear hp fin
  have hall : okB c = true → allA c = (all c : Nat) ∧ Pt.err (okB c) = 0 := fun h => by unfold allA; rw [h]; exact ⟨rfl, rfl⟩
  have HALL := Lib.hid hall
  clear hall
  generalize atE c p = x at *
  generalize atE c q = y at *
  generalize atV c p = u at *
  generalize atV c q = v at *
  generalize allA c = n at *
  generalize Pt.err (okB c) = m at *
  unfold cfv plv at *
  go_enter Tryd.func6, Tryd.ntmps6
  go_wp2_with fail
  refine (alive_any _ ((HP.out.below (below_three w _ _ _)))).mono ?_
  rintro e w1 ⟨rfl, hb1⟩
  obtain ⟨hc1, hf1⟩ := bcell hb1
  have hb01 := below_then (below_three w _ _ _) hb1
  go_wp2_with fail
  refine (ha _ (HP.out.below hb01)).mono ?_
  rintro e w2 ⟨rfl, hb2⟩
  replace hb1 := below_then hb1 hb2
  clear hc1 hf1 hb2 hb01
  obtain ⟨hc1, hf1⟩ := bcell hb1
  have hb01 := below_then (below_three w _ _ _) hb1
  go_wp2_with fail
  refine (hb _ (HP.out.below hb01)).mono ?_
  rintro e w3 ⟨rfl, hb2⟩
  replace hb1 := below_then hb1 hb2
  clear hc1 hf1 hb2 hb01
  obtain ⟨hc1, hf1⟩ := bcell hb1
  have hb01 := below_then (below_three w _ _ _) hb1
  go_wp2_with fail
  refine (hn _ (HP.out.below hb01)).mono ?_
  rintro e w4 ⟨rfl, hb2⟩
  replace hb1 := below_then hb1 hb2
  clear hc1 hf1 hb2 hb01
  obtain ⟨hc1, hf1⟩ := bcell hb1
  have hb01 := below_then (below_three w _ _ _) hb1
  clear ha hb hn HP
  rcases HA.out with ⟨a, h1, h2, rfl, rfl, h5⟩ | h4
  · rcases HB.out with ⟨b, _, g2, rfl, rfl, g5⟩ | g4
    · obtain ⟨rfl, rfl⟩ := HALL.out h1
      by_cases e : p = q
      · subst e
        obtain rfl : a = b := Option.some.inj (h2.symm.trans g2)
        clear HA HB HALL h1 h2 g2 g5
        generalize all c = n at *
        go_wp2
        go_ret
        exact FIN.out _ hb01
      · have hab : a ≠ b := fun e' => e (Option.some.inj (((find_lt h2).2.symm.trans (by rw [e'])).trans (find_lt g2).2))
        clear HA HB HALL h1 h2 g2
        generalize all c = n at *
        have hab' : ((a : Int) == (b : Int)) = false := by simp; omega
        by_cases e0 : p.p = q.p
        · by_cases e1 : p.a = q.a
          · have e2 : ¬ p.b = q.b := fun e2 => e (Pl.ext' e0 e1 e2)
            have f0 : (p.p == q.p) = true := by simpa using e0
            have f1 : (p.a == q.a) = true := by simpa using e1
            have f2 : (p.b == q.b) = false := by simpa using e2
            clear e
            go_wp2
            go_ret
            exact FIN.out _ hb01
          · have f0 : (p.p == q.p) = true := by simpa using e0
            have f1 : (p.a == q.a) = false := by simpa using e1
            clear e
            go_wp2
            go_ret
            exact FIN.out _ hb01
        · have f0 : (p.p == q.p) = false := by simpa using e0
          clear e
          go_wp2
          go_ret
          exact FIN.out _ hb01
    · clear HA HB HALL
      rcases g4 with rfl | rfl
      · go_wp2
        go_ret
        exact FIN.out _ hb01
      · go_wp2
        go_ret
        exact FIN.out _ hb01
  · clear HA HB HALL
    rcases h4 with rfl | rfl
    · go_wp2
      go_ret
      exact FIN.out _ hb01
    · go_wp2
      go_ret
      exact FIN.out _ hb01

set_option maxRecDepth 100000 in
theorem lifted (os : Os) (started : os.Started) (H : Type) (enc : TypeId × Value → H) :
    ReturnsInHanded {} Tryd.checked os 6 .any (fun w args => (Rows.partOneSpec.pre enc Tryd.prog Tryd.f6 [] false w args ∧ laidMetH Tryd.prog laidL w) ∧ sizedMet enc Tryd.prog Tryd.f6 (OpenSpec.ofChange Rows.partOneSpec) false w args)
      (Rows.partOneSpec.post enc Tryd.prog Tryd.f6 false true false false) := by
  refine returnsInHanded_of_change_and (C := Tryd.checked) (X := fun w _ => laidMetH Tryd.prog laidL w) (fun _ _ _ hh h => h.of_heap hh) own started (by kernel_rfl) Tryd.func6
    (ChangeSpec.witness_shaped (enc := enc) (C := Tryd.checked) (os := os) (X := fun w _ => laidMetH Tryd.prog laidL w) false (World.doorLaid Tryd.prog 400 os) #[.agg #[.int .u8 0, .int .i64 0, .int .i64 0, .int .u8 0, .int .i64 0, .int .i64 0, .int .i64 0, .int .i64 0, .int .i64 0, .int .i64 0, .int .u64 0, .int .u64 0], .agg #[.int .u8 0, .int .i64 0, .int .i64 0], .agg #[.int .u8 0, .int .i64 0, .int .i64 0]] 8 rfl (World.shaped_of_RefB (by kernel_rfl) (by kernel_rfl)) (by kernel_rfl) (by kernel_rfl) (by kernel_rfl) (door_met os _)) ?_
  intro W base args ds gs before hval0 hW _ _ hL _
  refine law_of laidOut (by kernel_rfl) (by kernel_rfl) Tryd.underlying4 rfl ?_ hW fun p hA => ?_
  · intro ds hd
    match ds, hd with
    | [_, _, _], _ => rfl
  have hval' : ∀ (j : Nat) t v, Tryd.f6.params[j]? = some t → args[j]? = some v → Value.okWide Tryd.prog W .any base t v := hval0
  rw [Tryd.params6] at hA hval'
  obtain ⟨v0, vs0, d0, ds0, p0, q0, hargs, rfl, rfl, h0, r0⟩ := trodAll_cons hA
  obtain ⟨v1, vs1, d1, ds1, p1, q1, rfl, rfl, rfl, h1, r1⟩ := trodAll_cons r0
  obtain ⟨v2, vs2, d2, ds2, p2, q2, rfl, rfl, rfl, h2, r2⟩ := trodAll_cons r1
  obtain ⟨rfl, rfl, rfl⟩ := trodAll_nil r2
  obtain rfl : args = #[v0, v1, v2] := by cases args; simp_all
  obtain ⟨c, rfl⟩ := open_cfg (hval' 0 _ v0 rfl rfl) h0
  obtain ⟨y1, rfl⟩ := open_pl (hval' 1 _ v1 rfl rfl) h1
  obtain ⟨y2, rfl⟩ := open_pl (hval' 2 _ v2 rfl rfl) h2
  exact walk c y1 y2 W (of_laid hL)

theorem row : Rows.PartOneSaid :=
  OpenClaim.holds_of_wide 6 Tryd.f6 rfl rfl rfl rfl rfl rfl rfl ⟨rfl, rfl, rfl, rfl, rfl⟩ rfl rfl rfl rfl rfl (by kernel_rfl) Tryd.func6 (by kernel_rfl)
    (of_decide_eq_true (by kernel_rfl)) (by unfold Func.isWrapper; first | (rw [if_pos (by decide +kernel)]; kernel_rfl) | (rw [if_neg (by decide +kernel)]; exact ⟨rfl, rfl⟩))
    (fun os started H enc _ => lifted os started H enc)

theorem card : Rows.PartOneCardSaid :=
  Claim7.holds_tied_plain_at .later [] [.data] true Rows.partOneCard.stood.harness false
    row (fun _ h => by cases h) (by kernel_rfl) (fun _ h => by cases h) partOne_row_tie rfl ⟨rfl, rfl⟩ (by kernel_rfl) rfl
    (fun f fn hf hfn => by
      obtain rfl : f = 6 := Option.some.inj ((show Tryd.prog.funcNamed "bascule/basculelaw04.PartOne" = some 6 by kernel_rfl).symm.trans hf) |>.symm
      obtain rfl : fn = Tryd.f6 := (Option.some.inj (Tryd.func6.symm.trans hfn)).symm
      exact ⟨by kernel_rfl, fun j t ht => by
        rw [Tryd.params6] at ht
        have hm : t ∈ [24, 30] := by simpa using Array.mem_of_getElem? ht
        have hall : ([24, 30].all fun u => !Tryd.prog.wantsStandIn u) = true := by kernel_rfl
        exact (show Tryd.prog.wantsStandIn t = false by simpa using List.all_eq_true.1 hall t hm)⟩)
    (by kernel_rfl)
#print axioms card

end Go.Proofs.YtmnlfhpkfgfpoaaDoor.partOne
