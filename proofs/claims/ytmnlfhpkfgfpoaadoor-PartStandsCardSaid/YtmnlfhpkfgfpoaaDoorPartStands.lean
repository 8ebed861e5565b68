/- For every config, place and number: where a place stands, and which one stands somewhere, or the errors, are the document's. Condition: the table of powers holds at the call's start what the program's text lays there (the tied card). -/
import Derived.Test.YtmnlfhpkfgfpoaaDoorPtOpen
import Derived.Test.YtmnlfhpkfgfpoaaDoorPtRefEnd
namespace Go.Proofs.YtmnlfhpkfgfpoaaDoor.partStands
open Go.ChangeShapes Go.WideShapes Go.ChangeAt Go.RowKit Pt

set_option maxHeartbeats 4000000 in
theorem walk (c : Cf) (q : Pl) (z : Int) (hz : z ≤ 9223372036854775807) (w : World) (hp : Pow w) : Calls Tryd.prog 5 #[cfv c, plv q, .int .i64 z] w (Ret (.bool true) w) := by
  have HP := Lib.hid hp
  have h1 := fun W hW => at_any c q W hW
  have h2 := rAt_any c q
  have h3 := fun W hW => what_any c z hz W hW
  have h4 := rWhat_any c z
  clear hp hz
  generalize atV c q = a at *
  generalize atE c q = e at *
  generalize whV c z = y at *
  generalize whE c z = g at *
  unfold cfv plv at *
  go_enter Tryd.func5, Tryd.ntmps5
  go_wp2_with fail
  refine (h1 _ (HP.out.below (below_two w _ _))).mono ?_
  rintro e' w1 ⟨rfl, hb1⟩
  obtain ⟨hc1, hf1⟩ := bcell hb1
  go_wp2_with fail
  refine (h2 _).mono ?_
  rintro e' w2 ⟨rfl, hb2⟩
  replace hb1 := below_then hb1 hb2
  clear hc1 hf1 hb2
  obtain ⟨hc1, hf1⟩ := bcell hb1
  go_wp2_with fail
  refine (h3 _ (HP.out.below (below_then (below_two w _ _) hb1))).mono ?_
  rintro e' w2 ⟨rfl, hb2⟩
  replace hb1 := below_then hb1 hb2
  have I2 : IsCf w2 w.heap.size c := ((cf_lit w c 24 rfl).same (Below.heap_alloc _ _ _ (by simp))).same (hb1.block _ (by simp; omega))
  have f0 := I2 0 _ rfl
  have f1 := I2 1 _ rfl
  have f2 := I2 2 _ rfl
  have f3 := I2 3 _ rfl
  have f4 := I2 4 _ rfl
  have f5 := I2 5 _ rfl
  have f6 := I2 6 _ rfl
  have f7 := I2 7 _ rfl
  have f8 := I2 8 _ rfl
  have f9 := I2 9 _ rfl
  have f10 := I2 10 _ rfl
  have f11 := I2 11 _ rfl
  have hr1 := I2.lt
  have hb02 := below_then (below_two w _ _) hb1
  clear hc1 hf1 hb2 hb1 I2 h1 h2 h3
  go_wp2_with fail
  refine (h4 _).mono ?_
  rintro e' w4 ⟨rfl, hb4⟩
  have p0 : w4.cell? ⟨w2.heap.size, 0, none⟩ = some (.int .u8 y.p) := (hb4.cell (by simp)).trans (by simp [go_sem])
  have p1 : w4.cell? ⟨w2.heap.size, 1, none⟩ = some (.int .i64 y.a) := (hb4.cell (by simp)).trans (by simp [go_sem])
  have p2 : w4.cell? ⟨w2.heap.size, 2, none⟩ = some (.int .i64 y.b) := (hb4.cell (by simp)).trans (by simp [go_sem])
  have plt := World.block_lt_of_cell? _ _ p0
  have hb := below_then hb02 (below_b1 hb4)
  clear f0 f1 f2 f3 f4 f5 f6 f7 f8 f9 f10 f11 h4 hb02 hb4
  go_wp2
  go_ret
  exact Ret.mk rfl (below_then hb (below_one _ _))

set_option maxRecDepth 100000 in
theorem lifted (os : Os) (started : os.Started) (H : Type) (enc : TypeId × Value → H) :
    ReturnsInHanded {} Tryd.checked os 5 .any (fun w args => (Rows.partStandsSpec.pre enc Tryd.prog Tryd.f5 [] false w args ∧ laidMetH Tryd.prog laidL w) ∧ sizedMet enc Tryd.prog Tryd.f5 (OpenSpec.ofChange Rows.partStandsSpec) false w args)
      (Rows.partStandsSpec.post enc Tryd.prog Tryd.f5 false true false false) := by
  refine returnsInHanded_of_change_and (C := Tryd.checked) (X := fun w _ => laidMetH Tryd.prog laidL w) (fun _ _ _ hh h => h.of_heap hh) own started (by kernel_rfl) Tryd.func5
    (ChangeSpec.witness_shaped (enc := enc) (C := Tryd.checked) (os := os) (X := fun w _ => laidMetH Tryd.prog laidL w) false (World.doorLaid Tryd.prog 400 os) #[.agg #[.int .u8 0, .int .i64 0, .int .i64 0, .int .u8 0, .int .i64 0, .int .i64 0, .int .i64 0, .int .i64 0, .int .i64 0, .int .i64 0, .int .u64 0, .int .u64 0], .agg #[.int .u8 0, .int .i64 0, .int .i64 0], .int .i64 0] 8 rfl (World.shaped_of_RefB (by kernel_rfl) (by kernel_rfl)) (by kernel_rfl) (by kernel_rfl) (by kernel_rfl) (door_met os _)) ?_
  intro W base args ds gs before hval0 hW _ _ hL _
  refine law_of laidOut (by kernel_rfl) (by kernel_rfl) Tryd.underlying4 rfl ?_ hW fun p hA => ?_
  · intro ds hd
    match ds, hd with
    | [_, _, _], _ => rfl
  have hval' : ∀ (j : Nat) t v, Tryd.f5.params[j]? = some t → args[j]? = some v → Value.okWide Tryd.prog W .any base t v := hval0
  rw [Tryd.params5] at hA hval'
  obtain ⟨v0, vs0, d0, ds0, p0, q0, hargs, rfl, rfl, h0, r0⟩ := trodAll_cons hA
  obtain ⟨v1, vs1, d1, ds1, p1, q1, rfl, rfl, rfl, h1, r1⟩ := trodAll_cons r0
  obtain ⟨v2, vs2, d2, ds2, p2, q2, rfl, rfl, rfl, h2, r2⟩ := trodAll_cons r1
  obtain ⟨rfl, rfl, rfl⟩ := trodAll_nil r2
  obtain rfl : args = #[v0, v1, v2] := by cases args; simp_all
  obtain ⟨c, rfl⟩ := open_cfg (hval' 0 _ v0 rfl rfl) h0
  obtain ⟨y1, rfl⟩ := open_pl (hval' 1 _ v1 rfl rfl) h1
  obtain ⟨a2, rfl, _, _, hw2⟩ := open_int Tryd.underlying3 (hval' 2 _ v2 rfl rfl) h2
  exact walk c y1 a2 (i64_bounds hw2).2 W (of_laid hL)

theorem row : Rows.PartStandsSaid :=
  OpenClaim.holds_of_wide 5 Tryd.f5 rfl rfl rfl rfl rfl rfl rfl ⟨rfl, rfl, rfl, rfl, rfl⟩ rfl rfl rfl rfl rfl (by kernel_rfl) Tryd.func5 (by kernel_rfl)
    (of_decide_eq_true (by kernel_rfl)) (by unfold Func.isWrapper; first | (rw [if_pos (by decide +kernel)]; kernel_rfl) | (rw [if_neg (by decide +kernel)]; exact ⟨rfl, rfl⟩))
    (fun os started H enc _ => lifted os started H enc)

theorem card : Rows.PartStandsCardSaid :=
  Claim7.holds_tied_plain_at .later [] [.data] true Rows.partStandsCard.stood.harness false
    row (fun _ h => by cases h) (by kernel_rfl) (fun _ h => by cases h) partStands_row_tie rfl ⟨rfl, rfl⟩ (by kernel_rfl) rfl
    (fun f fn hf hfn => by
      obtain rfl : f = 5 := Option.some.inj ((show Tryd.prog.funcNamed "bascule/basculelaw04.PartStands" = some 5 by kernel_rfl).symm.trans hf) |>.symm
      obtain rfl : fn = Tryd.f5 := (Option.some.inj (Tryd.func5.symm.trans hfn)).symm
      exact ⟨by kernel_rfl, fun j t ht => by
        rw [Tryd.params5] at ht
        have hm : t ∈ [24, 30, 3] := by simpa using Array.mem_of_getElem? ht
        have hall : ([24, 30, 3].all fun u => !Tryd.prog.wantsStandIn u) = true := by kernel_rfl
        exact (show Tryd.prog.wantsStandIn t = false by simpa using List.all_eq_true.1 hall t hm)⟩)
    (by kernel_rfl)
#print axioms card

end Go.Proofs.YtmnlfhpkfgfpoaaDoor.partStands
