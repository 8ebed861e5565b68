/- For any two configs and operation: an operation that fits is of one object alone, and whether it fits hangs on the object's own numbers alone. Condition: the table of objects holds at the call's start what the program's text lays there (the tied card). -/
import Derived.Test.YtcabdokcinlabaaDoorOpAlive
import Derived.Test.YtcabdokcinlabaaDoorObLaid
import Derived.Test.YtcabdokcinlabaaDoorOpenOp
import Derived.Test.YtcabdokcinlabaaDoorOpenCfg
namespace Go.Proofs.YtcabdokcinlabaaDoor.opOne
open Go.ChangeShapes Go.WideShapes Go.ChangeAt Go.RowKit Pt Opn

theorem chk_cases (c : Cf) (o : O) : (chk c o = 40) ∨ (chk c o = 50 ∧ (objAt o.k : Int) ≠ c.obj) ∨ ((objAt o.k : Int) = c.obj ∧ chk c o = if Fits c.bits.toNat o then 0 else 10) := by
  unfold chk
  split
  · exact .inl rfl
  · split
    · rename_i h; exact .inr (.inl ⟨rfl, h⟩)
    · rename_i h; exact .inr (.inr ⟨by simpa using h, rfl⟩)

/-- What the statement asks, in numbers. -/
theorem asked (c d : Cf) (o : O) : chk c o = 40 ∨ chk d o = 40 ∨ (c.obj ≠ d.obj ∧ (chk c o = 50 ∨ chk d o = 50) ∧ (chk c o ≠ 0 ∨ chk d o ≠ 0)) ∨ (c.obj = d.obj ∧ (c.bits ≠ d.bits ∨ chk c o = chk d o) ∧ (chk c o = 50 ↔ chk d o = 50)) := by
  rcases chk_cases c o with h | ⟨h1, h2⟩ | ⟨h1, h2⟩
  · exact .inl h
  · rcases chk_cases d o with g | ⟨g1, g2⟩ | ⟨g1, g2⟩
    · exact .inr (.inl g)
    · by_cases e : c.obj = d.obj
      · exact .inr (.inr (.inr ⟨e, .inr (by rw [h1, g1]), by rw [h1, g1]⟩))
      · exact .inr (.inr (.inl ⟨e, .inl h1, .inl (by omega)⟩))
    · exact .inr (.inr (.inl ⟨fun e => h2 (by rw [e]; exact g1), .inl h1, .inl (by omega)⟩))
  · rcases chk_cases d o with g | ⟨g1, g2⟩ | ⟨g1, g2⟩
    · exact .inr (.inl g)
    · exact .inr (.inr (.inl ⟨fun e => g2 (by rw [← e]; exact h1), .inr g1, .inr (by omega)⟩))
    · refine .inr (.inr (.inr ⟨by rw [← h1, ← g1], ?_, ?_⟩))
      · by_cases e : c.bits = d.bits
        · exact .inr (by rw [h2, g2, e])
        · exact .inl e
      · rw [h2, g2]; (repeat' split) <;> simp

set_option maxHeartbeats 4000000 in
theorem walk (c d : Cf) (o : O) (ho : Wf o) (w : World) (hp : Obs w) :
    Calls Tryd.prog 7 #[cfv c, cfv d, opv o] w (Ret (.bool true) w) := by
  have HP := Lib.hid hp
  have H1 := Lib.hid (check_op c o ho)
  have H2 := Lib.hid (check_op d o ho)
  have HA := Lib.hid (fun W hW => alive_any W hW)
  have HK := Lib.hid (asked c d o)
  clear hp ho
  unfold cfv opv at *
  generalize chk c o = x at *
  generalize chk d o = y at *
  obtain ⟨k, a, b', c'⟩ := o
  simp only at *
  go_enter Tryd.func7, Tryd.ntmps7
  go_wp2_with fail
  refine (HA.out _ (HP.out.below (below_three _ _ _ _))).mono ?_
  rintro e w1 ⟨rfl, hb1⟩
  obtain ⟨hc1, hf1⟩ := bcell hb1
  go_wp2_with fail
  refine (H1.out _ (HP.out.below (below_then (below_three _ _ _ _) hb1))).mono ?_
  rintro e w2 ⟨rfl, hb2⟩
  replace hb1 := below_then hb1 hb2
  clear hb2 hc1 hf1
  obtain ⟨hc1, hf1⟩ := bcell hb1
  go_wp2_with fail
  refine (H2.out _ (HP.out.below (below_then (below_three _ _ _ _) hb1))).mono ?_
  rintro e w2 ⟨rfl, hb2⟩
  replace hb1 := below_then hb1 hb2
  clear hb2 hc1 hf1
  obtain ⟨hc1, hf1⟩ := bcell hb1
  go_wp2
  all_goals go_ret
  all_goals refine Ret.mk (bool_eq ?_) (below_then (below_three _ _ _ _) hb1)
  all_goals (have hK := HK.out; clear HP H1 H2 HA HK hc1 hf1 hb1; grind)

set_option maxRecDepth 100000 in
theorem lifted (os : Os) (started : os.Started) (H : Type) (enc : TypeId × Value → H) :
    ReturnsInHanded {} Tryd.checked os 7 .any (fun w args => (Rows.opOneSpec.pre enc Tryd.prog Tryd.f7 [] false w args ∧ laidMetH Tryd.prog laidL w) ∧ sizedMet enc Tryd.prog Tryd.f7 (OpenSpec.ofChange Rows.opOneSpec) false w args)
      (Rows.opOneSpec.post enc Tryd.prog Tryd.f7 false true false false) := by
  refine returnsInHanded_of_change_and (C := Tryd.checked) (X := fun w _ => laidMetH Tryd.prog laidL w) (fun _ _ _ hh h => h.of_heap hh) own started (by kernel_rfl) Tryd.func7
    (ChangeSpec.witness_shaped (enc := enc) (C := Tryd.checked) (os := os) (X := fun w _ => laidMetH Tryd.prog laidL w) false (World.doorLaid Tryd.prog 400 os) #[.agg #[.int .u8 0, .int .i64 0, .int .i64 0, .int .u8 0, .int .i64 0, .int .i64 0, .int .i64 0, .int .i64 0, .int .i64 0, .int .i64 0, .int .u64 0, .int .u64 0], .agg #[.int .u8 0, .int .i64 0, .int .i64 0, .int .u8 0, .int .i64 0, .int .i64 0, .int .i64 0, .int .i64 0, .int .i64 0, .int .i64 0, .int .u64 0, .int .u64 0], .agg #[.int .u8 0, .int .u32 0, .int .u32 0, .int .u32 0]] 8 rfl (World.shaped_of_RefB (by kernel_rfl) (by kernel_rfl)) (by kernel_rfl) (by kernel_rfl) (by kernel_rfl) (door_met os _)) ?_
  intro W base args ds gs before hval0 hW _ _ hL _
  refine law_of laidOut (by kernel_rfl) (by kernel_rfl) Tryd.underlying4 rfl ?_ hW fun p hA => ?_
  · intro ds hd
    match ds, hd with
    | [_, _, _], _ => rfl
  have hval' : ∀ (j : Nat) t v, Tryd.f7.params[j]? = some t → args[j]? = some v → Value.okWide Tryd.prog W .any base t v := hval0
  rw [Tryd.params7] at hA hval'
  obtain ⟨v0, vs0, d0, ds0, p0, q0, hargs, rfl, rfl, h0, r0⟩ := trodAll_cons hA
  obtain ⟨v1, vs1, d1, ds1, p1, q1, rfl, rfl, rfl, h1, r1⟩ := trodAll_cons r0
  obtain ⟨v2, vs2, d2, ds2, p2, q2, rfl, rfl, rfl, h2, r2⟩ := trodAll_cons r1
  obtain ⟨rfl, rfl, rfl⟩ := trodAll_nil r2
  obtain rfl : args = #[v0, v1, v2] := by cases args; simp_all
  obtain ⟨c, rfl⟩ := open_cfg (hval' 0 _ v0 rfl rfl) h0
  obtain ⟨d, rfl⟩ := open_cfg (hval' 1 _ v1 rfl rfl) h1
  obtain ⟨o, ho, rfl⟩ := open_op (hval' 2 _ v2 rfl rfl) h2
  exact walk c d o ho W (of_laid hL)

theorem row : Rows.OpOneSaid :=
  OpenClaim.holds_of_wide 7 Tryd.f7 rfl rfl rfl rfl rfl rfl rfl ⟨rfl, rfl, rfl, rfl, rfl⟩ rfl rfl rfl rfl rfl (by kernel_rfl) Tryd.func7 (by kernel_rfl)
    (of_decide_eq_true (by kernel_rfl)) (by unfold Func.isWrapper; first | (rw [if_pos (by decide +kernel)]; kernel_rfl) | (rw [if_neg (by decide +kernel)]; exact ⟨rfl, rfl⟩))
    (fun os started H enc _ => lifted os started H enc)

theorem card : Rows.OpOneCardSaid :=
  Claim7.holds_tied_plain_at .later [] [.data] true Rows.opOneCard.stood.harness false
    row (fun _ h => by cases h) (by kernel_rfl) (fun _ h => by cases h) opOne_row_tie rfl ⟨rfl, rfl⟩ (by kernel_rfl) rfl
    (fun f fn hf hfn => by
      obtain rfl : f = 7 := Option.some.inj ((show Tryd.prog.funcNamed "bascule/basculelaw05.OpOne" = some 7 by kernel_rfl).symm.trans hf) |>.symm
      obtain rfl : fn = Tryd.f7 := (Option.some.inj (Tryd.func7.symm.trans hfn)).symm
      exact ⟨by kernel_rfl, fun j t ht => by
        rw [Tryd.params7] at ht
        have hm : t ∈ [24, 29] := by simpa using Array.mem_of_getElem? ht
        have hall : ([24, 29].all fun u => !Tryd.prog.wantsStandIn u) = true := by kernel_rfl
        exact (show Tryd.prog.wantsStandIn t = false by simpa using List.all_eq_true.1 hall t hm)⟩)
    (by kernel_rfl)
#print axioms card

end Go.Proofs.YtcabdokcinlabaaDoor.opOne
