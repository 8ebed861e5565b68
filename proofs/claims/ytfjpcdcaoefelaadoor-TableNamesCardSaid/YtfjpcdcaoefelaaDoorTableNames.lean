/- TableNames, with no argument, returns true: the errors' numbers, and what an operation answers at the chapter's examples. Condition: none but that the table of objects stands as the program's own start makes it. -/
import Derived.Test.YtfjpcdcaoefelaaDoorTbLive
import Derived.Test.YtfjpcdcaoefelaaDoorLaw
import Derived.Test.YtfjpcdcaoefelaaDoorOpen
import Derived.Test.YtfjpcdcaoefelaaDoorObLaid
namespace Go.Proofs.YtfjpcdcaoefelaaDoor.tableNames
open Go.ChangeShapes Go.WideShapes Go.ChangeAt Go.RowKit Go.Lib Pt Opn Tb

/-- What Do answers at an example: the error alone is told. -/
def Er (err : Int) (w : World) (e : Ending) (w' : World) : Prop := ∃ u x y, e = .returned (.tuple #[u, .agg #[.int .i64 x, .int .u32 y, .slice none 0 0], .int .i64 err]) ∧ Below w.heap.size w w'
theorem do_ex (c : Cf) (l : List R) (o : O) (ho : Wf o) (err : Int) (hg : doE c l = err) (n : Nat) (hn : l.length = n) (hl : n ≤ 1000) (A : Option Addr) (d : Nat) (hA : A = none → n = 0 ∧ d = 0) (w : World) (hp : Obs w) (h : IsR w A l) :
    Calls Tryd.prog 9 #[cfv c, .slice A n d, opv o] w (Er err w) := by
  subst hn
  rw [← hg]
  refine (do_any c A l d o ho hA (by omega) w hp h).mono ?_
  rintro e w' ⟨u, rfl, -, hb⟩
  exact ⟨u, _, _, rfl, hb⟩
theorem er_0 (X : World) (hp : Obs X) : Calls Tryd.prog 9 #[.agg #[.int .u8 0, .int .i64 0, .int .i64 0, .int .u8 0, .int .i64 0, .int .i64 0, .int .i64 0, .int .i64 0, .int .i64 0, .int .i64 0, .int .u64 0, .int .u64 0], .slice none 0 0, .agg #[.int .u8 0, .int .u32 0, .int .u32 0, .int .u32 0]] X (Er 40 X) :=
  do_ex ⟨0, 0, 0, 0, 0, 0, 0, 0, 0, 0, 0, 0⟩ [] ⟨0, 0, 0, 0⟩ (by unfold Wf; decide) 40 (by decide +kernel) 0 rfl (by decide) none 0 (by simp) X hp (IsL.nil _ _ _ _)
theorem er_1 (g : Nat) (k v : Nat) (hg : doE cfC [(k, v)] = 2) (X : World) (hp : Obs X) (h : IsR X (some ⟨g, 0, none⟩) [(k, v)]) : Calls Tryd.prog 9 #[.agg #[.int .u8 1, .int .i64 2, .int .i64 1, .int .u8 1, .int .i64 0, .int .i64 3, .int .i64 2, .int .i64 0, .int .i64 1, .int .i64 0, .int .u64 131072, .int .u64 0], .slice (some ⟨g, 0, none⟩) 1 1, .agg #[.int .u8 0, .int .u32 0, .int .u32 0, .int .u32 0]] X (Er 2 X) :=
  do_ex cfC [(k, v)] ⟨0, 0, 0, 0⟩ (by unfold Wf; decide) 2 hg 1 rfl (by decide) _ 1 (by simp) X hp h
theorem er_2 (g : Nat) (X : World) (hp : Obs X) (h : IsR X (some ⟨g, 0, none⟩) [(2, 0), (2, 0)]) : Calls Tryd.prog 9 #[.agg #[.int .u8 1, .int .i64 2, .int .i64 1, .int .u8 1, .int .i64 0, .int .i64 3, .int .i64 2, .int .i64 0, .int .i64 1, .int .i64 0, .int .u64 131072, .int .u64 0], .slice (some ⟨g, 0, none⟩) 2 2, .agg #[.int .u8 0, .int .u32 0, .int .u32 0, .int .u32 0]] X (Er 2 X) :=
  do_ex cfC [(2, 0), (2, 0)] ⟨0, 0, 0, 0⟩ (by unfold Wf; decide) 2 (by decide +kernel) 2 rfl (by decide) _ 2 (by simp) X hp h

theorem nx_0 (ga : Nat) (X : World) (hp : Obs X) (h : IsR X (some ⟨ga, 0, none⟩) [(13, 7)]) :
    Calls Tryd.prog 11 #[.slice (some ⟨ga, 0, none⟩) 1 1, .agg #[.int .u8 6, .int .u32 0, .int .u32 0, .int .u32 0], .int .i64 50, .int .u32 0, .slice (some ⟨ga, 0, none⟩) 1 1] X (Ret (.bool true) X) :=
  does_ex [(13, 7)] [(13, 7)] ⟨6, 0, 0, 0⟩ (by unfold Wf; decide) 50 0 (by decide +kernel) 6 0 0 0 rfl rfl rfl rfl 1 1 rfl rfl (by decide) (some ⟨ga, 0, none⟩) (some ⟨ga, 0, none⟩) 1 1 (by simp) X hp h h
theorem nx_1 (ga : Nat) (X : World) (hp : Obs X) (h : IsR X (some ⟨ga, 0, none⟩) [(13, 7)]) :
    Calls Tryd.prog 11 #[.slice (some ⟨ga, 0, none⟩) 1 1, .agg #[.int .u8 3, .int .u32 8, .int .u32 0, .int .u32 0], .int .i64 10, .int .u32 0, .slice (some ⟨ga, 0, none⟩) 1 1] X (Ret (.bool true) X) :=
  does_ex [(13, 7)] [(13, 7)] ⟨3, 8, 0, 0⟩ (by unfold Wf; decide) 10 0 (by decide +kernel) 3 8 0 0 rfl rfl rfl rfl 1 1 rfl rfl (by decide) (some ⟨ga, 0, none⟩) (some ⟨ga, 0, none⟩) 1 1 (by simp) X hp h h
theorem nx_2 (ga : Nat) (X : World) (hp : Obs X) (h : IsR X (some ⟨ga, 0, none⟩) [(13, 7)]) :
    Calls Tryd.prog 11 #[.slice (some ⟨ga, 0, none⟩) 1 1, .agg #[.int .u8 2, .int .u32 1, .int .u32 3, .int .u32 0], .int .i64 6, .int .u32 0, .slice (some ⟨ga, 0, none⟩) 1 1] X (Ret (.bool true) X) :=
  does_ex [(13, 7)] [(13, 7)] ⟨2, 1, 3, 0⟩ (by unfold Wf; decide) 6 0 (by decide +kernel) 2 1 3 0 rfl rfl rfl rfl 1 1 rfl rfl (by decide) (some ⟨ga, 0, none⟩) (some ⟨ga, 0, none⟩) 1 1 (by simp) X hp h h
set_option maxRecDepth 20000 in
set_option maxHeartbeats 4000000 in
theorem walk (w : World) (hp : Obs w) : Calls Tryd.prog 3 #[] w (Ret (.bool true) w) := by
  have HP := Lib.hid hp
  clear hp
  have HC := conf_any
  unfold cfv cfC at HC
  replace HC := Lib.hid HC
  go_enter Tryd.func3, Tryd.ntmps3
  go_wp2_with fail
  obtain ⟨W, hW⟩ : ∃ W, W = (w.alloc (.cells #[.int .u64 13, .int .u64 7] 24)) := ⟨_, rfl⟩
  have hb0 : Below w.heap.size w W := by rw [hW]; exact below_one _ _
  have HP1 := Lib.hid (HP.out.below hb0)
  have R1 := Lib.hid (show IsR W (some ⟨w.heap.size, 0, none⟩) [(13, 7)] by rw [hW]; exact is_one (by simp [go_sem]) (by simp [go_sem]))
  rw [← hW]
  clear hW
  refine (er_0 _ HP1.out).mono ?_
  rintro e w1 ⟨u0, x0, y0, rfl, hb1⟩
  go_wp2_with fail
  refine (HC.out _).mono ?_
  rintro e v0 ⟨rfl, hb2⟩
  replace hb1 := below_then (below_then hb1 (below_one _ _)) hb2
  clear hb2
  go_wp2_with fail
  refine (er_1 _ 16 0 (by decide +kernel) _ (HP1.out.below (below_then hb1 (below_one _ _))) (is_one (by simp [go_sem]) (by simp [go_sem]))).mono ?_
  rintro e y0 ⟨u1, x1, z1, rfl, hb2⟩
  replace hb1 := below_then (below_then hb1 (below_one _ _)) hb2
  clear hb2
  go_wp2_with fail
  refine (HC.out _).mono ?_
  rintro e v1 ⟨rfl, hb2⟩
  replace hb1 := below_then (below_then hb1 (below_one _ _)) hb2
  clear hb2
  go_wp2_with fail
  refine (er_2 _ _ (HP1.out.below (below_then hb1 (below_one _ _))) (is_two (by simp [go_sem]) (by simp [go_sem]) (by simp [go_sem]) (by simp [go_sem]))).mono ?_
  rintro e y1 ⟨u2, x2, z2, rfl, hb2⟩
  replace hb1 := below_then (below_then hb1 (below_one _ _)) hb2
  clear hb2
  go_wp2_with fail
  refine (HC.out _).mono ?_
  rintro e v2 ⟨rfl, hb2⟩
  replace hb1 := below_then (below_then hb1 (below_one _ _)) hb2
  clear hb2
  go_wp2_with fail
  refine (er_1 _ 0 0 (by decide +kernel) _ (HP1.out.below (below_then hb1 (below_one _ _))) (is_one (by simp [go_sem]) (by simp [go_sem]))).mono ?_
  rintro e y2 ⟨u3, x3, z3, rfl, hb2⟩
  replace hb1 := below_then (below_then hb1 (below_one _ _)) hb2
  clear hb2
  go_wp2_with fail
  refine (HC.out _).mono ?_
  rintro e v3 ⟨rfl, hb2⟩
  replace hb1 := below_then (below_then hb1 (below_one _ _)) hb2
  clear hb2
  go_wp2_with fail
  refine (er_1 _ 1 2147483648 (by decide +kernel) _ (HP1.out.below (below_then hb1 (below_one _ _))) (is_one (by simp [go_sem]) (by simp [go_sem]))).mono ?_
  rintro e y3 ⟨u4, x4, z4, rfl, hb2⟩
  replace hb1 := below_then (below_then hb1 (below_one _ _)) hb2
  clear hb2
  go_wp2_with fail
  refine (nx_0 w.heap.size _ (HP1.out.below (below_then hb1 (below_one _ _))) (R1.out.below (below_then hb1 (below_one _ _)))).mono ?_
  rintro e q0 ⟨rfl, hb2⟩
  replace hb1 := below_then (below_then hb1 (below_one _ _)) hb2
  clear hb2
  go_wp2_with fail
  refine (nx_1 w.heap.size _ (HP1.out.below hb1) (R1.out.below hb1)).mono ?_
  rintro e q1 ⟨rfl, hb2⟩
  replace hb1 := below_then hb1 hb2
  clear hb2
  go_wp2_with fail
  refine (nx_2 w.heap.size _ (HP1.out.below hb1) (R1.out.below hb1)).mono ?_
  rintro e q2 ⟨rfl, hb2⟩
  replace hb1 := below_then hb1 hb2
  clear hb2
  go_wp2_with fail
  refine (alive_any _ (HP1.out.below hb1)).mono ?_
  rintro e q3 ⟨rfl, hb2⟩
  replace hb1 := below_then hb1 hb2
  clear hb2
  go_wp2
  go_ret
  exact Ret.mk rfl (below_then hb0 hb1)

set_option maxRecDepth 100000 in
theorem lifted (os : Os) (started : os.Started) (H : Type) (enc : TypeId × Value → H) :
    ReturnsInHanded {} Tryd.checked os 3 .any (fun w args => (Rows.tableNamesSpec.pre enc Tryd.prog Tryd.f3 [] false w args ∧ laidMetH Tryd.prog laidL w) ∧ sizedMet enc Tryd.prog Tryd.f3 (OpenSpec.ofChange Rows.tableNamesSpec) false w args)
      (Rows.tableNamesSpec.post enc Tryd.prog Tryd.f3 false true false false) := by
  refine returnsInHanded_of_change_and (C := Tryd.checked) (X := fun w _ => laidMetH Tryd.prog laidL w) (fun _ _ _ hh h => h.of_heap hh) own started (by kernel_rfl) Tryd.func3
    (ChangeSpec.witness_shaped (enc := enc) (C := Tryd.checked) (os := os) (X := fun w _ => laidMetH Tryd.prog laidL w) false (World.doorLaid Tryd.prog 400 os) #[] 8 rfl (World.shaped_of_RefB (by kernel_rfl) (by kernel_rfl)) (by kernel_rfl) (by kernel_rfl) (by kernel_rfl) (door_met os _)) ?_
  intro W base args ds gs before hval0 hW _ _ hL _
  refine law_of laidOut (by kernel_rfl) (by kernel_rfl) Tryd.underlying4 rfl ?_ hW fun p hA => ?_
  · intro ds hd
    match ds, hd with
    | [], _ => rfl
  rw [Tryd.params3] at hA
  obtain ⟨hargs, rfl, rfl⟩ := trodAll_nil hA
  obtain rfl : args = #[] := by cases args; simp_all
  exact walk W (of_laid hL)

theorem row : Rows.TableNamesSaid :=
  OpenClaim.holds_of_wide 3 Tryd.f3 rfl rfl rfl rfl rfl rfl rfl ⟨rfl, rfl, rfl, rfl, rfl⟩ rfl rfl rfl rfl rfl (by kernel_rfl) Tryd.func3 (by kernel_rfl)
    (of_decide_eq_true (by kernel_rfl)) (by unfold Func.isWrapper; first | (rw [if_pos (by decide +kernel)]; kernel_rfl) | (rw [if_neg (by decide +kernel)]; exact ⟨rfl, rfl⟩))
    (fun os started H enc _ => lifted os started H enc)

theorem card : Rows.TableNamesCardSaid :=
  Claim7.holds_tied_plain_at .later [] [.data] true Rows.tableNamesCard.stood.harness false
    row (fun _ h => by cases h) (by kernel_rfl) (fun _ h => by cases h) tableNames_row_tie rfl ⟨rfl, rfl⟩ (by kernel_rfl) rfl
    (fun f fn hf hfn => by
      obtain rfl : f = 3 := Option.some.inj ((show Tryd.prog.funcNamed "bascule/basculelaw06.TableNames" = some 3 by kernel_rfl).symm.trans hf) |>.symm
      obtain rfl : fn = Tryd.f3 := (Option.some.inj (Tryd.func3.symm.trans hfn)).symm
      exact ⟨by kernel_rfl, fun j t ht => by
        rw [Tryd.params3] at ht
        simp at ht⟩)
    (by kernel_rfl)
#print axioms card

end Go.Proofs.YtfjpcdcaoefelaaDoor.tableNames
