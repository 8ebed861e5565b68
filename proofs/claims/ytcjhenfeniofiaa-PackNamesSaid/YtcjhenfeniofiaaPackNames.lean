/- The errors' numbers and the chapter's examples, and more of them, of package pack. No condition. -/
import Derived.Test.YtcjhenfeniofiaaLaw
import Derived.Test.YtcjhenfeniofiaaPkAlive
namespace Go.Proofs.Ytcjhenfeniofiaa.packNames
open Go.ChangeShapes Go.WideShapes Go.ChangeAt Go.RowKit

theorem put_over_ex (x : Int) (a b v : Nat) (h1 : 1 ≤ b) (h : a + b ≤ 64) (hv : Pk.fitsB v b = false) (za zb zv : Int) (ea : za = a) (eb : zb = b) (ev : zv = v) (w : World) :
    Calls Try.prog 8 #[.int .u64 x, .int .i64 za, .int .i64 zb, .int .u64 zv] w (Ret2 (.int .u64 0) (.int .i64 10) w) := by
  subst ea eb ev; exact put_over x a b v h1 h hv w
theorem split_bad_ex (x : Nat) (zx : Int) (ex : zx = x) (g : Nat) (b0 b1 : Int) (w : World) (h0 : w.cell? ⟨g, 0, none⟩ = some (.int .i64 b0)) (h1 : w.cell? ⟨g, 1, none⟩ = some (.int .i64 b1)) (hs : Pk.standB (fun i => if i = 0 then b0 else b1) 2 = false) :
    Calls Try.prog 11 #[.int .u64 zx, .slice (some ⟨g, 0, none⟩) 2 2] w (Ret2 (.slice none 0 0) (.int .i64 2) w) := by
  subst ex; exact split_bad x _ 2 2 (by omega) _ w (lit_ints h0 h1) hs
theorem join_nil (w : World) : Calls Try.prog 10 #[.slice none 0 0] w (Ret2 (.int .u64 0) (.int .i64 0) w) :=
  join_any none 0 0 (by omega) (fun _ => 0) (fun _ => 0) w (fun i hi => by omega)

set_option maxRecDepth 100000 in
set_option maxHeartbeats 4000000 in
theorem walk (w : World) : Calls Try.prog 3 #[] w (Ret (.bool true) w) := by
  go_enter Try.func3, Try.ntmps3
  go_wp2_with fail
  refine (put_over_ex 0 8 4 16 (by decide) (by decide) (by decide) _ _ _ rfl rfl rfl _).mono ?_
  rintro e w1 ⟨rfl, hb1⟩
  go_wp2_with fail
  refine (get_bad _ _ _ (by decide) _).mono ?_
  rintro e w2 ⟨rfl, hb2⟩
  go_wp2_with fail
  refine (get_bad _ _ _ (by decide) _).mono ?_
  rintro e w3 ⟨rfl, hb3⟩
  go_wp2_with fail
  refine (get_bad _ _ _ (by decide) _).mono ?_
  rintro e w4 ⟨rfl, hb4⟩
  go_wp2_with fail
  refine (get_ex 18446744073709551615 0 64 18446744073709551615 (by decide) (by decide) (by decide) (by decide +kernel) _ _ _ rfl rfl rfl _).mono ?_
  rintro e w5 ⟨rfl, hb5⟩
  go_wp2_with fail
  refine (put_ex 18446744073709551615 63 1 0 9223372036854775807 (by decide) (by decide) (by decide) (by decide) (by decide +kernel) _ _ _ _ rfl rfl rfl rfl _).mono ?_
  rintro e w6 ⟨rfl, hb6⟩
  go_wp2_with fail
  refine (join_ex _ 60 5 0 99 0 2 _ (by simp [go_sem]) (by simp [go_sem]) (by simp [go_sem]) (by simp [go_sem]) (by decide +kernel) (by decide +kernel)).mono ?_
  rintro e w7 ⟨rfl, hb7⟩
  go_wp2_with fail
  refine (join_ex _ 60 4 0 16 0 10 _ (by simp [go_sem]) (by simp [go_sem]) (by simp [go_sem]) (by simp [go_sem]) (by decide +kernel) (by decide +kernel)).mono ?_
  rintro e w8 ⟨rfl, hb8⟩
  go_wp2_with fail
  refine (join_nil _).mono ?_
  rintro e w9 ⟨rfl, hb9⟩
  go_wp2_with fail
  refine (split_bad_ex 0 _ rfl _ 64 1 _ (by simp [go_sem]) (by simp [go_sem]) (by decide +kernel)).mono ?_
  rintro e w10 ⟨rfl, hb10⟩
  go_wp2_with fail
  refine (alive_any _).mono ?_
  rintro e w11 ⟨rfl, hb11⟩
  have a1 := below_then (below_then (below_then (below_then (below_then hb1 hb2) hb3) hb4) hb5) hb6
  have a2 := below_then (below_then a1 (below_then (below_one _ _) hb7)) (below_then (below_one _ _) hb8)
  have a3 := below_then (below_then (below_then a2 hb9) (below_then (below_one _ _) hb10)) hb11
  clear hb1 hb2 hb3 hb4 hb5 hb6 hb7 hb8 hb9 hb10 hb11 a1 a2
  go_wp2
  go_ret
  exact Ret.mk rfl a3

set_option maxRecDepth 100000 in
theorem lifted (os : Os) (started : os.Started) (H : Type) (enc : TypeId × Value → H) :
    ReturnsInHanded {} Try.checked os 3 .any (Rows.packNamesSpec.pre6 enc Try.prog Try.f3 Rows.packNamesRow.domain false) (Rows.packNamesSpec.post enc Try.prog Try.f3 false true false false) := by
  refine returnsInHanded_of_change (C := Try.checked) own started (by kernel_rfl) Try.func3
    (ChangeSpec.witness6 (enc := enc) (C := Try.checked) false ⟨#[], #[], []⟩ 8 (by kernel_rfl) (by kernel_rfl) (by kernel_rfl) (by kernel_rfl)) ?_
  intro W base args ds gs before hval hW hcnd _
  refine law_of laidOut (by kernel_rfl) (by kernel_rfl) Try.underlying4 rfl ?_ hW fun p hA => ?_
  · intro ds hd
    match ds, hd with
    | [], _ => rfl
  rw [Try.params3] at hA
  obtain ⟨hargs, rfl, rfl⟩ := trodAll_nil hA
  obtain rfl : args = #[] := by cases args; simp_all
  exact walk W

theorem proved : Rows.PackNamesSaid :=
  OpenClaim.holds_of_wide 3 Try.f3 rfl rfl rfl rfl rfl rfl rfl ⟨rfl, rfl, rfl, rfl, rfl⟩ rfl rfl rfl rfl rfl (by kernel_rfl) Try.func3 (by kernel_rfl)
    (of_decide_eq_true (by kernel_rfl)) (by unfold Func.isWrapper; rw [if_neg (by decide +kernel)]; exact ⟨rfl, rfl⟩)
    (fun os started H enc _ => lifted os started H enc)
#print axioms proved
end Go.Proofs.Ytcjhenfeniofiaa.packNames
