/- For every word, place, number of bits and number: Get and Put of package pack answer what the document's own answers say. No condition. -/
import Derived.Test.YtcjhenfeniofiaaLaw
import Derived.Test.YtcjhenfeniofiaaPkWalks
import Derived.Test.YtcjhenfeniofiaaPkRef
namespace Go.Proofs.Ytcjhenfeniofiaa.packFields
open Go.ChangeShapes Go.WideShapes Go.ChangeAt Go.RowKit

set_option maxHeartbeats 1000000 in
theorem walk_bad (x a b v : Int) (h : Pk.inW a b = false) (w : World) :
    Calls Try.prog 4 #[.int .u64 x, .int .i64 a, .int .i64 b, .int .u64 v] w (Ret (.bool true) w) := by
  go_enter Try.func4, Try.ntmps4
  go_wp2_with (first
    | (go_at_call 9; refine (get_bad _ _ _ h _).mono ?_; rintro e w1 ⟨rfl, hb1⟩)
    | (go_at_call 13; refine (rGet_bad _ _ _ h _).mono ?_; rintro e w2 ⟨rfl, hb2⟩)
    | (go_at_call 8; refine (put_bad _ _ _ _ h _).mono ?_; rintro e w3 ⟨rfl, hb3⟩)
    | (go_at_call 14; refine (rPut_bad _ _ _ _ h _).mono ?_; rintro e w4 ⟨rfl, hb4⟩))
  go_ret
  exact Ret.mk rfl (below_then (below_then (below_then hb1 hb2) hb3) hb4)

set_option maxHeartbeats 1000000 in
theorem walk_over (x a b v : Nat) (hx : x < 18446744073709551616) (h1 : 1 ≤ b) (h : a + b ≤ 64) (hw : v < 18446744073709551616) (hv : Pk.fitsB v b = false) (w : World) :
    Calls Try.prog 4 #[.int .u64 x, .int .i64 a, .int .i64 b, .int .u64 v] w (Ret (.bool true) w) := by
  have HX := Lib.hid hx
  have HW := Lib.hid hw
  have HV := Lib.hid hv
  clear hx hw hv
  go_enter Try.func4, Try.ntmps4
  go_wp2_with (first
    | (go_at_call 9; refine (get_ok x a b HX.out h1 h _).mono ?_; rintro e w1 ⟨rfl, hb1⟩)
    | (go_at_call 13; refine (rGet_ok x a b HX.out h1 h _).mono ?_; rintro e w2 ⟨rfl, hb2⟩)
    | (go_at_call 8; refine (put_over _ a b v h1 h HV.out _).mono ?_; rintro e w3 ⟨rfl, hb3⟩)
    | (go_at_call 14; refine (rPut_over _ a b v h1 h HW.out HV.out _).mono ?_; rintro e w4 ⟨rfl, hb4⟩))
  go_ret
  exact Ret.mk rfl (below_then (below_then (below_then hb1 hb2) hb3) hb4)

set_option maxHeartbeats 1000000 in
theorem walk_ok (x a b v : Nat) (hx : x < 18446744073709551616) (h1 : 1 ≤ b) (h : a + b ≤ 64) (hv : Pk.fitsB v b = true) (w : World) :
    Calls Try.prog 4 #[.int .u64 x, .int .i64 a, .int .i64 b, .int .u64 v] w (Ret (.bool true) w) := by
  have HX := Lib.hid hx
  have HV := Lib.hid hv
  clear hx hv
  go_enter Try.func4, Try.ntmps4
  go_wp2_with (first
    | (go_at_call 9; refine (get_ok x a b HX.out h1 h _).mono ?_; rintro e w1 ⟨rfl, hb1⟩)
    | (go_at_call 13; refine (rGet_ok x a b HX.out h1 h _).mono ?_; rintro e w2 ⟨rfl, hb2⟩)
    | (go_at_call 8; refine (put_ok x a b v HX.out h1 h HV.out _).mono ?_; rintro e w3 ⟨rfl, hb3⟩)
    | (go_at_call 14; refine (rPut_ok x a b v HX.out h1 h HV.out _).mono ?_; rintro e w4 ⟨rfl, hb4⟩))
  go_ret
  exact Ret.mk rfl (below_then (below_then (below_then hb1 hb2) hb3) hb4)

theorem walk (x a b v : Int) (hx : (Lit.int .u64 x).wf = true) (hv : (Lit.int .u64 v).wf = true) (w : World) :
    Calls Try.prog 4 #[.int .u64 x, .int .i64 a, .int .i64 b, .int .u64 v] w (Ret (.bool true) w) := by
  obtain ⟨X, rfl, hX⟩ := u64_nat hx
  obtain ⟨V, rfl, hV⟩ := u64_nat hv
  cases h : Pk.inW a b with
  | false => exact walk_bad _ _ _ _ h w
  | true =>
    obtain ⟨m, n, rfl, rfl, h1, h2⟩ := Pk.inW_nat h
    cases hf : Pk.fitsB V n with
    | false => exact walk_over X m n V hX h1 h2 hV hf w
    | true => exact walk_ok X m n V hX h1 h2 hf w

set_option maxRecDepth 100000 in
theorem lifted (os : Os) (started : os.Started) (H : Type) (enc : TypeId × Value → H) :
    ReturnsInHanded {} Try.checked os 4 .any (Rows.packFieldsSpec.pre6 enc Try.prog Try.f4 Rows.packFieldsRow.domain false) (Rows.packFieldsSpec.post enc Try.prog Try.f4 false true false false) := by
  refine returnsInHanded_of_change (C := Try.checked) own started (by kernel_rfl) Try.func4
    (ChangeSpec.witness6 (enc := enc) (C := Try.checked) false ⟨#[], #[.int .u64 0, .int .i64 0, .int .i64 0, .int .u64 0], []⟩ 8 (by kernel_rfl) (by kernel_rfl) (by kernel_rfl) (by kernel_rfl)) ?_
  intro W base args ds gs before hval hW hcnd _
  refine law_of laidOut (by kernel_rfl) (by kernel_rfl) Try.underlying4 rfl ?_ hW fun p hA => ?_
  · intro ds hd
    match ds, hd with
    | [_, _, _, _], _ => rfl
  have hval' : ∀ (j : Nat) t v, Try.f4.params[j]? = some t → args[j]? = some v → Value.okWide Try.prog W .any base t v := hval
  rw [Try.params4] at hA hval'
  obtain ⟨v0, vs0, d0, ds0, p0, q0, hargs, rfl, rfl, h0, r0⟩ := trodAll_cons hA
  obtain ⟨v1, vs1, d1, ds1, p1, q1, rfl, rfl, rfl, h1, r1⟩ := trodAll_cons r0
  obtain ⟨v2, vs2, d2, ds2, p2, q2, rfl, rfl, rfl, h2, r2⟩ := trodAll_cons r1
  obtain ⟨v3, vs3, d3, ds3, p3, q3, rfl, rfl, rfl, h3, r3⟩ := trodAll_cons r2
  obtain ⟨rfl, rfl, rfl⟩ := trodAll_nil r3
  obtain rfl : args = #[v0, v1, v2, v3] := by cases args; simp_all
  obtain ⟨a0, rfl, _, _, w0⟩ := open_int Try.underlying22 (hval' 0 _ v0 rfl rfl) h0
  obtain ⟨a1, rfl, _, _, w1⟩ := open_int Try.underlying3 (hval' 1 _ v1 rfl rfl) h1
  obtain ⟨a2, rfl, _, _, w2⟩ := open_int Try.underlying3 (hval' 2 _ v2 rfl rfl) h2
  obtain ⟨a3, rfl, _, _, w3⟩ := open_int Try.underlying22 (hval' 3 _ v3 rfl rfl) h3
  exact walk a0 a1 a2 a3 w0 w3 W

theorem proved : Rows.PackFieldsSaid :=
  OpenClaim.holds_of_wide 4 Try.f4 rfl rfl rfl rfl rfl rfl rfl ⟨rfl, rfl, rfl, rfl, rfl⟩ rfl rfl rfl rfl rfl (by kernel_rfl) Try.func4 (by kernel_rfl)
    (of_decide_eq_true (by kernel_rfl)) (by unfold Func.isWrapper; rw [if_neg (by decide +kernel)]; exact ⟨rfl, rfl⟩)
    (fun os started H enc _ => lifted os started H enc)
#print axioms proved
end Go.Proofs.Ytcjhenfeniofiaa.packFields
