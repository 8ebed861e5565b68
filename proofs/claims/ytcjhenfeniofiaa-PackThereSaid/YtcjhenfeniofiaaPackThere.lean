/- For every word, field and number: what is put is there, and no field that lies apart is turned. No condition. -/
import Derived.Test.YtcjhenfeniofiaaLaw
import Derived.Test.YtcjhenfeniofiaaPkAlive
namespace Go.Proofs.Ytcjhenfeniofiaa.packThere
open Go.ChangeShapes Go.WideShapes Go.ChangeAt Go.RowKit

set_option maxHeartbeats 1000000 in
theorem walk_bad (x a b v c d : Int) (h : Pk.inW a b = false) (w : World) :
    Calls Try.prog 6 #[.int .u64 x, .int .i64 a, .int .i64 b, .int .u64 v, .int .i64 c, .int .i64 d] w (Ret (.bool true) w) := by
  have H := Lib.hid h
  clear h
  go_enter Try.func6, Try.ntmps6
  go_wp2_with (first
    | (go_at_call 12; refine (alive_any _).mono ?_; rintro e w1 ⟨rfl, hb1⟩)
    | (go_at_call 8; refine (put_bad _ _ _ _ H.out _).mono ?_; rintro e w2 ⟨rfl, hb2⟩))
  go_ret
  exact Ret.mk rfl (below_then hb1 hb2)

set_option maxHeartbeats 1000000 in
theorem walk_over (x : Int) (a b v : Nat) (c d : Int) (h1 : 1 ≤ b) (h : a + b ≤ 64) (hv : Pk.fitsB v b = false) (w : World) :
    Calls Try.prog 6 #[.int .u64 x, .int .i64 a, .int .i64 b, .int .u64 v, .int .i64 c, .int .i64 d] w (Ret (.bool true) w) := by
  have H := Lib.hid hv
  clear hv
  go_enter Try.func6, Try.ntmps6
  go_wp2_with (first
    | (go_at_call 12; refine (alive_any _).mono ?_; rintro e w1 ⟨rfl, hb1⟩)
    | (go_at_call 8; refine (put_over _ a b v h1 h H.out _).mono ?_; rintro e w2 ⟨rfl, hb2⟩))
  go_ret
  exact Ret.mk rfl (below_then hb1 hb2)

set_option maxHeartbeats 2000000 in
theorem walk_none (x a b v : Nat) (c d : Int) (hx : x < 18446744073709551616) (h1 : 1 ≤ b) (h : a + b ≤ 64) (hv : Pk.fitsB v b = true) (hcd : Pk.inW c d = false) (w : World) :
    Calls Try.prog 6 #[.int .u64 x, .int .i64 a, .int .i64 b, .int .u64 v, .int .i64 c, .int .i64 d] w (Ret (.bool true) w) := by
  have HV := Lib.hid hv
  have HX := Lib.hid hx
  have HP := Lib.hid (Pk.put_lt x a b v hx (Pk.fits_lt hv) h)
  have HQ := Lib.hid (Pk.field_put x a b v hx (Pk.fits_lt hv) h)
  have H := Lib.hid hcd
  clear hv hx hcd
  go_enter Try.func6, Try.ntmps6
  go_wp2_with (first
    | (go_at_call 12; refine (alive_any _).mono ?_; rintro e w1 ⟨rfl, hb1⟩)
    | (go_at_call 8; refine (put_ok x a b v HX.out h1 h HV.out _).mono ?_; rintro e w2 ⟨rfl, hb2⟩))
  refine (get_ok _ a b HP.out h1 h _).mono ?_
  rintro e w3 ⟨rfl, hb3⟩
  rw [HQ.out]
  go_wp2_with fail
  refine (get_bad _ _ _ H.out _).mono ?_
  rintro e w4 ⟨rfl, hb4⟩
  go_wp2_with fail
  refine (get_bad _ _ _ H.out _).mono ?_
  rintro e w5 ⟨rfl, hb5⟩
  go_wp2
  go_ret
  exact Ret.mk rfl (below_then (below_then (below_then (below_then hb1 hb2) hb3) hb4) hb5)

set_option maxHeartbeats 2000000 in
theorem walk_ok (x a b v c d : Nat) (hx : x < 18446744073709551616) (h1 : 1 ≤ b) (h : a + b ≤ 64) (hv : Pk.fitsB v b = true) (h2 : 1 ≤ d) (h3 : c + d ≤ 64) (w : World) :
    Calls Try.prog 6 #[.int .u64 x, .int .i64 a, .int .i64 b, .int .u64 v, .int .i64 c, .int .i64 d] w (Ret (.bool true) w) := by
  have HV := Lib.hid hv
  have HX := Lib.hid hx
  have HP := Lib.hid (Pk.put_lt x a b v hx (Pk.fits_lt hv) h)
  have HQ := Lib.hid (Pk.field_put x a b v hx (Pk.fits_lt hv) h)
  have HA := Lib.hid (Pk.field_apart x a b v c d hx (Pk.fits_lt hv) h)
  clear hv hx
  go_enter Try.func6, Try.ntmps6
  go_wp2_with (first
    | (go_at_call 12; refine (alive_any _).mono ?_; rintro e w1 ⟨rfl, hb1⟩)
    | (go_at_call 8; refine (put_ok x a b v HX.out h1 h HV.out _).mono ?_; rintro e w2 ⟨rfl, hb2⟩))
  refine (get_ok _ a b HP.out h1 h _).mono ?_
  rintro e w3 ⟨rfl, hb3⟩
  rw [HQ.out]
  go_wp2_with fail
  refine (get_ok _ c d HX.out h2 h3 _).mono ?_
  rintro e w4 ⟨rfl, hb4⟩
  go_wp2_with fail
  refine (get_ok _ c d HP.out h2 h3 _).mono ?_
  rintro e w5 ⟨rfl, hb5⟩
  have hb : Below w.heap.size w w5 := below_then (below_then (below_then (below_then hb1 hb2) hb3) hb4) hb5
  clear hb1 hb2 hb3 hb4 hb5
  by_cases hap : c + d ≤ a
  · rw [HA.out (.inl hap)]
    have t1 : (c : Int) + d ≤ a := by omega
    clear hap
    go_wp2
    go_ret
    exact Ret.mk rfl hb
  · have t1 : ¬ (c : Int) + d ≤ a := by omega
    by_cases hap2 : a + b ≤ c
    · rw [HA.out (.inr hap2)]
      have t2 : (a : Int) + b ≤ c := by omega
      clear hap hap2
      go_wp2
      go_ret
      exact Ret.mk rfl hb
    · have t2 : ¬ (a : Int) + b ≤ c := by omega
      clear hap hap2
      go_wp2
      go_ret
      exact Ret.mk rfl hb

theorem walk (x a b v c d : Int) (hx : (Lit.int .u64 x).wf = true) (hv : (Lit.int .u64 v).wf = true) (w : World) :
    Calls Try.prog 6 #[.int .u64 x, .int .i64 a, .int .i64 b, .int .u64 v, .int .i64 c, .int .i64 d] w (Ret (.bool true) w) := by
  obtain ⟨X, rfl, hX⟩ := u64_nat hx
  obtain ⟨V, rfl, hV⟩ := u64_nat hv
  cases h : Pk.inW a b with
  | false => exact walk_bad _ _ _ _ _ _ h w
  | true =>
    obtain ⟨m, n, rfl, rfl, h1, h2⟩ := Pk.inW_nat h
    cases hf : Pk.fitsB V n with
    | false => exact walk_over X m n V _ _ h1 h2 hf w
    | true =>
      cases hc : Pk.inW c d with
      | false => exact walk_none X m n V _ _ hX h1 h2 hf hc w
      | true =>
        obtain ⟨m', n', rfl, rfl, h3, h4⟩ := Pk.inW_nat hc
        exact walk_ok X m n V m' n' hX h1 h2 hf h3 h4 w

set_option maxRecDepth 100000 in
theorem lifted (os : Os) (started : os.Started) (H : Type) (enc : TypeId × Value → H) :
    ReturnsInHanded {} Try.checked os 6 .any (Rows.packThereSpec.pre6 enc Try.prog Try.f6 Rows.packThereRow.domain false) (Rows.packThereSpec.post enc Try.prog Try.f6 false true false false) := by
  refine returnsInHanded_of_change (C := Try.checked) own started (by kernel_rfl) Try.func6
    (ChangeSpec.witness6 (enc := enc) (C := Try.checked) false ⟨#[], #[.int .u64 0, .int .i64 0, .int .i64 0, .int .u64 0, .int .i64 0, .int .i64 0], []⟩ 8 (by kernel_rfl) (by kernel_rfl) (by kernel_rfl) (by kernel_rfl)) ?_
  intro W base args ds gs before hval hW hcnd _
  refine law_of laidOut (by kernel_rfl) (by kernel_rfl) Try.underlying4 rfl ?_ hW fun p hA => ?_
  · intro ds hd
    match ds, hd with
    | [_, _, _, _, _, _], _ => rfl
  have hval' : ∀ (j : Nat) t v, Try.f6.params[j]? = some t → args[j]? = some v → Value.okWide Try.prog W .any base t v := hval
  rw [Try.params6] at hA hval'
  obtain ⟨v0, vs0, d0, ds0, p0, q0, hargs, rfl, rfl, h0, r0⟩ := trodAll_cons hA
  obtain ⟨v1, vs1, d1, ds1, p1, q1, rfl, rfl, rfl, h1, r1⟩ := trodAll_cons r0
  obtain ⟨v2, vs2, d2, ds2, p2, q2, rfl, rfl, rfl, h2, r2⟩ := trodAll_cons r1
  obtain ⟨v3, vs3, d3, ds3, p3, q3, rfl, rfl, rfl, h3, r3⟩ := trodAll_cons r2
  obtain ⟨v4, vs4, d4, ds4, p4, q4, rfl, rfl, rfl, h4, r4⟩ := trodAll_cons r3
  obtain ⟨v5, vs5, d5, ds5, p5, q5, rfl, rfl, rfl, h5, r5⟩ := trodAll_cons r4
  obtain ⟨rfl, rfl, rfl⟩ := trodAll_nil r5
  obtain rfl : args = #[v0, v1, v2, v3, v4, v5] := by cases args; simp_all
  obtain ⟨a0, rfl, _, _, w0⟩ := open_int Try.underlying22 (hval' 0 _ v0 rfl rfl) h0
  obtain ⟨a1, rfl, _, _, w1⟩ := open_int Try.underlying3 (hval' 1 _ v1 rfl rfl) h1
  obtain ⟨a2, rfl, _, _, w2⟩ := open_int Try.underlying3 (hval' 2 _ v2 rfl rfl) h2
  obtain ⟨a3, rfl, _, _, w3⟩ := open_int Try.underlying22 (hval' 3 _ v3 rfl rfl) h3
  obtain ⟨a4, rfl, _, _, w4⟩ := open_int Try.underlying3 (hval' 4 _ v4 rfl rfl) h4
  obtain ⟨a5, rfl, _, _, w5⟩ := open_int Try.underlying3 (hval' 5 _ v5 rfl rfl) h5
  exact walk a0 a1 a2 a3 a4 a5 w0 w3 W

theorem proved : Rows.PackThereSaid :=
  OpenClaim.holds_of_wide 6 Try.f6 rfl rfl rfl rfl rfl rfl rfl ⟨rfl, rfl, rfl, rfl, rfl⟩ rfl rfl rfl rfl rfl (by kernel_rfl) Try.func6 (by kernel_rfl)
    (of_decide_eq_true (by kernel_rfl)) (by unfold Func.isWrapper; rw [if_neg (by decide +kernel)]; exact ⟨rfl, rfl⟩)
    (fun os started H enc _ => lifted os started H enc)
#print axioms proved
end Go.Proofs.Ytcjhenfeniofiaa.packThere
