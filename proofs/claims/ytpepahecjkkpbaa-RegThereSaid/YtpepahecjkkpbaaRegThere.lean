/- For every cell: what is read is laid as it was, but for the bits 50 to 63 of its A. -/
import Derived.Test.YtpepahecjkkpbaaRgLive
import Derived.Test.YtpepahecjkkpbaaRgOpen
import Derived.Test.YtpepahecjkkpbaaOpenCell
import Derived.Test.YtpepahecjkkpbaaLaw
namespace Go.Proofs.Ytpepahecjkkpbaa.regThere
open Go.ChangeShapes Go.WideShapes Go.ChangeAt Go.RowKit Opn

theorem laid_back (t A B C : Nat) : laidD (ofC t A B C) = ((t, A % 1125899906842624, B, C), 0) := by
  unfold laidD
  rw [if_pos (ofC_fits t A B C)]
  obtain ⟨h1, h2, h3⟩ := ofC_back t A B C
  rw [h1, h2, h3]
  rfl

set_option maxRecDepth 100000 in
set_option maxHeartbeats 4000000 in
theorem walk (t A B C : Nat) (ht : t < 18446744073709551616) (hA : A < 18446744073709551616) (hB : B < 18446744073709551616) (hC : C < 18446744073709551616) (w : World) :
    Calls Try.prog 6 #[.agg #[.int .u64 t, .int .u64 A, .int .u64 B, .int .u64 C]] w (Ret (.bool true) w) := by
  have HO := Lib.hid (fun W => gOf_any t A B C ht hA hB hC W)
  have HL := Lib.hid (fun W => gLaid_any (ofC t A B C) (ofC_wf ht hB hC) W)
  rw [laid_back] at HL
  have HA := Lib.hid (fun W => rgalive_any W)
  obtain ⟨M, hM⟩ : ∃ M, A % 1125899906842624 = M := ⟨_, rfl⟩
  rw [hM] at HL
  have hM2 : (A : Int) % 1125899906842624 = (M : Int) := by omega
  have EQ := fun W => eq_cell t M B C t M B C true (by simp) W
  generalize ofC t A B C = D at *
  clear hM ht hA hB hC
  unfold clv dsv at HL
  unfold dsv at HO
  simp only at HL
  go_enter Try.func6, Try.ntmps6
  go_wp2_with fail
  refine (HO.out _).mono ?_
  rintro e w1 ⟨rfl, hb1⟩
  go_wp2_with fail
  refine (HL.out _).mono ?_
  rintro e w2 ⟨rfl, hb2⟩
  replace hb1 := below_then hb1 hb2
  obtain ⟨hc1, hf1⟩ := bcell hb1
  have hs := hb1.size
  simp at hs
  have q1 : w.heap.size < w2.heap.size := by omega
  clear hb2
  go_wp2_with fail
  refine (HA.out _).mono ?_
  rintro e w3 ⟨rfl, hb3⟩
  have hc3 := (bcell hb3).1
  have hs3 := hb3.size
  simp at hs3
  have q2 : w.heap.size < w3.heap.size := by omega
  have q3 : w2.heap.size < w3.heap.size := by omega
  go_wp2
  go_ret
  exact Ret.mk rfl (below_then (below_then ((below_b1 hb1).setCell (by simp) _) (below_one _ _)) hb3)

set_option maxRecDepth 100000 in
theorem lifted (os : Os) (started : os.Started) (H : Type) (enc : TypeId × Value → H) :
    ReturnsInHanded {} Try.checked os 6 .any (Rows.regThereSpec.pre6 enc Try.prog Try.f6 Rows.regThereRow.domain false) (Rows.regThereSpec.post enc Try.prog Try.f6 false true false false) := by
  refine returnsInHanded_of_change (C := Try.checked) own started (by kernel_rfl) Try.func6
    (ChangeSpec.witness6 (enc := enc) (C := Try.checked) false ⟨#[], #[.agg #[.int .u64 0, .int .u64 0, .int .u64 0, .int .u64 0]], []⟩ 8 (by kernel_rfl) (by kernel_rfl) (by kernel_rfl) (by kernel_rfl)) ?_
  intro W base args ds gs before hval hW hcnd _
  refine law_of laidOut (by kernel_rfl) (by kernel_rfl) Try.underlying4 rfl ?_ hW fun p hA => ?_
  · intro ds hd
    match ds, hd with
    | [_], _ => rfl
  have hval' : ∀ (j : Nat) t v, Try.f6.params[j]? = some t → args[j]? = some v → Value.okWide Try.prog W .any base t v := hval
  rw [Try.params6] at hA hval'
  obtain ⟨v0, vs0, d0, ds0, p0, q0, hargs, rfl, rfl, h0, r0⟩ := trodAll_cons hA
  obtain ⟨rfl, rfl, rfl⟩ := trodAll_nil r0
  obtain rfl : args = #[v0] := by cases args; simp_all
  obtain ⟨y, rfl⟩ := open_cell (hval' 0 _ v0 rfl rfl) h0
  exact walk y.t y.a y.b y.c y.ht y.ha y.hb y.hc W

theorem proved : Rows.RegThereSaid :=
  OpenClaim.holds_of_wide 6 Try.f6 rfl rfl rfl rfl rfl rfl rfl ⟨rfl, rfl, rfl, rfl, rfl⟩ rfl rfl rfl rfl rfl (by kernel_rfl) Try.func6 (by kernel_rfl)
    (of_decide_eq_true (by kernel_rfl)) (by unfold Func.isWrapper; rw [if_neg (by decide +kernel)]; exact ⟨rfl, rfl⟩)
    (fun os started H enc _ => lifted os started H enc)
#print axioms proved


end Go.Proofs.Ytpepahecjkkpbaa.regThere
