/- For every desc: what is laid is read; what does not fit is refused. -/
import Derived.Test.YtpepahecjkkpbaaRgLive
import Derived.Test.YtpepahecjkkpbaaRgOpen
import Derived.Test.YtpepahecjkkpbaaLaw
import Derived.Lib.QuietBelow
import Derived.BigQuiet
namespace Go.Proofs.Ytpepahecjkkpbaa.regBack
open Go.ChangeShapes Go.WideShapes Go.ChangeAt Go.RowKit Opn

theorem cellAt {w : World} {g : Nat} {xs : Array Value} {t : TypeId} (h : w.heap[g]? = some (.cells xs t (0, 0))) (j : Nat) {v : Value} (hv : xs[j]? = some v) : w.cell? ⟨g, j, none⟩ = some v := by
  simp only [World.cell?, h]
  exact hv

set_option maxRecDepth 100000 in
set_option maxHeartbeats 4000000 in
theorem walk (d : Ds) (hd : DWf d) (w : World) : Calls Try.prog 5 #[dsv d] w (Ret (.bool true) w) := by
  have HL := Lib.hid (fun W => gLaid_any d hd W)
  have HA := Lib.hid (fun W => rgalive_any W)
  by_cases hf : DFits d
  · have e : laidD d = ((d.tag, dA d, dB d, dC d), 0) := by unfold laidD; rw [if_pos hf]
    rw [e] at HL
    have HO := Lib.hid (fun W => gOf_any d.tag (dA d) (dB d) (dC d) hd.1 (by have := dA_lt hf; omega) (dB_lt hd) (dC_lt hd) W)
    rw [ofC_laid hf hd] at HO
    have EQ := fun W => eq_desc d d true (by simp) W
    generalize dA d = A at *
    generalize dB d = B at *
    generalize dC d = C at *
    clear hf hd e
    unfold clv dsv at HL
    unfold dsv at HO ⊢
    simp only at HL
    go_enter Try.func5, Try.ntmps5
    go_wp2_with fail
    refine (HL.out _).mono ?_
    rintro e w1 ⟨rfl, hb1⟩
    go_wp2_with fail
    obtain ⟨W, hW⟩ : ∃ W, W = w1.alloc (.cells #[.int .u64 d.tag, .int .u64 A, .int .u64 B, .int .u64 C] 29) := ⟨_, rfl⟩
    have hbW := below_then (below_b1 hb1) (below_one w1 (.cells #[.int .u64 d.tag, .int .u64 A, .int .u64 B, .int .u64 C] 29))
    have hcl : W.heap[w1.heap.size]? = some (.cells #[.int .u64 d.tag, .int .u64 A, .int .u64 B, .int .u64 C] 29 (0, 0)) := by rw [hW]; exact heap_alloc_new w1 _
    have hds : W.heap[w.heap.size]? = some (.cells #[.int .u64 (d.tag : Nat), .int .u8 (d.k : Nat), .int .u8 (d.seq : Nat), .int .u8 (d.kind : Nat), .int .u32 (d.a : Nat), .int .u32 (d.b : Nat), .int .u8 (d.pc : Nat), .int .u8 (d.i : Nat), .int .u8 (d.j : Nat), .int .u8 (d.n : Nat), .int .u8 (d.p : Nat), .int .u8 (d.h : Nat), .int .u32 (d.x : Nat), .int .u32 (d.y : Nat)] 27 (0, 0)) := by
      have h1 := (hb1.block w.heap.size (by simp)).trans (heap_alloc_new w _)
      rw [hW]
      exact (heap_alloc_old w1 _ (Array.getElem?_eq_some_iff.1 h1).1).trans h1
    rw [← hW] at hbW ⊢
    obtain ⟨q, hq⟩ : ∃ q, w1.heap.size = q := ⟨_, rfl⟩
    rw [hq] at hcl ⊢
    clear hW hb1 hq
    have c0 := cell_regrown (cellAt hcl 0 (v := .int .u64 (d.tag : Nat)) rfl)
    have c1 := cell_regrown (cellAt hcl 1 (v := .int .u64 (A : Nat)) rfl)
    have c2 := cell_regrown (cellAt hcl 2 (v := .int .u64 (B : Nat)) rfl)
    have c3 := cell_regrown (cellAt hcl 3 (v := .int .u64 (C : Nat)) rfl)
    have k0 := cell_regrown (cellAt hds 0 (v := .int .u64 (d.tag : Nat)) rfl)
    have k1 := cell_regrown (cellAt hds 1 (v := .int .u8 (d.k : Nat)) rfl)
    have k2 := cell_regrown (cellAt hds 2 (v := .int .u8 (d.seq : Nat)) rfl)
    have k3 := cell_regrown (cellAt hds 3 (v := .int .u8 (d.kind : Nat)) rfl)
    have k4 := cell_regrown (cellAt hds 4 (v := .int .u32 (d.a : Nat)) rfl)
    have k5 := cell_regrown (cellAt hds 5 (v := .int .u32 (d.b : Nat)) rfl)
    have k6 := cell_regrown (cellAt hds 6 (v := .int .u8 (d.pc : Nat)) rfl)
    have k7 := cell_regrown (cellAt hds 7 (v := .int .u8 (d.i : Nat)) rfl)
    have k8 := cell_regrown (cellAt hds 8 (v := .int .u8 (d.j : Nat)) rfl)
    have k9 := cell_regrown (cellAt hds 9 (v := .int .u8 (d.n : Nat)) rfl)
    have k10 := cell_regrown (cellAt hds 10 (v := .int .u8 (d.p : Nat)) rfl)
    have k11 := cell_regrown (cellAt hds 11 (v := .int .u8 (d.h : Nat)) rfl)
    have k12 := cell_regrown (cellAt hds 12 (v := .int .u32 (d.x : Nat)) rfl)
    have k13 := cell_regrown (cellAt hds 13 (v := .int .u32 (d.y : Nat)) rfl)
    clear hcl hds
    refine wp_region_quiet_below (by kernel_rfl) (by kernel_rfl) ?_
    repeat (go_big_quiet_step (first | exact Calls.regrown_of (HA.out _) | exact Calls.regrown_of (HO.out _)))
    refine wpQuiet_nil ?_
    intro W3 hw'
    obtain ⟨⟨dq, osq⟩, hw''⟩ := hw'
    have hb3 := below_regrown W dq osq
    rw [← hw''] at hb3
    clear hw''
    go_wp2
    go_ret
    exact Ret.mk rfl (below_then hbW hb3)
  · have e : laidD d = ((0, 0, 0, 0), 10) := by unfold laidD; rw [if_neg hf]
    rw [e] at HL
    have EQ := fun W => eq_cell 0 0 0 0 0 0 0 0 true (by simp) W
    clear hf hd e
    unfold clv dsv at HL
    unfold dsv
    simp only at HL
    go_enter Try.func5, Try.ntmps5
    go_wp2_with fail
    refine (HL.out _).mono ?_
    rintro e w1 ⟨rfl, hb1⟩
    go_wp2_with fail
    refine (HA.out _).mono ?_
    rintro e w2 ⟨rfl, hb2⟩
    have hc2 := (bcell hb2).1
    have hs2 := hb2.size
    simp at hs2
    have q1 : w1.heap.size < w2.heap.size := by omega
    go_wp2
    go_ret
    exact Ret.mk rfl (below_then (below_then (below_b1 hb1) (below_one _ _)) hb2)

set_option maxRecDepth 100000 in
theorem lifted (os : Os) (started : os.Started) (H : Type) (enc : TypeId × Value → H) :
    ReturnsInHanded {} Try.checked os 5 .any (Rows.regBackSpec.pre6 enc Try.prog Try.f5 Rows.regBackRow.domain false) (Rows.regBackSpec.post enc Try.prog Try.f5 false true false false) := by
  refine returnsInHanded_of_change (C := Try.checked) own started (by kernel_rfl) Try.func5
    (ChangeSpec.witness6 (enc := enc) (C := Try.checked) false ⟨#[], #[.agg #[.int .u64 0, .int .u8 0, .int .u8 0, .int .u8 0, .int .u32 0, .int .u32 0, .int .u8 0, .int .u8 0, .int .u8 0, .int .u8 0, .int .u8 0, .int .u8 0, .int .u32 0, .int .u32 0]], []⟩ 8 (by kernel_rfl) (by kernel_rfl) (by kernel_rfl) (by kernel_rfl)) ?_
  intro W base args ds gs before hval hW hcnd _
  refine law_of laidOut (by kernel_rfl) (by kernel_rfl) Try.underlying4 rfl ?_ hW fun p hA => ?_
  · intro ds hd
    match ds, hd with
    | [_], _ => rfl
  have hval' : ∀ (j : Nat) t v, Try.f5.params[j]? = some t → args[j]? = some v → Value.okWide Try.prog W .any base t v := hval
  rw [Try.params5] at hA hval'
  obtain ⟨v0, vs0, d0, ds0, p0, q0, hargs, rfl, rfl, h0, r0⟩ := trodAll_cons hA
  obtain ⟨rfl, rfl, rfl⟩ := trodAll_nil r0
  obtain rfl : args = #[v0] := by cases args; simp_all
  obtain ⟨x, hx, rfl⟩ := open_desc (hval' 0 _ v0 rfl rfl) h0
  exact walk x hx W

theorem proved : Rows.RegBackSaid :=
  OpenClaim.holds_of_wide 5 Try.f5 rfl rfl rfl rfl rfl rfl rfl ⟨rfl, rfl, rfl, rfl, rfl⟩ rfl rfl rfl rfl rfl (by kernel_rfl) Try.func5 (by kernel_rfl)
    (of_decide_eq_true (by kernel_rfl)) (by unfold Func.isWrapper; rw [if_neg (by decide +kernel)]; exact ⟨rfl, rfl⟩)
    (fun os started H enc _ => lifted os started H enc)
#print axioms proved


end Go.Proofs.Ytpepahecjkkpbaa.regBack
