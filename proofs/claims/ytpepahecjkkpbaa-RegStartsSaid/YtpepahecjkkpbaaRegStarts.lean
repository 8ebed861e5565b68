/- For every two operations: a frame that starts holds its operation, and stands still. -/
import Derived.Test.YtpepahecjkkpbaaRgLive
import Derived.Test.YtpepahecjkkpbaaLaw
import Derived.Lib.QuietBelow
import Derived.BigQuiet
namespace Go.Proofs.Ytpepahecjkkpbaa.regStarts
open Go.ChangeShapes Go.WideShapes Go.ChangeAt Go.RowKit Opn

theorem cellAt {w : World} {g : Nat} {xs : Array Value} {t : TypeId} (h : w.heap[g]? = some (.cells xs t (0, 0))) (j : Nat) {v : Value} (hv : xs[j]? = some v) : w.cell? ⟨g, j, none⟩ = some v := by
  simp only [World.cell?, h]
  exact hv

set_option maxRecDepth 100000 in
set_option maxHeartbeats 4000000 in
theorem walk (o p : O) (ho : Wf o) (hp : Wf p) (w : World) : Calls Try.prog 7 #[opv o, opv p] w (Ret (.bool true) w) := by
  have HO := Lib.hid (fun W => gStart_any o ho W)
  have HP := Lib.hid (fun W => gStart_any p hp W)
  have HA := Lib.hid (fun W => rgalive_any W)
  obtain ⟨r, hr⟩ : ∃ r : Bool, decide (o.k = p.k ∧ o.a = p.a ∧ o.b = p.b ∧ o.c = p.c) = r := ⟨_, rfl⟩
  have EF : ∀ W : World, (binOp .eql 25 (.agg #[.int .u8 (o.k : Nat), .int .u32 (o.a : Nat), .int .u32 (o.b : Nat), .int .u8 0, .int .u8 0, .int .u8 0, .int .u8 0, .int .u8 0, .int .u8 0, .int .u32 0, .int .u32 (o.c : Nat)]) (.agg #[.int .u8 (p.k : Nat), .int .u32 (p.a : Nat), .int .u32 (p.b : Nat), .int .u8 0, .int .u8 0, .int .u8 0, .int .u8 0, .int .u8 0, .int .u8 0, .int .u32 0, .int .u32 (p.c : Nat)])).run Try.prog W = .ok (.bool r) W := fun W => by
    have h := eq_frame (startF o) (startF p) r (by rw [← hr]; simp [startF]) W
    unfold frv startF at h
    exact h
  have EP := fun W => eq_op o.k o.a o.b o.c p.k p.a p.b p.c r hr W
  have EQ := fun W => eq_op o.k o.a o.b o.c o.k o.a o.b o.c true (by simp) W
  have EB : ∀ W : World, (binOp .eql 4 (.bool r) (.bool r)).run Try.prog W = .ok (.bool true) W := fun W => by
    cases r <;> kernel_rfl
  clear hr ho hp
  unfold frv startF at HO HP
  unfold opv at HO HP ⊢
  simp only [Int.ofNat_zero] at HO HP
  go_enter Try.func7, Try.ntmps7
  go_wp2_with fail
  refine (HO.out _).mono ?_
  rintro e w1 ⟨rfl, hb1⟩
  go_wp2_with fail
  obtain ⟨W, hW⟩ : ∃ W, W = (w1.alloc (.cells #[.int .u8 (o.k : Nat), .int .u32 (o.a : Nat), .int .u32 (o.b : Nat), .int .u8 0, .int .u8 0, .int .u8 0, .int .u8 0, .int .u8 0, .int .u8 0, .int .u32 0, .int .u32 (o.c : Nat)] 25)).alloc (.cells #[.int .u8 (o.k : Nat), .int .u32 (o.a : Nat), .int .u32 (o.b : Nat), .int .u32 (o.c : Nat)] 36) := ⟨_, rfl⟩
  have hbW := below_then hb1 (below_two w1 (.cells #[.int .u8 (o.k : Nat), .int .u32 (o.a : Nat), .int .u32 (o.b : Nat), .int .u8 0, .int .u8 0, .int .u8 0, .int .u8 0, .int .u8 0, .int .u8 0, .int .u32 0, .int .u32 (o.c : Nat)] 25) (.cells #[.int .u8 (o.k : Nat), .int .u32 (o.a : Nat), .int .u32 (o.b : Nat), .int .u32 (o.c : Nat)] 36))
  rw [← hW] at hbW
  have hfc : W.heap[w1.heap.size]? = some (.cells #[.int .u8 (o.k : Nat), .int .u32 (o.a : Nat), .int .u32 (o.b : Nat), .int .u8 0, .int .u8 0, .int .u8 0, .int .u8 0, .int .u8 0, .int .u8 0, .int .u32 0, .int .u32 (o.c : Nat)] 25 (0, 0)) := by
    rw [hW]
    exact (heap_alloc_old (w1.alloc _) _ (by simp)).trans (heap_alloc_new w1 _)
  have hmc : W.heap[w1.heap.size + 1]? = some (.cells #[.int .u8 (o.k : Nat), .int .u32 (o.a : Nat), .int .u32 (o.b : Nat), .int .u32 (o.c : Nat)] 36 (0, 0)) := by
    have h := heap_alloc_new (w1.alloc (.cells #[.int .u8 (o.k : Nat), .int .u32 (o.a : Nat), .int .u32 (o.b : Nat), .int .u8 0, .int .u8 0, .int .u8 0, .int .u8 0, .int .u8 0, .int .u8 0, .int .u32 0, .int .u32 (o.c : Nat)] 25)) (.cells #[.int .u8 (o.k : Nat), .int .u32 (o.a : Nat), .int .u32 (o.b : Nat), .int .u32 (o.c : Nat)] 36)
    rw [← hW] at h
    simpa using h
  have hoc : W.heap[w.heap.size]? = some (.cells #[.int .u8 (o.k : Nat), .int .u32 (o.a : Nat), .int .u32 (o.b : Nat), .int .u32 (o.c : Nat)] 36 (0, 0)) := by
    have h := (hb1.block w.heap.size (by simp; omega)).trans ((heap_alloc_old (w.alloc _) _ (by simp)).trans (heap_alloc_new w _))
    have hl := (Array.getElem?_eq_some_iff.1 h).1
    rw [hW]
    exact (heap_alloc_old (w1.alloc _) _ (by simp; omega)).trans ((heap_alloc_old w1 _ hl).trans h)
  have hpc : W.heap[w.heap.size + 1]? = some (.cells #[.int .u8 (p.k : Nat), .int .u32 (p.a : Nat), .int .u32 (p.b : Nat), .int .u32 (p.c : Nat)] 36 (0, 0)) := by
    have h0 := heap_alloc_new (w.alloc (.cells #[.int .u8 (o.k : Nat), .int .u32 (o.a : Nat), .int .u32 (o.b : Nat), .int .u32 (o.c : Nat)] 36)) (.cells #[.int .u8 (p.k : Nat), .int .u32 (p.a : Nat), .int .u32 (p.b : Nat), .int .u32 (p.c : Nat)] 36)
    rw [show (w.alloc (.cells #[.int .u8 (o.k : Nat), .int .u32 (o.a : Nat), .int .u32 (o.b : Nat), .int .u32 (o.c : Nat)] 36)).heap.size = w.heap.size + 1 from by simp] at h0
    have h := (hb1.block (w.heap.size + 1) (by simp)).trans h0
    have hl := (Array.getElem?_eq_some_iff.1 h).1
    rw [hW]
    exact (heap_alloc_old (w1.alloc _) _ (by simp; omega)).trans ((heap_alloc_old w1 _ hl).trans h)
  rw [← hW]
  obtain ⟨q, hq⟩ : ∃ q, w1.heap.size = q := ⟨_, rfl⟩
  rw [hq] at hfc hmc ⊢
  clear hW hb1 hq
  have fb0 := cell_regrown (cellAt hfc 0 (v := .int .u8 (o.k : Nat)) rfl)
  have fb1 := cell_regrown (cellAt hfc 1 (v := .int .u32 (o.a : Nat)) rfl)
  have fb2 := cell_regrown (cellAt hfc 2 (v := .int .u32 (o.b : Nat)) rfl)
  have fb3 := cell_regrown (cellAt hfc 3 (v := .int .u8 0) rfl)
  have fb4 := cell_regrown (cellAt hfc 4 (v := .int .u8 0) rfl)
  have fb5 := cell_regrown (cellAt hfc 5 (v := .int .u8 0) rfl)
  have fb6 := cell_regrown (cellAt hfc 6 (v := .int .u8 0) rfl)
  have fb7 := cell_regrown (cellAt hfc 7 (v := .int .u8 0) rfl)
  have fb8 := cell_regrown (cellAt hfc 8 (v := .int .u8 0) rfl)
  have fb9 := cell_regrown (cellAt hfc 9 (v := .int .u32 0) rfl)
  have fb10 := cell_regrown (cellAt hfc 10 (v := .int .u32 (o.c : Nat)) rfl)
  have mb0 := cell_regrown (cellAt hmc 0 (v := .int .u8 (o.k : Nat)) rfl)
  have mb1 := cell_regrown (cellAt hmc 1 (v := .int .u32 (o.a : Nat)) rfl)
  have mb2 := cell_regrown (cellAt hmc 2 (v := .int .u32 (o.b : Nat)) rfl)
  have mb3 := cell_regrown (cellAt hmc 3 (v := .int .u32 (o.c : Nat)) rfl)
  have ob0 := cell_regrown (cellAt hoc 0 (v := .int .u8 (o.k : Nat)) rfl)
  have ob1 := cell_regrown (cellAt hoc 1 (v := .int .u32 (o.a : Nat)) rfl)
  have ob2 := cell_regrown (cellAt hoc 2 (v := .int .u32 (o.b : Nat)) rfl)
  have ob3 := cell_regrown (cellAt hoc 3 (v := .int .u32 (o.c : Nat)) rfl)
  have pb0 := cell_regrown (cellAt hpc 0 (v := .int .u8 (p.k : Nat)) rfl)
  have pb1 := cell_regrown (cellAt hpc 1 (v := .int .u32 (p.a : Nat)) rfl)
  have pb2 := cell_regrown (cellAt hpc 2 (v := .int .u32 (p.b : Nat)) rfl)
  have pb3 := cell_regrown (cellAt hpc 3 (v := .int .u32 (p.c : Nat)) rfl)
  clear hfc hmc hoc hpc
  refine wp_region_quiet_below (by kernel_rfl) (by kernel_rfl) ?_
  repeat (go_big_quiet_step (first | exact Calls.regrown_of (HA.out _) | exact Calls.regrown_of (HP.out _)))
  refine wpQuiet_nil ?_
  intro W3 hw'
  obtain ⟨⟨dq, osq⟩, hw''⟩ := hw'
  have hb3 := below_regrown W dq osq
  rw [← hw''] at hb3
  clear hw''
  go_wp2
  go_ret
  exact Ret.mk rfl (below_then (below_then (below_two _ _ _) hbW) hb3)

set_option maxRecDepth 100000 in
theorem lifted (os : Os) (started : os.Started) (H : Type) (enc : TypeId × Value → H) :
    ReturnsInHanded {} Try.checked os 7 .any (Rows.regStartsSpec.pre6 enc Try.prog Try.f7 Rows.regStartsRow.domain false) (Rows.regStartsSpec.post enc Try.prog Try.f7 false true false false) := by
  refine returnsInHanded_of_change (C := Try.checked) own started (by kernel_rfl) Try.func7
    (ChangeSpec.witness6 (enc := enc) (C := Try.checked) false ⟨#[], #[.agg #[.int .u8 0, .int .u32 0, .int .u32 0, .int .u32 0], .agg #[.int .u8 0, .int .u32 0, .int .u32 0, .int .u32 0]], []⟩ 8 (by kernel_rfl) (by kernel_rfl) (by kernel_rfl) (by kernel_rfl)) ?_
  intro W base args ds gs before hval hW hcnd _
  refine law_of laidOut (by kernel_rfl) (by kernel_rfl) Try.underlying4 rfl ?_ hW fun p hA => ?_
  · intro ds hd
    match ds, hd with
    | [_, _], _ => rfl
  have hval' : ∀ (j : Nat) t v, Try.f7.params[j]? = some t → args[j]? = some v → Value.okWide Try.prog W .any base t v := hval
  rw [Try.params7] at hA hval'
  obtain ⟨v0, vs0, d0, ds0, p0, q0, hargs, rfl, rfl, h0, r0⟩ := trodAll_cons hA
  obtain ⟨v1, vs1, d1, ds1, p1, q1, rfl, rfl, rfl, h1, r1⟩ := trodAll_cons r0
  obtain ⟨rfl, rfl, rfl⟩ := trodAll_nil r1
  obtain rfl : args = #[v0, v1] := by cases args; simp_all
  obtain ⟨o, ho, rfl⟩ := open_op (hval' 0 _ v0 rfl rfl) h0
  obtain ⟨p', hp', rfl⟩ := open_op (hval' 1 _ v1 rfl rfl) h1
  exact walk o p' ho hp' W

theorem proved : Rows.RegStartsSaid :=
  OpenClaim.holds_of_wide 7 Try.f7 rfl rfl rfl rfl rfl rfl rfl ⟨rfl, rfl, rfl, rfl, rfl⟩ rfl rfl rfl rfl rfl (by kernel_rfl) Try.func7 (by kernel_rfl)
    (of_decide_eq_true (by kernel_rfl)) (by unfold Func.isWrapper; rw [if_neg (by decide +kernel)]; exact ⟨rfl, rfl⟩)
    (fun os started H enc _ => lifted os started H enc)
#print axioms proved


end Go.Proofs.Ytpepahecjkkpbaa.regStarts
