/- For every desc, cell and operation: laid, read and started as the document says. -/
import Derived.Test.YtpepahecjkkpbaaRgLive
import Derived.Test.YtpepahecjkkpbaaRgOpen
import Derived.Test.YtpepahecjkkpbaaOpenCell
import Derived.Test.YtpepahecjkkpbaaLaw
import Derived.Lib.QuietBelow
import Derived.BigQuiet
namespace Go.Proofs.Ytpepahecjkkpbaa.regLays
open Go.ChangeShapes Go.WideShapes Go.ChangeAt Go.RowKit Opn

theorem cellAt {w : World} {g : Nat} {xs : Array Value} {t : TypeId} (h : w.heap[g]? = some (.cells xs t (0, 0))) (j : Nat) {v : Value} (hv : xs[j]? = some v) : w.cell? ⟨g, j, none⟩ = some v := by
  simp only [World.cell?, h]
  exact hv

theorem three_at (w : World) (A B C : Obj) : (((w.alloc A).alloc B).alloc C).heap[w.heap.size + 1]? = some B ∧ (((w.alloc A).alloc B).alloc C).heap[w.heap.size + 1 + 1]? = some C := by
  have s1 : (w.alloc A).heap.size = w.heap.size + 1 := by simp
  have s2 : ((w.alloc A).alloc B).heap.size = w.heap.size + 1 + 1 := by simp
  have h1 := heap_alloc_new (w.alloc A) B
  have h2 := heap_alloc_new ((w.alloc A).alloc B) C
  rw [s1] at h1
  rw [s2] at h2
  exact ⟨(heap_alloc_old ((w.alloc A).alloc B) C (by rw [s2]; omega)).trans h1, h2⟩

set_option maxRecDepth 100000 in
set_option maxHeartbeats 4000000 in
theorem walk (d : Ds) (hd : DWf d) (t A B C : Nat) (ht : t < 18446744073709551616) (hA : A < 18446744073709551616) (hB : B < 18446744073709551616) (hC : C < 18446744073709551616) (o : O) (ho : Wf o) (w : World) :
    Calls Try.prog 4 #[dsv d, .agg #[.int .u64 t, .int .u64 A, .int .u64 B, .int .u64 C], opv o] w (Ret (.bool true) w) := by
  have HL := Lib.hid (fun W => gLaid_any d hd W)
  have RL := Lib.hid (fun W => rgLaid_any d hd W)
  have HO := Lib.hid (fun W => gOf_any t A B C ht hA hB hC W)
  have RO := Lib.hid (fun W => rgOf_any t A B C hA hB hC W)
  have HS := Lib.hid (fun W => gStart_any o ho W)
  have RS := Lib.hid (fun W => rgStart_any o W)
  obtain ⟨⟨⟨x0, x1, x2, x3⟩, e⟩, he⟩ : ∃ x, laidD d = x := ⟨_, rfl⟩
  rw [he] at HL RL
  have EX := fun W => eq_cell x0 x1 x2 x3 x0 x1 x2 x3 true (by simp) W
  have ED := fun W => eq_desc (ofC t A B C) (ofC t A B C) true (by simp) W
  have EF : ∀ W : World, (binOp .eql 25 (.agg #[.int .u8 (o.k : Nat), .int .u32 (o.a : Nat), .int .u32 (o.b : Nat), .int .u8 0, .int .u8 0, .int .u8 0, .int .u8 0, .int .u8 0, .int .u8 0, .int .u32 0, .int .u32 (o.c : Nat)]) (.agg #[.int .u8 (o.k : Nat), .int .u32 (o.a : Nat), .int .u32 (o.b : Nat), .int .u8 0, .int .u8 0, .int .u8 0, .int .u8 0, .int .u8 0, .int .u8 0, .int .u32 0, .int .u32 (o.c : Nat)])).run Try.prog W = .ok (.bool true) W := fun W => by
    have h := eq_frame (startF o) (startF o) true (by simp) W
    unfold frv startF at h
    exact h
  generalize ofC t A B C = z at *
  clear he hd ht hA hB hC ho
  unfold clv dsv at HL RL
  unfold dsv at HO RO ⊢
  unfold frv startF at HS RS
  unfold opv at HS RS ⊢
  simp only [Int.ofNat_zero] at HL RL HO RO HS RS
  go_enter Try.func4, Try.ntmps4
  go_wp2_with fail
  refine (HL.out _).mono ?_
  rintro e' w1 ⟨rfl, hb1⟩
  have hc1 := (bcell hb1).1
  have hs1 := hb1.size
  simp at hs1
  have q0 : w.heap.size < w1.heap.size := by omega
  have q1 : w.heap.size + 1 < w1.heap.size := by omega
  have q2 : w.heap.size + 1 + 1 < w1.heap.size := by omega
  go_wp2_with fail
  refine (RL.out _).mono ?_
  rintro e' w2 ⟨rfl, hb2⟩
  go_wp2_with fail
  obtain ⟨W, hW⟩ : ∃ W, W = w2.alloc (.cells #[.int .u64 (x0 : Nat), .int .u64 (x1 : Nat), .int .u64 (x2 : Nat), .int .u64 (x3 : Nat)] 29) := ⟨_, rfl⟩
  have hbW := below_then (below_then (below_then (below_then (below_three w _ _ _) hb1) (below_one w1 (.cells #[.int .u64 (x0 : Nat), .int .u64 (x1 : Nat), .int .u64 (x2 : Nat), .int .u64 (x3 : Nat)] 29))) hb2) (below_one w2 (.cells #[.int .u64 (x0 : Nat), .int .u64 (x1 : Nat), .int .u64 (x2 : Nat), .int .u64 (x3 : Nat)] 29))
  obtain ⟨g1, g2⟩ := three_at w (.cells #[.int .u64 (d.tag : Nat), .int .u8 (d.k : Nat), .int .u8 (d.seq : Nat), .int .u8 (d.kind : Nat), .int .u32 (d.a : Nat), .int .u32 (d.b : Nat), .int .u8 (d.pc : Nat), .int .u8 (d.i : Nat), .int .u8 (d.j : Nat), .int .u8 (d.n : Nat), .int .u8 (d.p : Nat), .int .u8 (d.h : Nat), .int .u32 (d.x : Nat), .int .u32 (d.y : Nat)] 27) (.cells #[.int .u64 (t : Nat), .int .u64 (A : Nat), .int .u64 (B : Nat), .int .u64 (C : Nat)] 29) (.cells #[.int .u8 (o.k : Nat), .int .u32 (o.a : Nat), .int .u32 (o.b : Nat), .int .u32 (o.c : Nat)] 36)
  replace g1 := (hb1.block (w.heap.size + 1) (by simp)).trans g1
  replace g2 := (hb1.block (w.heap.size + 1 + 1) (by simp)).trans g2
  have up : ∀ i v, w1.heap[i]? = some v → W.heap[i]? = some v := fun i v h => by
    have hl := (Array.getElem?_eq_some_iff.1 h).1
    have k1 := (heap_alloc_old w1 (.cells #[.int .u64 (x0 : Nat), .int .u64 (x1 : Nat), .int .u64 (x2 : Nat), .int .u64 (x3 : Nat)] 29) hl).trans h
    have k2 := (hb2.block i (by simp; omega)).trans k1
    rw [hW]
    exact (heap_alloc_old w2 _ (Array.getElem?_eq_some_iff.1 k2).1).trans k2
  replace g1 := up _ _ g1
  replace g2 := up _ _ g2
  have g3 : W.heap[w1.heap.size]? = some (.cells #[.int .u64 (x0 : Nat), .int .u64 (x1 : Nat), .int .u64 (x2 : Nat), .int .u64 (x3 : Nat)] 29 (0, 0)) := by
    have k1 := heap_alloc_new w1 (.cells #[.int .u64 (x0 : Nat), .int .u64 (x1 : Nat), .int .u64 (x2 : Nat), .int .u64 (x3 : Nat)] 29)
    have k2 := (hb2.block w1.heap.size (by simp)).trans k1
    rw [hW]
    exact (heap_alloc_old w2 _ (Array.getElem?_eq_some_iff.1 k2).1).trans k2
  have g4 : W.heap[w2.heap.size]? = some (.cells #[.int .u64 (x0 : Nat), .int .u64 (x1 : Nat), .int .u64 (x2 : Nat), .int .u64 (x3 : Nat)] 29 (0, 0)) := by
    rw [hW]
    exact heap_alloc_new w2 _
  rw [← hW] at hbW ⊢
  obtain ⟨p, hp⟩ : ∃ p, w1.heap.size = p := ⟨_, rfl⟩
  rw [hp] at g3 ⊢
  obtain ⟨q, hq⟩ : ∃ q, w2.heap.size = q := ⟨_, rfl⟩
  rw [hq] at g4 ⊢
  clear up hW hb1 hb2 hp hq hc1 hs1 q0 q1 q2
  have c10 := cell_regrown (cellAt g1 0 (v := .int .u64 (t : Nat)) rfl)
  have c11 := cell_regrown (cellAt g1 1 (v := .int .u64 (A : Nat)) rfl)
  have c12 := cell_regrown (cellAt g1 2 (v := .int .u64 (B : Nat)) rfl)
  have c13 := cell_regrown (cellAt g1 3 (v := .int .u64 (C : Nat)) rfl)
  have c20 := cell_regrown (cellAt g2 0 (v := .int .u8 (o.k : Nat)) rfl)
  have c21 := cell_regrown (cellAt g2 1 (v := .int .u32 (o.a : Nat)) rfl)
  have c22 := cell_regrown (cellAt g2 2 (v := .int .u32 (o.b : Nat)) rfl)
  have c23 := cell_regrown (cellAt g2 3 (v := .int .u32 (o.c : Nat)) rfl)
  have c30 := cell_regrown (cellAt g3 0 (v := .int .u64 (x0 : Nat)) rfl)
  have c31 := cell_regrown (cellAt g3 1 (v := .int .u64 (x1 : Nat)) rfl)
  have c32 := cell_regrown (cellAt g3 2 (v := .int .u64 (x2 : Nat)) rfl)
  have c33 := cell_regrown (cellAt g3 3 (v := .int .u64 (x3 : Nat)) rfl)
  have c40 := cell_regrown (cellAt g4 0 (v := .int .u64 (x0 : Nat)) rfl)
  have c41 := cell_regrown (cellAt g4 1 (v := .int .u64 (x1 : Nat)) rfl)
  have c42 := cell_regrown (cellAt g4 2 (v := .int .u64 (x2 : Nat)) rfl)
  have c43 := cell_regrown (cellAt g4 3 (v := .int .u64 (x3 : Nat)) rfl)
  clear g1 g2 g3 g4
  refine wp_region_quiet_below (by kernel_rfl) (by kernel_rfl) ?_
  repeat (go_big_quiet_step (first | exact Calls.regrown_of (HO.out _) | exact Calls.regrown_of (RO.out _) | exact Calls.regrown_of (HS.out _) | exact Calls.regrown_of (RS.out _)))
  refine wpQuiet_nil ?_
  intro W3 hw'
  obtain ⟨⟨dq, osq⟩, hw''⟩ := hw'
  have hb3 := below_regrown W dq osq
  rw [← hw''] at hb3
  clear hw''
  go_wp2
  go_ret
  exact Ret.mk rfl (below_then hbW hb3)

set_option maxRecDepth 100000 in
theorem lifted (os : Os) (started : os.Started) (H : Type) (enc : TypeId × Value → H) :
    ReturnsInHanded {} Try.checked os 4 .any (Rows.regLaysSpec.pre6 enc Try.prog Try.f4 Rows.regLaysRow.domain false) (Rows.regLaysSpec.post enc Try.prog Try.f4 false true false false) := by
  refine returnsInHanded_of_change (C := Try.checked) own started (by kernel_rfl) Try.func4
    (ChangeSpec.witness6 (enc := enc) (C := Try.checked) false ⟨#[], #[.agg #[.int .u64 0, .int .u8 0, .int .u8 0, .int .u8 0, .int .u32 0, .int .u32 0, .int .u8 0, .int .u8 0, .int .u8 0, .int .u8 0, .int .u8 0, .int .u8 0, .int .u32 0, .int .u32 0], .agg #[.int .u64 0, .int .u64 0, .int .u64 0, .int .u64 0], .agg #[.int .u8 0, .int .u32 0, .int .u32 0, .int .u32 0]], []⟩ 8 (by kernel_rfl) (by kernel_rfl) (by kernel_rfl) (by kernel_rfl)) ?_
  intro W base args ds gs before hval hW hcnd _
  refine law_of laidOut (by kernel_rfl) (by kernel_rfl) Try.underlying4 rfl ?_ hW fun p hA => ?_
  · intro ds hd
    match ds, hd with
    | [_, _, _], _ => rfl
  have hval' : ∀ (j : Nat) t v, Try.f4.params[j]? = some t → args[j]? = some v → Value.okWide Try.prog W .any base t v := hval
  rw [Try.params4] at hA hval'
  obtain ⟨v0, vs0, d0, ds0, p0, q0, hargs, rfl, rfl, h0, r0⟩ := trodAll_cons hA
  obtain ⟨v1, vs1, d1, ds1, p1, q1, rfl, rfl, rfl, h1, r1⟩ := trodAll_cons r0
  obtain ⟨v2, vs2, d2, ds2, p2, q2, rfl, rfl, rfl, h2, r2⟩ := trodAll_cons r1
  obtain ⟨rfl, rfl, rfl⟩ := trodAll_nil r2
  obtain rfl : args = #[v0, v1, v2] := by cases args; simp_all
  obtain ⟨x, hx, rfl⟩ := open_desc (hval' 0 _ v0 rfl rfl) h0
  obtain ⟨y, rfl⟩ := open_cell (hval' 1 _ v1 rfl rfl) h1
  obtain ⟨o, ho, rfl⟩ := open_op (hval' 2 _ v2 rfl rfl) h2
  exact walk x hx y.t y.a y.b y.c y.ht y.ha y.hb y.hc o ho W

theorem proved : Rows.RegLaysSaid :=
  OpenClaim.holds_of_wide 4 Try.f4 rfl rfl rfl rfl rfl rfl rfl ⟨rfl, rfl, rfl, rfl, rfl⟩ rfl rfl rfl rfl rfl (by kernel_rfl) Try.func4 (by kernel_rfl)
    (of_decide_eq_true (by kernel_rfl)) (by unfold Func.isWrapper; rw [if_neg (by decide +kernel)]; exact ⟨rfl, rfl⟩)
    (fun os started H enc _ => lifted os started H enc)
#print axioms proved


end Go.Proofs.Ytpepahecjkkpbaa.regLays
