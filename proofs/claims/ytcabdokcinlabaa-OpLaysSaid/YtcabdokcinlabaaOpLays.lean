/- For any number, operation and cell: the cell by which an operation is announced, and what a cell announces, are the document's. -/
import Derived.Test.YtcabdokcinlabaaOpRefLaid
import Derived.Test.YtcabdokcinlabaaOpenOp
import Derived.Test.YtcabdokcinlabaaOpenCell
import Derived.Test.YtcabdokcinlabaaOpEq
namespace Go.Proofs.Ytcabdokcinlabaa.opLays
open Go.ChangeShapes Go.WideShapes Go.ChangeAt Go.RowKit Pt Opn

theorem below_b1' {w w1 : World} {o : Obj} (h1 : Below (w.alloc o).heap.size (w.alloc o) w1) : Below w.heap.size w w1 := below_then (below_one _ _) h1

set_option maxHeartbeats 4000000 in
theorem walk (n : Nat) (o : O) (ho : Wf o) (l : W4) (w : World) :
    Calls Try.prog 3 #[.int .u64 n, opv o, .agg #[.int .u64 (l.t : Nat), .int .u64 (l.a : Nat), .int .u64 (l.b : Nat), .int .u64 (l.c : Nat)]] w (Ret (.bool true) w) := by
  obtain ⟨t, x, y, z, h1, h2, h3, h4⟩ := l
  simp only
  have H1 := Lib.hid (laid_any n o ho)
  have H2 := Lib.hid (rLaid_any n o ho)
  have H3 := Lib.hid (of_any t x y z h2 h3 h4)
  have H4 := Lib.hid (rOf_any t x y z h2 h3 h4)
  clear ho h1 h2 h3 h4
  unfold cev at *
  unfold opv at *
  generalize ofO x y z = p at *
  generalize laidA o = u at *
  obtain ⟨k, a, b, c⟩ := o
  obtain ⟨k', a', b', c'⟩ := p
  simp only at *
  go_enter Try.func3, Try.ntmps3
  go_wp2_with fail
  refine (H1.out _).mono ?_
  rintro e w1 ⟨rfl, hb1⟩
  obtain ⟨hc1, hf1⟩ := bcell hb1
  have hs : w.heap.size + 1 < w1.heap.size := by have := hb1.size; simp at this; omega
  have hs0 : w.heap.size < w1.heap.size := by omega
  have hb0 := below_then (below_two _ _ _) hb1
  go_wp2_with fail
  refine (H2.out _).mono ?_
  rintro e w2 ⟨rfl, hb2⟩
  have hs2 : w1.heap.size < w2.heap.size := by have := hb2.size; simp at this; omega
  have hs3 : w.heap.size + 1 < w2.heap.size := by omega
  replace hb0 := below_then hb0 (below_b1' hb2)
  have l0 : w2.cell? ⟨w.heap.size + 1, 0, none⟩ = some (.int .u64 t) := (hb2.cell (by simp; omega)).trans (by simp [go_sem, hc1, hs])
  have l1 : w2.cell? ⟨w.heap.size + 1, 1, none⟩ = some (.int .u64 x) := (hb2.cell (by simp; omega)).trans (by simp [go_sem, hc1, hs])
  have l2 : w2.cell? ⟨w.heap.size + 1, 2, none⟩ = some (.int .u64 y) := (hb2.cell (by simp; omega)).trans (by simp [go_sem, hc1, hs])
  have l3 : w2.cell? ⟨w.heap.size + 1, 3, none⟩ = some (.int .u64 z) := (hb2.cell (by simp; omega)).trans (by simp [go_sem, hc1, hs])
  have p0 : w2.cell? ⟨w1.heap.size, 0, none⟩ = some (.int .u64 n) := (hb2.cell (by simp)).trans (by simp [go_sem])
  have p1 : w2.cell? ⟨w1.heap.size, 1, none⟩ = some (.int .u64 u) := (hb2.cell (by simp)).trans (by simp [go_sem])
  have p2 : w2.cell? ⟨w1.heap.size, 2, none⟩ = some (.int .u64 b) := (hb2.cell (by simp)).trans (by simp [go_sem])
  have p3 : w2.cell? ⟨w1.heap.size, 3, none⟩ = some (.int .u64 c) := (hb2.cell (by simp)).trans (by simp [go_sem])
  clear hc1 hf1 hb1
  go_wp2_with fail
  refine (H3.out _).mono ?_
  rintro e w3 ⟨rfl, hb3⟩
  have hs4 : w2.heap.size < w3.heap.size := by have := hb3.size; simp at this; omega
  have hs5 : w1.heap.size < w3.heap.size := by omega
  have hs6 : w.heap.size + 1 < w3.heap.size := by omega
  replace hb0 := below_then hb0 (below_b1' hb3)
  have m0 : w3.cell? ⟨w.heap.size + 1, 0, none⟩ = some (.int .u64 t) := (hb3.cell (by simp; omega)).trans (by simp [go_sem, l0, hs3])
  have m1 : w3.cell? ⟨w.heap.size + 1, 1, none⟩ = some (.int .u64 x) := (hb3.cell (by simp; omega)).trans (by simp [go_sem, l1, hs3])
  have m2 : w3.cell? ⟨w.heap.size + 1, 2, none⟩ = some (.int .u64 y) := (hb3.cell (by simp; omega)).trans (by simp [go_sem, l2, hs3])
  have m3 : w3.cell? ⟨w.heap.size + 1, 3, none⟩ = some (.int .u64 z) := (hb3.cell (by simp; omega)).trans (by simp [go_sem, l3, hs3])
  have q0 : w3.cell? ⟨w1.heap.size, 0, none⟩ = some (.int .u64 n) := (hb3.cell (by simp; omega)).trans (by simp [go_sem, p0, hs2])
  have q1 : w3.cell? ⟨w1.heap.size, 1, none⟩ = some (.int .u64 u) := (hb3.cell (by simp; omega)).trans (by simp [go_sem, p1, hs2])
  have q2 : w3.cell? ⟨w1.heap.size, 2, none⟩ = some (.int .u64 b) := (hb3.cell (by simp; omega)).trans (by simp [go_sem, p2, hs2])
  have q3 : w3.cell? ⟨w1.heap.size, 3, none⟩ = some (.int .u64 c) := (hb3.cell (by simp; omega)).trans (by simp [go_sem, p3, hs2])
  have r0 : w3.cell? ⟨w2.heap.size, 0, none⟩ = some (.int .u64 n) := (hb3.cell (by simp)).trans (by simp [go_sem])
  have r1 : w3.cell? ⟨w2.heap.size, 1, none⟩ = some (.int .u64 u) := (hb3.cell (by simp)).trans (by simp [go_sem])
  have r2 : w3.cell? ⟨w2.heap.size, 2, none⟩ = some (.int .u64 b) := (hb3.cell (by simp)).trans (by simp [go_sem])
  have r3 : w3.cell? ⟨w2.heap.size, 3, none⟩ = some (.int .u64 c) := (hb3.cell (by simp)).trans (by simp [go_sem])
  clear l0 l1 l2 l3 p0 p1 p2 p3 hb3
  go_wp2_with fail
  refine (H4.out _).mono ?_
  rintro e w4 ⟨rfl, hb4⟩
  have hs7 : w3.heap.size < w4.heap.size := by have := hb4.size; simp at this; omega
  have hs8 : w2.heap.size < w4.heap.size := by omega
  have hs9 : w1.heap.size < w4.heap.size := by omega
  replace hb0 := below_then hb0 (below_b1' hb4)
  have l0 : w4.cell? ⟨w1.heap.size, 0, none⟩ = some (.int .u64 n) := (hb4.cell (by simp; omega)).trans (by simp [go_sem, q0, hs5])
  have l1 : w4.cell? ⟨w1.heap.size, 1, none⟩ = some (.int .u64 u) := (hb4.cell (by simp; omega)).trans (by simp [go_sem, q1, hs5])
  have l2 : w4.cell? ⟨w1.heap.size, 2, none⟩ = some (.int .u64 b) := (hb4.cell (by simp; omega)).trans (by simp [go_sem, q2, hs5])
  have l3 : w4.cell? ⟨w1.heap.size, 3, none⟩ = some (.int .u64 c) := (hb4.cell (by simp; omega)).trans (by simp [go_sem, q3, hs5])
  have p0 : w4.cell? ⟨w2.heap.size, 0, none⟩ = some (.int .u64 n) := (hb4.cell (by simp; omega)).trans (by simp [go_sem, r0, hs4])
  have p1 : w4.cell? ⟨w2.heap.size, 1, none⟩ = some (.int .u64 u) := (hb4.cell (by simp; omega)).trans (by simp [go_sem, r1, hs4])
  have p2 : w4.cell? ⟨w2.heap.size, 2, none⟩ = some (.int .u64 b) := (hb4.cell (by simp; omega)).trans (by simp [go_sem, r2, hs4])
  have p3 : w4.cell? ⟨w2.heap.size, 3, none⟩ = some (.int .u64 c) := (hb4.cell (by simp; omega)).trans (by simp [go_sem, r3, hs4])
  have s0 : w4.cell? ⟨w3.heap.size, 0, none⟩ = some (.int .u8 k') := (hb4.cell (by simp)).trans (by simp [go_sem])
  have s1 : w4.cell? ⟨w3.heap.size, 1, none⟩ = some (.int .u32 a') := (hb4.cell (by simp)).trans (by simp [go_sem])
  have s2 : w4.cell? ⟨w3.heap.size, 2, none⟩ = some (.int .u32 b') := (hb4.cell (by simp)).trans (by simp [go_sem])
  have s3 : w4.cell? ⟨w3.heap.size, 3, none⟩ = some (.int .u32 c') := (hb4.cell (by simp)).trans (by simp [go_sem])
  clear m0 m1 m2 m3 q0 q1 q2 q3 r0 r1 r2 r3 hb4
  go_wp2
  go_ret
  exact Ret.mk rfl (below_then hb0 (below_one _ _))

set_option maxRecDepth 100000 in
theorem lifted (os : Os) (started : os.Started) (H : Type) (enc : TypeId × Value → H) :
    ReturnsInHanded {} Try.checked os 3 .any (Rows.opLaysSpec.pre6 enc Try.prog Try.f3 Rows.opLaysRow.domain false) (Rows.opLaysSpec.post enc Try.prog Try.f3 false true false false) := by
  refine returnsInHanded_of_change (C := Try.checked) own started (by kernel_rfl) Try.func3
    (ChangeSpec.witness6 (enc := enc) (C := Try.checked) false ⟨#[], #[.int .u64 0, .agg #[.int .u8 0, .int .u32 0, .int .u32 0, .int .u32 0], .agg #[.int .u64 0, .int .u64 0, .int .u64 0, .int .u64 0]], []⟩ 8 (by kernel_rfl) (by kernel_rfl) (by kernel_rfl) (by kernel_rfl)) ?_
  intro W base args ds gs before hval hW hcnd _
  refine law_of laidOut (by kernel_rfl) (by kernel_rfl) Try.underlying4 rfl ?_ hW fun p hA => ?_
  · intro ds hd
    match ds, hd with
    | [_, _, _], _ => rfl
  have hval' : ∀ (j : Nat) t v, Try.f3.params[j]? = some t → args[j]? = some v → Value.okWide Try.prog W .any base t v := hval
  rw [Try.params3] at hA hval'
  obtain ⟨v0, vs0, d0, ds0, p0, q0, hargs, rfl, rfl, h0, r0⟩ := trodAll_cons hA
  obtain ⟨v1, vs1, d1, ds1, p1, q1, rfl, rfl, rfl, h1, r1⟩ := trodAll_cons r0
  obtain ⟨v2, vs2, d2, ds2, p2, q2, rfl, rfl, rfl, h2, r2⟩ := trodAll_cons r1
  obtain ⟨rfl, rfl, rfl⟩ := trodAll_nil r2
  obtain rfl : args = #[v0, v1, v2] := by cases args; simp_all
  obtain ⟨z0, rfl, _, _, w0⟩ := open_int (k := .u64) Try.underlying22 (hval' 0 _ v0 rfl rfl) h0
  obtain ⟨n, rfl, hn⟩ := u64_nat w0
  obtain ⟨o, ho, rfl⟩ := open_op (hval' 1 _ v1 rfl rfl) h1
  obtain ⟨l, rfl⟩ := open_cell (hval' 2 _ v2 rfl rfl) h2
  exact walk n o ho l W

theorem proved : Rows.OpLaysSaid :=
  OpenClaim.holds_of_wide 3 Try.f3 rfl rfl rfl rfl rfl rfl rfl ⟨rfl, rfl, rfl, rfl, rfl⟩ rfl rfl rfl rfl rfl (by kernel_rfl) Try.func3 (by kernel_rfl)
    (of_decide_eq_true (by kernel_rfl)) (by unfold Func.isWrapper; rw [if_neg (by decide +kernel)]; exact ⟨rfl, rfl⟩)
    (fun os started H enc _ => lifted os started H enc)
#print axioms proved

end Go.Proofs.Ytcabdokcinlabaa.opLays
