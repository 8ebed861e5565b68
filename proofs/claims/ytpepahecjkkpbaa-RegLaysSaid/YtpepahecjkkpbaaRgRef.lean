/- The document's own descs: with which frame a program starts, whether a desc fits, its cell, and back. -/
import Derived.Test.YtpepahecjkkpbaaRgVal
namespace Go.Proofs.Ytpepahecjkkpbaa
open Go.RowKit Opn

set_option maxRecDepth 100000 in
set_option maxHeartbeats 4000000 in
theorem rgStart_any (o : O) (w : World) : Calls Try.prog 14 #[opv o] w (Ret (frv (startF o)) w) := by
  unfold opv
  go_enter Try.func14, Try.ntmps14
  go_wp2
  refine bodyPost_ret (v := .agg #[.int .u8 (o.k : Nat), .int .u32 (o.a : Nat), .int .u32 (o.b : Nat), .int .u8 0, .int .u8 0, .int .u8 0, .int .u8 0, .int .u8 0, .int .u8 0, .int .u32 0, .int .u32 (o.c : Nat)]) ?_ rfl ⟨rfl, below_two _ _ _⟩
  simp [results, Try.results14, go_sem]

set_option maxRecDepth 100000 in
set_option maxHeartbeats 4000000 in
theorem rgFits_any (d : Ds) (w : World) : Calls Try.prog 19 #[dsv d] w (Ret (.bool (decide (DFits d))) w) := by
  obtain ⟨r, hr⟩ : ∃ r, decide (DFits d) = r := ⟨_, rfl⟩
  rw [hr]
  replace hr : r = true ↔ DFits d := by rw [← hr]; exact decide_eq_true_iff
  unfold DFits at hr
  have HR := Lib.hid hr
  clear hr
  unfold dsv
  obtain ⟨t, k, seq, kind, a, b, pc, i, j, n, p, h, x, y⟩ := d
  simp only at HR ⊢
  go_enter Try.func19, Try.ntmps19
  go_wp2
  all_goals go_ret
  all_goals
    have hr := HR.out
    refine Ret.mk (bool_eq ?_) (below_two _ _ _)
    rw [Bool.eq_iff_iff, hr]
    clear HR hr
    simp
    try omega

set_option maxRecDepth 100000 in
set_option maxHeartbeats 4000000 in
theorem rgCell_any (d : Ds) (hf : DFits d) (hw : DWf d) (w : World) : Calls Try.prog 20 #[dsv d] w (Ret (.agg #[.int .u64 d.tag, .int .u64 (dA d : Nat), .int .u64 (dB d : Nat), .int .u64 (dC d : Nat)]) w) := by
  obtain ⟨t, k, seq, kind, a, b, pc, i, j, n, p, h, x, y⟩ := d
  unfold DFits at hf
  unfold DWf at hw
  unfold dA dB dC dsv
  simp only at hf hw ⊢
  have c_h : IntKind.u64.wrap (h : Int) = (h : Int) := by rw [IntKind.wrap_u64]; omega
  have c_p : IntKind.u64.wrap (p : Int) = (p : Int) := by rw [IntKind.wrap_u64]; omega
  have c_n : IntKind.u64.wrap (n : Int) = (n : Int) := by rw [IntKind.wrap_u64]; omega
  have c_j : IntKind.u64.wrap (j : Int) = (j : Int) := by rw [IntKind.wrap_u64]; omega
  have c_i : IntKind.u64.wrap (i : Int) = (i : Int) := by rw [IntKind.wrap_u64]; omega
  have c_pc : IntKind.u64.wrap (pc : Int) = (pc : Int) := by rw [IntKind.wrap_u64]; omega
  have c_kind : IntKind.u64.wrap (kind : Int) = (kind : Int) := by rw [IntKind.wrap_u64]; omega
  have c_seq : IntKind.u64.wrap (seq : Int) = (seq : Int) := by rw [IntKind.wrap_u64]; omega
  have c_k : IntKind.u64.wrap (k : Int) = (k : Int) := by rw [IntKind.wrap_u64]; omega
  have c_a : IntKind.u64.wrap (a : Int) = (a : Int) := by rw [IntKind.wrap_u64]; omega
  have c_b : IntKind.u64.wrap (b : Int) = (b : Int) := by rw [IntKind.wrap_u64]; omega
  have c_x : IntKind.u64.wrap (x : Int) = (x : Int) := by rw [IntKind.wrap_u64]; omega
  have c_y : IntKind.u64.wrap (y : Int) = (y : Int) := by rw [IntKind.wrap_u64]; omega
  obtain ⟨w0, hw0⟩ : ∃ z, h * 64 + p = z := ⟨_, rfl⟩
  have e0a : IntKind.u64.wrap ((h : Int) * 64) = (h : Int) * 64 := by rw [IntKind.wrap_u64]; omega
  have e0b : IntKind.u64.wrap ((h : Int) * 64 + (p : Int)) = (w0 : Int) := by rw [IntKind.wrap_u64]; omega
  rw [hw0]
  obtain ⟨w1, hw1⟩ : ∃ z, w0 * 64 + n = z := ⟨_, rfl⟩
  have e1a : IntKind.u64.wrap ((w0 : Int) * 64) = (w0 : Int) * 64 := by rw [IntKind.wrap_u64]; omega
  have e1b : IntKind.u64.wrap ((w0 : Int) * 64 + (n : Int)) = (w1 : Int) := by rw [IntKind.wrap_u64]; omega
  rw [hw1]
  obtain ⟨w2, hw2⟩ : ∃ z, w1 * 128 + j = z := ⟨_, rfl⟩
  have e2a : IntKind.u64.wrap ((w1 : Int) * 128) = (w1 : Int) * 128 := by rw [IntKind.wrap_u64]; omega
  have e2b : IntKind.u64.wrap ((w1 : Int) * 128 + (j : Int)) = (w2 : Int) := by rw [IntKind.wrap_u64]; omega
  rw [hw2]
  obtain ⟨w3, hw3⟩ : ∃ z, w2 * 128 + i = z := ⟨_, rfl⟩
  have e3a : IntKind.u64.wrap ((w2 : Int) * 128) = (w2 : Int) * 128 := by rw [IntKind.wrap_u64]; omega
  have e3b : IntKind.u64.wrap ((w2 : Int) * 128 + (i : Int)) = (w3 : Int) := by rw [IntKind.wrap_u64]; omega
  rw [hw3]
  obtain ⟨w4, hw4⟩ : ∃ z, w3 * 32 + pc = z := ⟨_, rfl⟩
  have e4a : IntKind.u64.wrap ((w3 : Int) * 32) = (w3 : Int) * 32 := by rw [IntKind.wrap_u64]; omega
  have e4b : IntKind.u64.wrap ((w3 : Int) * 32 + (pc : Int)) = (w4 : Int) := by rw [IntKind.wrap_u64]; omega
  rw [hw4]
  obtain ⟨w5, hw5⟩ : ∃ z, w4 * 16 + kind = z := ⟨_, rfl⟩
  have e5a : IntKind.u64.wrap ((w4 : Int) * 16) = (w4 : Int) * 16 := by rw [IntKind.wrap_u64]; omega
  have e5b : IntKind.u64.wrap ((w4 : Int) * 16 + (kind : Int)) = (w5 : Int) := by rw [IntKind.wrap_u64]; omega
  rw [hw5]
  obtain ⟨w6, hw6⟩ : ∃ z, w5 * 128 + seq = z := ⟨_, rfl⟩
  have e6a : IntKind.u64.wrap ((w5 : Int) * 128) = (w5 : Int) * 128 := by rw [IntKind.wrap_u64]; omega
  have e6b : IntKind.u64.wrap ((w5 : Int) * 128 + (seq : Int)) = (w6 : Int) := by rw [IntKind.wrap_u64]; omega
  rw [hw6]
  obtain ⟨w7, hw7⟩ : ∃ z, w6 * 32 + k = z := ⟨_, rfl⟩
  have e7a : IntKind.u64.wrap ((w6 : Int) * 32) = (w6 : Int) * 32 := by rw [IntKind.wrap_u64]; omega
  have e7b : IntKind.u64.wrap ((w6 : Int) * 32 + (k : Int)) = (w7 : Int) := by rw [IntKind.wrap_u64]; omega
  rw [hw7]
  obtain ⟨zb, hzb⟩ : ∃ z, a + 4294967296 * b = z := ⟨_, rfl⟩
  rw [hzb]
  have fzb1 : IntKind.u64.wrap (4294967296 * (b : Int)) = 4294967296 * (b : Int) := by rw [IntKind.wrap_u64]; omega
  have fzb2 : IntKind.u64.wrap ((a : Int) + 4294967296 * (b : Int)) = (zb : Int) := by rw [IntKind.wrap_u64]; omega
  obtain ⟨zc, hzc⟩ : ∃ z, x + 4294967296 * y = z := ⟨_, rfl⟩
  rw [hzc]
  have fzc1 : IntKind.u64.wrap (4294967296 * (y : Int)) = 4294967296 * (y : Int) := by rw [IntKind.wrap_u64]; omega
  have fzc2 : IntKind.u64.wrap ((x : Int) + 4294967296 * (y : Int)) = (zc : Int) := by rw [IntKind.wrap_u64]; omega
  clear hf hw hw0 hw1 hw2 hw3 hw4 hw5 hw6 hw7 hzb hzc
  go_enter Try.func20, Try.ntmps20
  go_wp2
  refine bodyPost_ret (v := .agg #[.int .u64 (t : Int), .int .u64 (w7 : Int), .int .u64 (zb : Int), .int .u64 (zc : Int)]) ?_ rfl ⟨rfl, ?_⟩
  · simp [results, Try.results20, go_sem]
  · exact below_three _ _ _ _

set_option maxRecDepth 100000 in
set_option maxHeartbeats 4000000 in
theorem rgLaid_any (d : Ds) (hw : DWf d) (w : World) : Calls Try.prog 11 #[dsv d] w (Ret (.tuple #[clv (laidD d).1, .int .i64 (laidD d).2]) w) := by
  have HF := Lib.hid (rgFits_any d)
  by_cases hf : DFits d
  · have HC := Lib.hid (rgCell_any d hf hw)
    rw [decide_eq_true hf] at HF
    have e : laidD d = ((d.tag, dA d, dB d, dC d), 0) := by unfold laidD; rw [if_pos hf]
    rw [e]
    unfold clv
    simp only
    generalize dA d = A at *
    generalize dB d = B at *
    generalize dC d = C at *
    clear hf hw e
    unfold dsv at *
    go_enter Try.func11, Try.ntmps11
    go_wp2_with (first
      | (go_at_call 19; refine (HF.out _).mono ?_; rintro e w1 ⟨rfl, hb1⟩; obtain ⟨hc1, hf1⟩ := bcell hb1)
      | (go_at_call 20; refine (HC.out _).mono ?_; rintro e w2 ⟨rfl, hb2⟩; replace hb1 := below_then hb1 hb2; clear hc1 hf1 hb2; obtain ⟨hc1, hf1⟩ := bcell hb1))
    refine bodyPost_ret (v := .tuple #[.agg #[.int .u64 (d.tag : Int), .int .u64 (A : Int), .int .u64 (B : Int), .int .u64 (C : Int)], .int .i64 0]) ?_ rfl ⟨rfl, ?_⟩
    · simp [results, Try.results11, go_sem, hc1]
    · exact (((below_then (below_two _ _ _) hb1).setCell (by simp <;> omega) _).setCell (by simp <;> omega) _).setCell (by simp <;> omega) _ |>.setCell (by simp <;> omega) _
  · rw [decide_eq_false hf] at HF
    have e : laidD d = ((0, 0, 0, 0), 10) := by unfold laidD; rw [if_neg hf]
    rw [e]
    unfold clv
    simp only
    clear hf hw e
    unfold dsv at *
    go_enter Try.func11, Try.ntmps11
    go_wp2_with (go_at_call 19; refine (HF.out _).mono ?_; rintro e w1 ⟨rfl, hb1⟩; obtain ⟨hc1, hf1⟩ := bcell hb1)
    refine bodyPost_ret (v := .tuple #[.agg #[.int .u64 0, .int .u64 0, .int .u64 0, .int .u64 0], .int .i64 10]) ?_ rfl ⟨rfl, ?_⟩
    · simp [results, Try.results11, go_sem, hc1]
    · exact (((below_then (below_two _ _ _) hb1).setCell (by simp <;> omega) _).setCell (by simp <;> omega) _).setCell (by simp <;> omega) _ |>.setCell (by simp <;> omega) _

theorem md_32 (x v : Nat) (h : x % 32 = v) : IntKind.u8.wrap ((x : Int) % 32) = (v : Int) := by rw [IntKind.wrap_u8]; omega
theorem dv_32 (x z : Nat) (hx : x < 18446744073709551616) (h : x / 32 = z) : IntKind.u64.wrap ((x : Int) / 32) = (z : Int) ∧ z < 18446744073709551616 := by rw [IntKind.wrap_u64]; omega
theorem md_128 (x v : Nat) (h : x % 128 = v) : IntKind.u8.wrap ((x : Int) % 128) = (v : Int) := by rw [IntKind.wrap_u8]; omega
theorem dv_128 (x z : Nat) (hx : x < 18446744073709551616) (h : x / 128 = z) : IntKind.u64.wrap ((x : Int) / 128) = (z : Int) ∧ z < 18446744073709551616 := by rw [IntKind.wrap_u64]; omega
theorem md_16 (x v : Nat) (h : x % 16 = v) : IntKind.u8.wrap ((x : Int) % 16) = (v : Int) := by rw [IntKind.wrap_u8]; omega
theorem dv_16 (x z : Nat) (hx : x < 18446744073709551616) (h : x / 16 = z) : IntKind.u64.wrap ((x : Int) / 16) = (z : Int) ∧ z < 18446744073709551616 := by rw [IntKind.wrap_u64]; omega
theorem md_64 (x v : Nat) (h : x % 64 = v) : IntKind.u8.wrap ((x : Int) % 64) = (v : Int) := by rw [IntKind.wrap_u8]; omega
theorem dv_64 (x z : Nat) (hx : x < 18446744073709551616) (h : x / 64 = z) : IntKind.u64.wrap ((x : Int) / 64) = (z : Int) ∧ z < 18446744073709551616 := by rw [IntKind.wrap_u64]; omega
theorem md_8 (x v : Nat) (h : x % 8 = v) : IntKind.u8.wrap ((x : Int) % 8) = (v : Int) := by rw [IntKind.wrap_u8]; omega
theorem dv_8 (x z : Nat) (hx : x < 18446744073709551616) (h : x / 8 = z) : IntKind.u64.wrap ((x : Int) / 8) = (z : Int) ∧ z < 18446744073709551616 := by rw [IntKind.wrap_u64]; omega
theorem half_of (x a b : Nat) (hx : x < 18446744073709551616) (h1 : x % 4294967296 = a) (h2 : x / 4294967296 = b) : IntKind.u32.wrap ((x : Int) % 4294967296) = (a : Int) ∧ IntKind.u64.wrap ((x : Int) / 4294967296) = (b : Int) ∧ IntKind.u32.wrap (b : Int) = (b : Int) := by rw [IntKind.wrap_u32, IntKind.wrap_u64, IntKind.wrap_u32]; omega
set_option maxRecDepth 100000 in
set_option maxHeartbeats 4000000 in
theorem rgOf_any (t A B C : Nat) (hA : A < 18446744073709551616) (hB : B < 18446744073709551616) (hC : C < 18446744073709551616) (w : World) :
    Calls Try.prog 12 #[.agg #[.int .u64 t, .int .u64 A, .int .u64 B, .int .u64 C]] w (Ret (dsv (ofC t A B C)) w) := by
  unfold ofC dsv
  simp only
  obtain ⟨k, hh_k⟩ : ∃ z, A % 32 = z := ⟨_, rfl⟩
  rw [hh_k]
  have m_k := md_32 _ _ hh_k
  clear hh_k
  obtain ⟨w0, hw0⟩ : ∃ z, A / 32 = z := ⟨_, rfl⟩
  rw [hw0]
  obtain ⟨d_0, l0⟩ := dv_32 _ _ hA hw0
  clear hw0 hA
  obtain ⟨seq, hh_seq⟩ : ∃ z, w0 % 128 = z := ⟨_, rfl⟩
  rw [hh_seq]
  have m_seq := md_128 _ _ hh_seq
  clear hh_seq
  obtain ⟨w1, hw1⟩ : ∃ z, w0 / 128 = z := ⟨_, rfl⟩
  rw [hw1]
  obtain ⟨d_1, l1⟩ := dv_128 _ _ l0 hw1
  clear hw1 l0
  obtain ⟨kind, hh_kind⟩ : ∃ z, w1 % 16 = z := ⟨_, rfl⟩
  rw [hh_kind]
  have m_kind := md_16 _ _ hh_kind
  clear hh_kind
  obtain ⟨w2, hw2⟩ : ∃ z, w1 / 16 = z := ⟨_, rfl⟩
  rw [hw2]
  obtain ⟨d_2, l2⟩ := dv_16 _ _ l1 hw2
  clear hw2 l1
  obtain ⟨pc, hh_pc⟩ : ∃ z, w2 % 32 = z := ⟨_, rfl⟩
  rw [hh_pc]
  have m_pc := md_32 _ _ hh_pc
  clear hh_pc
  obtain ⟨w3, hw3⟩ : ∃ z, w2 / 32 = z := ⟨_, rfl⟩
  rw [hw3]
  obtain ⟨d_3, l3⟩ := dv_32 _ _ l2 hw3
  clear hw3 l2
  obtain ⟨i, hh_i⟩ : ∃ z, w3 % 128 = z := ⟨_, rfl⟩
  rw [hh_i]
  have m_i := md_128 _ _ hh_i
  clear hh_i
  obtain ⟨w4, hw4⟩ : ∃ z, w3 / 128 = z := ⟨_, rfl⟩
  rw [hw4]
  obtain ⟨d_4, l4⟩ := dv_128 _ _ l3 hw4
  clear hw4 l3
  obtain ⟨j, hh_j⟩ : ∃ z, w4 % 128 = z := ⟨_, rfl⟩
  rw [hh_j]
  have m_j := md_128 _ _ hh_j
  clear hh_j
  obtain ⟨w5, hw5⟩ : ∃ z, w4 / 128 = z := ⟨_, rfl⟩
  rw [hw5]
  obtain ⟨d_5, l5⟩ := dv_128 _ _ l4 hw5
  clear hw5 l4
  obtain ⟨n, hh_n⟩ : ∃ z, w5 % 64 = z := ⟨_, rfl⟩
  rw [hh_n]
  have m_n := md_64 _ _ hh_n
  clear hh_n
  obtain ⟨w6, hw6⟩ : ∃ z, w5 / 64 = z := ⟨_, rfl⟩
  rw [hw6]
  obtain ⟨d_6, l6⟩ := dv_64 _ _ l5 hw6
  clear hw6 l5
  obtain ⟨p, hh_p⟩ : ∃ z, w6 % 64 = z := ⟨_, rfl⟩
  rw [hh_p]
  have m_p := md_64 _ _ hh_p
  clear hh_p
  obtain ⟨w7, hw7⟩ : ∃ z, w6 / 64 = z := ⟨_, rfl⟩
  rw [hw7]
  obtain ⟨d_7, l7⟩ := dv_64 _ _ l6 hw7
  clear hw7 l6
  obtain ⟨h, hh_h⟩ : ∃ z, w7 % 8 = z := ⟨_, rfl⟩
  rw [hh_h]
  have m_h := md_8 _ _ hh_h
  clear hh_h
  clear l7
  obtain ⟨a, hlo⟩ : ∃ z, B % 4294967296 = z := ⟨_, rfl⟩
  obtain ⟨b, hhi⟩ : ∃ z, B / 4294967296 = z := ⟨_, rfl⟩
  rw [hlo, hhi]
  obtain ⟨u_a, v_b, x_b⟩ := half_of _ _ _ hB hlo hhi
  clear hlo hhi hB
  obtain ⟨x, hlo⟩ : ∃ z, C % 4294967296 = z := ⟨_, rfl⟩
  obtain ⟨y, hhi⟩ : ∃ z, C / 4294967296 = z := ⟨_, rfl⟩
  rw [hlo, hhi]
  obtain ⟨u_x, v_y, x_y⟩ := half_of _ _ _ hC hlo hhi
  clear hlo hhi hC
  go_enter Try.func12, Try.ntmps12
  go_wp2
  refine bodyPost_ret (v := .agg #[.int .u64 (t : Int), .int .u8 (k : Int), .int .u8 (seq : Int), .int .u8 (kind : Int), .int .u32 (a : Int), .int .u32 (b : Int), .int .u8 (pc : Int), .int .u8 (i : Int), .int .u8 (j : Int), .int .u8 (n : Int), .int .u8 (p : Int), .int .u8 (h : Int), .int .u32 (x : Int), .int .u32 (y : Int)]) ?_ rfl ⟨rfl, ?_⟩
  · simp [results, Try.results12, go_sem]
  · exact below_three _ _ _ _

end Go.Proofs.Ytpepahecjkkpbaa
