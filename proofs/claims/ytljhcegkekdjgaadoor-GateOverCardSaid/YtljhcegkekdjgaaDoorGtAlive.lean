/- The chapter's examples of a set of access rules, as the laws ask them ahead of each of their questions. -/
import Derived.Test.YtljhcegkekdjgaaDoorGtAl
namespace Go.Proofs.YtljhcegkekdjgaaDoor
open Go.RowKit Go.Lib Pt Opn

theorem obsB {X W : World} (hb : Below X.heap.size X W) (h : Obs X) : Obs W := h.below hb
theorem islD {X : World} {A : Option Addr} {cs : List Q4} (h : IsL X A 4 q4L cs) : IsL X.drew A 4 q4L cs := h
theorem islB {X W : World} {A : Option Addr} {cs : List Q4} (hb : Below X.heap.size X W) (h : IsL X A 4 q4L cs) : IsL W A 4 q4L cs := h.below hb
theorem islA {X : World} {A : Option Addr} {cs : List Q4} {o : Obj} (h : IsL X A 4 q4L cs) : IsL (X.alloc o) A 4 q4L cs := h.below (below_one X o)
set_option maxRecDepth 100000 in
set_option maxHeartbeats 32000000 in
theorem galive_any (w : World) (hO : Obs w) : Calls Tryd.prog 12 #[] w (Ret (.bool true) w) := by
  have HOb := Lib.hid hO
  clear hO
  have HC := Lib.hid (fun W => gconf_any W)
  have H1 := Lib.hid (fun A d hA W hO h => grun gZ gX ⟨9, 1, 7, 2⟩ (by unfold Wf; simp) 0 3 1 gr1 rfl rfl (by decide) A d hA W hO h)
  unfold cfv cfG at HC H1
  unfold opv RunG at H1
  simp only [show ((0 : Nat) : Int) = 0 from rfl, show ((1 : Nat) : Int) = 1 from rfl, show ((2 : Nat) : Int) = 2 from rfl, show ((3 : Nat) : Int) = 3 from rfl, show ((7 : Nat) : Int) = 7 from rfl, show ((9 : Nat) : Int) = 9 from rfl] at H1
  simp only at HC
  have HMK := fun W => gmake3 W
  go_enter Tryd.func12, Tryd.ntmps12
  go_upto_region 1 with fail
  go_cut [1, 2, 3, 4] (fun s1 s2 s3 s4 wx => ∃ A d rb tb, s1 = .slice A 3 d ∧ s2 = .pointer (some ⟨rb, 0, none⟩) ∧ s3 = .pointer (some ⟨tb, 0, none⟩) ∧ s4 = .bool true ∧ Hid (LiveG w A gX rb tb 0 3 1 wx))
  case first =>
    go_region_held3 (fun _ => True) (trivial)
      (first
        | ((with_reducible refine (HC.out _).mono ?_); rintro e w1 ⟨rfl, hb1⟩; obtain ⟨hc1, hf1⟩ := bcell hb1; have hs1 := hb1.size; (try simp [heap_drew] at hs1); (try have qa1 : w.heap.size < w1.heap.size := by omega); (try have qa2 : w.heap.size + 1 < w1.heap.size := by omega); (try have qa3 : w.heap.size + 1 + 1 < w1.heap.size := by omega); (try have qb1 : w.heap.size < w1.heap.size + 1 := by omega); (try have qb2 : w.heap.size + 1 < w1.heap.size + 1 := by omega); (try have qb3 : w.heap.size < w1.heap.size + 1 + 1 := by omega); (try have qb4 : w.heap.size + 1 < w1.heap.size + 1 + 1 := by omega); (try have qb5 : w.heap.size < w1.heap.size + 1 + 1 + 1 := by omega); (try simp [heap_drew] at hc1 hf1))
        | ((with_reducible refine (H1.out _ _ (fun e => by cases e) _ (by
              repeat' (first
                | with_reducible exact HOb.out
                | with_reducible refine Obs.drew' ?_
                | with_reducible refine Obs.alloc' ?_ _
                | with_reducible refine obsB hb1 ?_)) (by
              repeat' (first
                | with_reducible exact gisl_z3 _ _ (by first | rfl | simp) _
                | with_reducible refine islD ?_
                | with_reducible refine islA ?_
                | with_reducible refine islB hb1 ?_))).mono ?_); rintro e w2 ⟨A, d, rfl, hI, hb2⟩; obtain ⟨hc2, hf2⟩ := bcell hb2; have hs2 := hb2.size; (try simp at hs2); (try have qc1 : w.heap.size < w2.heap.size := by omega); (try have qc2 : w.heap.size + 1 < w2.heap.size := by omega); (try have qc3 : w.heap.size + 1 + 1 < w2.heap.size := by omega); (try have qd1 : w1.heap.size < w2.heap.size := by omega); (try have qd2 : w1.heap.size + 1 < w2.heap.size := by omega); (try have qd3 : w1.heap.size + 1 + 1 < w2.heap.size := by omega); (try simp at hc2 hf2)))
    all_goals
      (try clear hc1 hf1)
      clear hc2 hf2
      go_wp2_with fail
      go_meet
      refine ⟨A, d, _, _, rfl, rfl, rfl, rfl, Lib.hid (live_of hI (by decide) ?_ ?_ ?_ ?_ ?_ ?_ ?_ ?_)⟩
      · repeat' (first
          | with_reducible refine bw_below hb2 ?_
          | with_reducible refine bw_alloc ?_
          | with_reducible refine bw_drew ?_
          | with_reducible refine bw_below hb1 ?_
          | with_reducible exact Below.refl _ _)
      · repeat' (first
          | with_reducible refine Only.drew ?_
          | with_reducible refine Only.alloc ?_ _
          | with_reducible refine only_set2' ?_ _ _
          | with_reducible refine only_set2 ?_ _ _
          | with_reducible exact Only.refl _ _)
      · first | omega | (simp; omega) | (simp; done)
      · first | omega | (simp; omega) | (simp; done)
      · first
          | (right; first | omega | (simp; done))
          | (left
             repeat' (first
               | with_reducible refine BkR.below hb2 ?_
               | with_reducible refine BkR.drew ?_
               | (with_reducible refine BkR.newR ?_; first | rfl | (simp; done))
               | with_reducible refine BkR.alloc ?_
               | with_reducible refine BkR.below hb1 ?_))
      · first
          | (right; first | omega | (simp; done))
          | (left
             repeat' (first
               | with_reducible refine BkR.below hb2 ?_
               | with_reducible refine BkR.drew ?_
               | (with_reducible refine BkR.newT ?_; first | rfl | (simp; done))
               | with_reducible refine BkR.alloc ?_
               | with_reducible refine BkR.below hb1 ?_))
      · repeat' (first
          | with_reducible refine Cx.drew ?_
          | with_reducible refine Cx.set ?_
          | (with_reducible refine Cx.new ?_; first | rfl | (simp; done))
          | with_reducible refine Cx.alloc ?_
          | with_reducible refine Cx.other ?_ ?_
          | with_reducible refine BkR.drew ?_
          | with_reducible refine BkR.other ?_ ?_
          | (with_reducible refine BkR.newR ?_; first | rfl | (simp; done))
          | with_reducible refine BkR.below hb2 ?_
          | with_reducible refine BkR.alloc ?_
          | with_reducible refine BkR.below hb1 ?_
          | omega
          | (simp; done)
          | (simp; omega))
      · repeat' (first
          | with_reducible refine Cx.drew ?_
          | with_reducible refine Cx.set ?_
          | (with_reducible refine Cx.new ?_; first | rfl | (simp; done))
          | with_reducible refine Cx.alloc ?_
          | with_reducible refine Cx.other ?_ ?_
          | with_reducible refine BkR.drew ?_
          | with_reducible refine BkR.other ?_ ?_
          | (with_reducible refine BkR.newT ?_; first | rfl | (simp; done))
          | with_reducible refine BkR.below hb2 ?_
          | with_reducible refine BkR.alloc ?_
          | with_reducible refine BkR.below hb1 ?_
          | omega
          | (simp; done)
          | (simp; omega))
  case rest =>
    obtain ⟨A, d, rb, tb, rfl, rfl, rfl, rfl, HL⟩ := hcut
    obtain ⟨wx, hwx⟩ : ∃ Z, Z = wc := ⟨_, rfl⟩
    subst hwx
    clear HMK H1
    have H2 := Lib.hid (fun A d hA W hO h => grun gX gY ⟨9, 1, 0, 1⟩ (by unfold Wf; simp) 0 3 1 gr2 rfl rfl (by decide) A d hA W hO h)
    unfold cfv cfG at H2
    unfold opv RunG at H2
    simp only [show ((0 : Nat) : Int) = 0 from rfl, show ((1 : Nat) : Int) = 1 from rfl, show ((3 : Nat) : Int) = 3 from rfl, show ((9 : Nat) : Int) = 9 from rfl] at H2
    have H3 := Lib.hid (fun A d hA W hO h => grun gY gY ⟨11, 1, 7, 0⟩ (by unfold Wf; simp) 2 1 0 gr3 rfl rfl (by decide) A d hA W hO h)
    unfold cfv cfG at H3
    unfold opv RunG at H3
    simp only [show ((0 : Nat) : Int) = 0 from rfl, show ((1 : Nat) : Int) = 1 from rfl, show ((2 : Nat) : Int) = 2 from rfl, show ((7 : Nat) : Int) = 7 from rfl, show ((11 : Nat) : Int) = 11 from rfl] at H3
    have H4 := Lib.hid (fun A d hA W hO h => grun gY gY ⟨11, 1, 5, 0⟩ (by unfold Wf; simp) 1 3 0 gr4 rfl rfl (by decide) A d hA W hO h)
    unfold cfv cfG at H4
    unfold opv RunG at H4
    simp only [show ((0 : Nat) : Int) = 0 from rfl, show ((1 : Nat) : Int) = 1 from rfl, show ((3 : Nat) : Int) = 3 from rfl, show ((5 : Nat) : Int) = 5 from rfl, show ((11 : Nat) : Int) = 11 from rfl] at H4
    have H5 := Lib.hid (fun A d hA W hO h => grun gY gW ⟨10, 1, 7, 0⟩ (by unfold Wf; simp) 2 1 1 gr5 rfl rfl (by decide) A d hA W hO h)
    unfold cfv cfG at H5
    unfold opv RunG at H5
    simp only [show ((0 : Nat) : Int) = 0 from rfl, show ((1 : Nat) : Int) = 1 from rfl, show ((2 : Nat) : Int) = 2 from rfl, show ((7 : Nat) : Int) = 7 from rfl, show ((10 : Nat) : Int) = 10 from rfl] at H5
    have HT0 := Lib.hid HL.out.2.1
    have HI1 := Lib.hid HL.out.1
    have HA1 := gsome HL.out.1
    go_wp2_with fail
    refine (HC.out _).mono ?_
    rintro e p2 ⟨rfl, hp2⟩
    go_wp2_with fail
    refine (H2.out A d HA1 _ (HOb.out.below (below_then HT0.out hp2)) (islB hp2 (HI1.out))).mono ?_
    rintro e w2 ⟨A2, d2, rfl, hI2, hb2⟩
    go_upto_region 3 with fail
    refine ent2 fun X2 hx2 h2r h2t _ _ => ?_
    have HT1 := Lib.hid (below_then (below_then (below_then HT0.out hp2) hb2) hx2)
    have HBx2 := Lib.hid (below_then (below_then hp2 hb2) hx2)
    have HI2 := Lib.hid (islB hx2 hI2)
    have HA2 := gsome HI2.out
    have HR2 := Lib.hid (And.intro h2r h2t)
    clear hp2 hb2 hx2 hI2 h2r h2t H2
    go_wp2_with fail
    refine (HC.out _).mono ?_
    rintro e p3 ⟨rfl, hp3⟩
    go_wp2_with fail
    refine (H3.out A2 d2 HA2 _ (HOb.out.below (below_then HT1.out hp3)) (islB hp3 (HI2.out))).mono ?_
    rintro e w3 ⟨A3, d3, rfl, hI3, hb3⟩
    go_upto_region 6 with fail
    refine ent2 fun X3 hx3 h3r h3t _ _ => ?_
    have HT2 := Lib.hid (below_then (below_then (below_then HT1.out hp3) hb3) hx3)
    have HBx3 := Lib.hid (below_then (below_then hp3 hb3) hx3)
    have HI3 := Lib.hid (islB hx3 hI3)
    have HA3 := gsome HI3.out
    have HR3 := Lib.hid (And.intro h3r h3t)
    have HB2_3 := Lib.hid (HBx3.out)
    clear hp3 hb3 hx3 hI3 h3r h3t H3
    go_wp2_with fail
    refine (HC.out _).mono ?_
    rintro e p4 ⟨rfl, hp4⟩
    go_wp2_with fail
    refine (H4.out A2 d2 HA2 _ (HOb.out.below (below_then HT2.out hp4)) (islB hp4 (islB HB2_3.out HI2.out))).mono ?_
    rintro e w4 ⟨A4, d4, rfl, hI4, hb4⟩
    go_upto_region 7 with fail
    refine ent2 fun X4 hx4 h4r h4t _ _ => ?_
    have HT3 := Lib.hid (below_then (below_then (below_then HT2.out hp4) hb4) hx4)
    have HBx4 := Lib.hid (below_then (below_then hp4 hb4) hx4)
    have HI4 := Lib.hid (islB hx4 hI4)
    have HA4 := gsome HI4.out
    have HR4 := Lib.hid (And.intro h4r h4t)
    have HB2_4 := Lib.hid (below_then HB2_3.out HBx4.out)
    clear hp4 hb4 hx4 hI4 h4r h4t H4
    go_wp2_with fail
    refine (HC.out _).mono ?_
    rintro e p5 ⟨rfl, hp5⟩
    go_wp2_with fail
    refine (H5.out A2 d2 HA2 _ (HOb.out.below (below_then HT3.out hp5)) (islB hp5 (islB HB2_4.out HI2.out))).mono ?_
    rintro e w5 ⟨A5, d5, rfl, hI5, hb5⟩
    go_upto_region 8 with fail
    refine ent2 fun X5 hx5 h5r h5t _ _ => ?_
    have HT4 := Lib.hid (below_then (below_then (below_then HT3.out hp5) hb5) hx5)
    have HBx5 := Lib.hid (below_then (below_then hp5 hb5) hx5)
    have HI5 := Lib.hid (islB hx5 hI5)
    have HA5 := gsome HI5.out
    have HR5 := Lib.hid (And.intro h5r h5t)
    have HB2_5 := Lib.hid (below_then HB2_4.out HBx5.out)
    clear hp5 hb5 hx5 hI5 h5r h5t H5
    have HB1_5 := Lib.hid (below_then HBx2.out HB2_5.out)
    have HB3_5 := Lib.hid (below_then HBx4.out HBx5.out)
    obtain ⟨bA, oA, rfl, eA⟩ := HI1.out 0 (0, 2, 1, 7) rfl
    obtain ⟨bB, oB, rfl, eB⟩ := HI2.out 1 (0, 1, 1, 0) rfl
    obtain ⟨bC, oC, rfl, eC⟩ := HI5.out 0 (0, 0, 0, 0) rfl
    obtain ⟨l1, l2, l3, l4, l5, l6, l7⟩ := HL.out
    have a0 : X5.cell? ⟨bA, oA, none⟩ = some (.int .u64 0) := by
      have h := eA 0 (.int .u64 0) rfl
      simp only [Nat.zero_mul, Nat.add_zero] at h
      exact (HB1_5.out.cell (World.block_lt_of_cell? _ _ h)).trans h
    have a1 : X5.cell? ⟨bA, oA + 1, none⟩ = some (.int .u64 2) := by
      have h := eA 1 (.int .u64 2) rfl
      simp only [Nat.zero_mul, Nat.add_zero] at h
      exact (HB1_5.out.cell (World.block_lt_of_cell? _ _ h)).trans h
    have a2 : X5.cell? ⟨bA, oA + 2, none⟩ = some (.int .u64 1) := by
      have h := eA 2 (.int .u64 1) rfl
      simp only [Nat.zero_mul, Nat.add_zero] at h
      exact (HB1_5.out.cell (World.block_lt_of_cell? _ _ h)).trans h
    have a3 : X5.cell? ⟨bA, oA + 3, none⟩ = some (.int .u64 7) := by
      have h := eA 3 (.int .u64 7) rfl
      simp only [Nat.zero_mul, Nat.add_zero] at h
      exact (HB1_5.out.cell (World.block_lt_of_cell? _ _ h)).trans h
    have b0 : X5.cell? ⟨bB, oB + 4, none⟩ = some (.int .u64 0) := by
      have h := eB 0 (.int .u64 0) rfl
      simp only [Nat.one_mul, Nat.add_zero] at h
      exact (HB2_5.out.cell (World.block_lt_of_cell? _ _ h)).trans h
    have b1 : X5.cell? ⟨bB, oB + 5, none⟩ = some (.int .u64 1) := by
      have h := eB 1 (.int .u64 1) rfl
      rw [Nat.add_assoc] at h
      exact (HB2_5.out.cell (World.block_lt_of_cell? _ _ h)).trans h
    have b2 : X5.cell? ⟨bB, oB + 6, none⟩ = some (.int .u64 1) := by
      have h := eB 2 (.int .u64 1) rfl
      rw [Nat.add_assoc] at h
      exact (HB2_5.out.cell (World.block_lt_of_cell? _ _ h)).trans h
    have b3 : X5.cell? ⟨bB, oB + 7, none⟩ = some (.int .u64 0) := by
      have h := eB 3 (.int .u64 0) rfl
      rw [Nat.add_assoc] at h
      exact (HB2_5.out.cell (World.block_lt_of_cell? _ _ h)).trans h
    have c0 : X5.cell? ⟨bC, oC, none⟩ = some (.int .u64 0) := by
      have h := eC 0 (.int .u64 0) rfl
      simp only [Nat.zero_mul, Nat.add_zero] at h
      exact h
    have c1 : X5.cell? ⟨bC, oC + 1, none⟩ = some (.int .u64 0) := by
      have h := eC 1 (.int .u64 0) rfl
      simp only [Nat.zero_mul, Nat.add_zero] at h
      exact h
    have c2 : X5.cell? ⟨bC, oC + 2, none⟩ = some (.int .u64 0) := by
      have h := eC 2 (.int .u64 0) rfl
      simp only [Nat.zero_mul, Nat.add_zero] at h
      exact h
    have c3 : X5.cell? ⟨bC, oC + 3, none⟩ = some (.int .u64 0) := by
      have h := eC 3 (.int .u64 0) rfl
      simp only [Nat.zero_mul, Nat.add_zero] at h
      exact h
    have s1 := (HB1_5.out.cell (World.block_lt_of_cell? _ _ l4)).trans l4
    have t0 := (HB1_5.out.cell (World.block_lt_of_cell? _ _ l5)).trans l5
    have t1 := (HB1_5.out.cell (World.block_lt_of_cell? _ _ l6)).trans l6
    have t2 := (HB1_5.out.cell (World.block_lt_of_cell? _ _ l7)).trans l7
    obtain ⟨-, -, r2, -, -, -⟩ := cells3 (blk_below HR2.out.1 HB2_5.out)
    obtain ⟨u2, -, v2, -, z2, -⟩ := cells3 (blk_below HR2.out.2 HB2_5.out)
    obtain ⟨-, -, r3, -, -, -⟩ := cells3 (blk_below HR3.out.1 HB3_5.out)
    obtain ⟨u3, -, v3, -, z3, -⟩ := cells3 (blk_below HR3.out.2 HB3_5.out)
    obtain ⟨-, -, r4, -, -, -⟩ := cells3 (blk_below HR4.out.1 HBx5.out)
    obtain ⟨u4, -, v4, -, z4, -⟩ := cells3 (blk_below HR4.out.2 HBx5.out)
    obtain ⟨-, -, r5, -, -, -⟩ := cells3 HR5.out.1
    obtain ⟨u5, -, v5, -, z5, -⟩ := cells3 HR5.out.2
    have EQ1 : ∀ W : World, (binOp .eql 37 (.agg #[.int .u64 0, .int .u64 2, .int .u64 1, .int .u64 7]) (.agg #[.int .u64 0, .int .u64 2, .int .u64 1, .int .u64 7])).run Tryd.prog W = .ok (.bool true) W := fun W => by kernel_rfl
    have EQ2 : ∀ W : World, (binOp .eql 37 (.agg #[.int .u64 0, .int .u64 1, .int .u64 1, .int .u64 0]) (.agg #[.int .u64 0, .int .u64 1, .int .u64 1, .int .u64 0])).run Tryd.prog W = .ok (.bool true) W := fun W => by kernel_rfl
    have EQ3 : ∀ W : World, (binOp .eql 37 (.agg #[.int .u64 0, .int .u64 0, .int .u64 0, .int .u64 0]) (.agg #[.int .u64 0, .int .u64 0, .int .u64 0, .int .u64 0])).run Tryd.prog W = .ok (.bool true) W := fun W => by kernel_rfl
    have ET1 : ∀ W : World, (binOp .eql 62 (.agg #[.int .i64 3, .int .i64 1, .int .i64 0]) (.agg #[.int .i64 3, .int .i64 1, .int .i64 0])).run Tryd.prog W = .ok (.bool true) W := fun W => by kernel_rfl
    have ET2 : ∀ W : World, (binOp .eql 62 (.agg #[.int .i64 1, .int .i64 0, .int .i64 0]) (.agg #[.int .i64 1, .int .i64 0, .int .i64 0])).run Tryd.prog W = .ok (.bool true) W := fun W => by kernel_rfl
    have ET3 : ∀ W : World, (binOp .eql 62 (.agg #[.int .i64 3, .int .i64 0, .int .i64 0]) (.agg #[.int .i64 3, .int .i64 0, .int .i64 0])).run Tryd.prog W = .ok (.bool true) W := fun W => by kernel_rfl
    have ET4 : ∀ W : World, (binOp .eql 62 (.agg #[.int .i64 1, .int .i64 1, .int .i64 0]) (.agg #[.int .i64 1, .int .i64 1, .int .i64 0])).run Tryd.prog W = .ok (.bool true) W := fun W => by kernel_rfl
    have HEND := Lib.hid HT4.out
    clear eA eB eC l1 l2 l3 l4 l5 l6 l7 HL HC HA1 HA2 HA3 HA4 HA5
    go_wp2_with fail
    go_ret
    exact Ret.mk rfl HEND.out
end Go.Proofs.YtljhcegkekdjgaaDoor
