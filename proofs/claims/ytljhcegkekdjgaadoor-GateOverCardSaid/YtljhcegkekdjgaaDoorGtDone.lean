/- An operation that is done alone on a list of cells, as the laws of a set of access rules do it. -/
import Derived.Test.YtljhcegkekdjgaaDoorGtDn
namespace Go.Proofs.YtljhcegkekdjgaaDoor
open Go.RowKit Go.Lib Pt Opn

set_option maxRecDepth 100000 in
set_option maxHeartbeats 16000000 in
theorem doneG_any (c : Cf) (A : Option Addr) (d : Nat) (cs : List Q4) (o : O) (ho : Wf o) (hl : cs.length ≤ 1000) (hAn : A = none → cs.length = 0 ∧ d = 0) (hq : ∀ x ∈ cs, QWf x) (w : World) (hO : Obs w) (h : IsL w A 4 q4L cs) :
    Calls Tryd.prog 19 #[cfv c, .slice A cs.length d, opv o] w (DoneG (goG c 80 cs (startF o) (0, 0)) w) := by
  have HOb := Lib.hid hO
  clear hO
  have HS := Lib.hid (fun W => gStart_any o ho W)
  obtain ⟨Z, hZ⟩ : ∃ Z, goG c 80 cs (startF o) (0, 0) = Z := ⟨_, rfl⟩
  have HF := Lib.hid (show DWf (startF o) by unfold Wf at ho; unfold DWf startF; simp only; omega)
  rw [hZ]
  have HZ := Lib.hid hZ
  obtain ⟨f0, hf0⟩ : ∃ f, startF o = f := ⟨_, rfl⟩
  rw [hf0] at HS HF HZ
  obtain ⟨N, hN⟩ : ∃ N, cs.length = N := ⟨_, rfl⟩
  rw [hN] at hl hAn ⊢
  have HI := Lib.hid (And.intro hN (And.intro hAn (And.intro hq h)))
  clear hZ hf0 hN hAn hq h ho
  obtain ⟨P, hP⟩ : ∃ P, P = DoneG Z w := ⟨_, rfl⟩
  rw [← hP]
  have HP := Lib.hid hP
  clear hP
  unfold cfv opv frv at *
  go_enter Tryd.func19, Tryd.ntmps19
  go_upto_region 1 with fail
  refine enter4 fun W0 hb0 h1 h2 h3 h4 q1 q2 q3 q4 => ?_
  obtain ⟨o0, o1, o2, o3⟩ := cells4p h2
  go_wp2_with fail
  refine (HS.out _).mono ?_
  rintro e w1 ⟨rfl, hb1⟩
  have h1' := blk_below h1 hb1
  have h3' := blk_below h3 hb1
  have h4' := blk_below h4 hb1
  have hb01 := below_then hb0 hb1
  clear o0 o1 o2 o3 h1 h2 h3 h4 hb0 hb1 q1 q2 q3 q4
  have hlt1 : w.heap.size + 1 + 1 + 1 < w1.heap.size := (Array.getElem?_eq_some_iff.1 h4').1
  go_upto_region 3 with fail
  refine ent2 fun W2 hb2 h5 h6 _ _ => ?_
  have hB0 : BlkG c w w1.heap.size f0 (0, 0) W2 := ⟨blk_below h1' hb2, blk_below h3' hb2, blk_below h4' hb2, h5, h6, below_then hb01 hb2, hlt1⟩
  obtain ⟨fb, hfb⟩ : ∃ fb, w1.heap.size = fb := ⟨_, rfl⟩
  rw [hfb] at hB0 ⊢
  have HINI := Lib.hid (show cs.length = N ∧ (∀ x ∈ cs, QWf x) ∧ DWf f0 ∧ (A = none → N = 0 ∧ d = 0) ∧ (0 < cs.length → ∀ b o, A = some ⟨b, o, none⟩ → b < w.heap.size ∨ fb + 1 < b) ∧ IsL W2 A 4 q4L cs ∧ BlkG c w fb f0 (0, 0) W2 from by
    obtain ⟨i1, i2, i3, i4⟩ := HI.out
    refine ⟨i1, i3, HF.out, i2, fun hN b o e => ?_, i4.below hB0.2.2.2.2.2.1, hB0⟩
    left
    subst e
    cases cs with
    | nil => simp at hN
    | cons x l =>
      obtain ⟨b', off, e1, h1⟩ := i4 0 x rfl
      injection e1 with e1
      injection e1 with e1 _ _
      rw [e1]
      exact World.block_lt_of_cell? _ _ (h1 0 _ rfl))
  clear h1' h3' h4' hb01 hb2 h5 h6 hlt1 hB0 HI HF HS hfb
  go_wp2_with fail
  go_loopw [1, 12] (fun u1 u12 wr => ∃ (k : Nat) (cs' : List Q4) (f : Ds) (ta tb : Nat) (A' : Option Addr) (d' : Nat), k ≤ 80 ∧ u12 = .int .i64 k ∧ u1 = .slice A' N d' ∧ Hid (goG c (80 - k) cs' f (ta, tb) = Z ∧ ta + tb ≤ k ∧ cs'.length = N ∧ (∀ x ∈ cs', QWf x) ∧ DWf f ∧ (A' = none → N = 0 ∧ d' = 0) ∧ (0 < cs'.length → ∀ b o, A' = some ⟨b, o, none⟩ → b < w.heap.size ∨ fb + 1 < b) ∧ IsL wr A' 4 q4L cs' ∧ BlkG c w fb f (ta, tb) wr)) (fun _ iv _ => 80 - (RowKit.intOf iv).toNat)
  case atStart => exact ⟨0, cs, f0, 0, 0, A, d, by omega, rfl, rfl, Lib.hid ⟨HZ.out, Nat.le_refl _, HINI.out⟩⟩
  case round =>
    obtain ⟨k, cs', f, ta, tb, A', d', hk, rfl, rfl, HR⟩ := hrel
    clear HZ HINI
    have i1 : (0 : Int) ≤ (k : Int) := by omega
    obtain ⟨hgo, htt, v1, v2, v3, v4, v5, v6, hB⟩ := HR.out
    have HBr := Lib.hid hB
    have HIr := Lib.hid v6
    clear HR v6
    by_cases hlt : k < 80
    · have i2 : (k : Int) < 80 := by omega
      obtain ⟨n, hn⟩ : ∃ n, 80 - k = n + 1 := ⟨79 - k, by omega⟩
      have HNN := Lib.hid hn
      rw [hn] at hgo
      unfold goG at hgo
      have HOr := Lib.hid (HOb.out.below hB.2.2.2.2.2.1)
      have HNX := Lib.hid (pNextG_any c f v3 wr HOr.out)
      have hwx := nextG_wf (c := c) v3
      obtain ⟨⟨X, e⟩, hX⟩ : ∃ z, nextG c f = z := ⟨_, rfl⟩
      rw [hX] at HNX hgo hwx
      simp only at hgo hwx
      clear hX hn
      unfold acv cfv frv at HNX
      obtain ⟨g1, g2, g3, g4, g5, g6, g7⟩ := hB
      unfold frA at g4
      obtain ⟨k0, k1, k2, k3, k4, k5, k6, k7, k8, k9, k10, k11⟩ := cells12 g1
      obtain ⟨r0, z0, r1, z1, r2, z2⟩ := cells3 g2
      obtain ⟨t0, x0, t1, x1, t2, x2⟩ := cells3 g3
      obtain ⟨q0, y0, q1, y1, q2, y2, q3, y3, q4, y4, q5, y5, q6, y6, q7, y7, q8, y8, q9, y9, q10, y10⟩ := cells11 g4
      obtain ⟨n0, fz0, n1, fz1, n2, fz2⟩ := cells3 g5
      have s1 := (Array.getElem?_eq_some_iff.1 g1).1
      have s2 := (Array.getElem?_eq_some_iff.1 g2).1
      have s3 := (Array.getElem?_eq_some_iff.1 g3).1
      have s4 := (Array.getElem?_eq_some_iff.1 g4).1
      have s5 := (Array.getElem?_eq_some_iff.1 g5).1
      go_wp2_with fail
      refine HNX.out.mono ?_
      rintro e' w2 ⟨rfl, hb2⟩
      clear k0 k1 k2 k3 k4 k5 k6 k7 k8 k9 k10 k11 r0 z0 r1 z1 r2 z2 t0 x0 t1 x1 t2 x2 q0 y0 q1 y1 q2 y2 q3 y3 q4 y4 q5 y5 q6 y6 q7 y7 q8 y8 q9 y9 q10 y10 n0 fz0 n1 fz1 n2 fz2 s1 s2 s3 s4 s5 g1 g2 g3 g4 g5 g6
      have HB2 := Lib.hid (HBr.out.below hb2)
      have HI2 := Lib.hid (HIr.out.below hb2)
      have hs2w : fb + 1 < w2.heap.size := (Array.getElem?_eq_some_iff.1 HB2.out.2.2.2.2.1).1
      clear hb2 HNX HIr HBr
      go_upto_region 7 with fail
      refine enter1 fun W3 hb3 hact q3 => ?_
      have HB3 := Lib.hid (HB2.out.below hb3)
      have HI3 := Lib.hid (HI2.out.below hb3)
      have hB := HB3.out
      clear HB2 HI2
      obtain ⟨g1, g2, g3, g4, g5, g6, g7⟩ := hB
      unfold frA at g4
      obtain ⟨k0, k1, k2, k3, k4, k5, k6, k7, k8, k9, k10, k11⟩ := cells12 g1
      obtain ⟨r0, z0, r1, z1, r2, z2⟩ := cells3 g2
      obtain ⟨t0, x0, t1, x1, t2, x2⟩ := cells3 g3
      obtain ⟨q0, y0, q1, y1, q2, y2, q3, y3, q4, y4, q5, y5, q6, y6, q7, y7, q8, y8, q9, y9, q10, y10⟩ := cells11 g4
      obtain ⟨n0, fz0, n1, fz1, n2, fz2⟩ := cells3 g5
      have s1 := (Array.getElem?_eq_some_iff.1 g1).1
      have s2 := (Array.getElem?_eq_some_iff.1 g2).1
      have s3 := (Array.getElem?_eq_some_iff.1 g3).1
      have s4 := (Array.getElem?_eq_some_iff.1 g4).1
      have s5 := (Array.getElem?_eq_some_iff.1 g5).1
      by_cases e0 : e = 0
      case neg =>
        rw [if_pos e0] at hgo
        have e1' : (e != 0) = true := bne_iff_ne.2 e0
        clear e0
        go_upto_region 8 with fail
        go_region
        all_goals
          go_wp2_with fail
          rw [HP.out]
          refine ret_inG fun W' hW' => ?_
          have hRr := HB3.out.2.1
          have hRt := HB3.out.2.2.1
          have R1 : W'.heap[w.heap.size + 1 + 1]? = some (.cells #[.int .i64 0, .int .u32 0, .slice none 0 0] 58 (0, 0)) := by
            rw [hW']
            with_reducible first
              | refine bk_drew (bk_other ?_ (bk_other ?_ (bk_other ?_ (st_of (bk_store (bk_store (bk_store hRr _ _) _ _) _ _) ?_))))
              | refine bk_other ?_ (bk_other ?_ (bk_other ?_ (st_of (bk_store (bk_store (bk_store hRr _ _) _ _) _ _) ?_)))
              | refine bk_drew (st_of (bk_store (bk_store (bk_store (bk_other ?_ (bk_other ?_ (bk_other ?_ hRr))) _ _) _ _) _ _) ?_)
              | refine st_of (bk_store (bk_store (bk_store (bk_other ?_ (bk_other ?_ (bk_other ?_ hRr))) _ _) _ _) _ _) ?_
            all_goals first | rfl | omega
          have R2 : W'.heap[w.heap.size + 1 + 1 + 1]? = some (.cells #[.int .i64 (ta : Nat), .int .i64 (tb : Nat), .int .i64 0] 62 (0, 0)) := by
            rw [hW']
            with_reducible first
              | refine bk_drew (bk_other ?_ (bk_other ?_ (bk_other ?_ (st_of (bk_store (bk_store (bk_store hRt _ _) _ _) _ _) ?_))))
              | refine bk_other ?_ (bk_other ?_ (bk_other ?_ (st_of (bk_store (bk_store (bk_store hRt _ _) _ _) _ _) ?_)))
              | refine bk_drew (st_of (bk_store (bk_store (bk_store (bk_other ?_ (bk_other ?_ (bk_other ?_ hRt))) _ _) _ _) _ _) ?_)
              | refine st_of (bk_store (bk_store (bk_store (bk_other ?_ (bk_other ?_ (bk_other ?_ hRt))) _ _) _ _) _ _) ?_
            all_goals first | rfl | omega
          have R3 : Only (fun k => k = w.heap.size + 1 + 1 ∨ k = w.heap.size + 1 + 1 + 1) W3 W' := by
            rw [hW']
            repeat' (first | with_reducible refine Only.drew ?_ | with_reducible refine only_set2 ?_ _ _ | with_reducible refine only_set2' ?_ _ _ | with_reducible exact Only.refl _ _)
          clear hW'
          obtain ⟨rr0, -, rr1, -, rr2, -⟩ := cells3 R1
          obtain ⟨tt0, -, tt1, -, tt2, -⟩ := cells3 R2
          subst hgo
          refine bodyPost_ret (v := .tuple #[.slice A' N d', .agg #[.int .i64 0, .int .u32 0, .slice none 0 0], .agg #[.int .i64 (ta : Nat), .int .i64 (tb : Nat), .int .i64 0], .bool false]) ?_ rfl ⟨A', d', by simp [v1], by rw [v1]; exact v4, isl_only HI3.out R3 (fun hl b o e hc => by have := v5 hl b o e; omega), Only.then_below (Nat.le_refl _) HB3.out.2.2.2.2.2.1 R3 (fun k hk => by omega)⟩
          simp [results, Tryd.results19, go_sem, rr0, rr1, rr2, tt0, tt1, tt2]

      subst e0
      rw [if_neg (by simp)] at hgo
      obtain ⟨a0, -, a1, -, a2, -, a3, -, a4, -, a5, -, a6, -⟩ := cells7 hact
      by_cases k4 : X.kind = 4
      · rw [if_pos k4] at hgo
        have k4' : ((X.kind : Int) == 4) = true := by simp [k4]
        clear k4
        go_upto_region 10 with fail
        go_region
        all_goals
          go_wp2_with fail
          rw [HP.out]
          refine ret_inG fun W' hW' => ?_
          have hRr := HB3.out.2.1
          have hRt := HB3.out.2.2.1
          have R1 : W'.heap[w.heap.size + 1 + 1]? = some (.cells #[.int .i64 X.code, .int .u32 (X.v : Nat), .slice none 0 0] 58 (0, 0)) := by
            rw [hW']
            with_reducible first
              | refine bk_drew (bk_other ?_ (bk_other ?_ (bk_other ?_ (st_of (bk_store (bk_store (bk_store hRr _ _) _ _) _ _) ?_))))
              | refine bk_other ?_ (bk_other ?_ (bk_other ?_ (st_of (bk_store (bk_store (bk_store hRr _ _) _ _) _ _) ?_)))
              | refine bk_drew (st_of (bk_store (bk_store (bk_store (bk_other ?_ (bk_other ?_ (bk_other ?_ hRr))) _ _) _ _) _ _) ?_)
              | refine st_of (bk_store (bk_store (bk_store (bk_other ?_ (bk_other ?_ (bk_other ?_ hRr))) _ _) _ _) _ _) ?_
            all_goals first | rfl | omega
          have R2 : W'.heap[w.heap.size + 1 + 1 + 1]? = some (.cells #[.int .i64 (ta : Nat), .int .i64 (tb : Nat), .int .i64 0] 62 (0, 0)) := by
            rw [hW']
            with_reducible first
              | refine bk_drew (bk_other ?_ (bk_other ?_ (bk_other ?_ (st_of (bk_store (bk_store (bk_store hRt _ _) _ _) _ _) ?_))))
              | refine bk_other ?_ (bk_other ?_ (bk_other ?_ (st_of (bk_store (bk_store (bk_store hRt _ _) _ _) _ _) ?_)))
              | refine bk_drew (st_of (bk_store (bk_store (bk_store (bk_other ?_ (bk_other ?_ (bk_other ?_ hRt))) _ _) _ _) _ _) ?_)
              | refine st_of (bk_store (bk_store (bk_store (bk_other ?_ (bk_other ?_ (bk_other ?_ hRt))) _ _) _ _) _ _) ?_
            all_goals first | rfl | omega
          have R3 : Only (fun k => k = w.heap.size + 1 + 1 ∨ k = w.heap.size + 1 + 1 + 1) W3 W' := by
            rw [hW']
            repeat' (first | with_reducible refine Only.drew ?_ | with_reducible refine only_set2 ?_ _ _ | with_reducible refine only_set2' ?_ _ _ | with_reducible exact Only.refl _ _)
          clear hW'
          obtain ⟨rr0, -, rr1, -, rr2, -⟩ := cells3 R1
          obtain ⟨tt0, -, tt1, -, tt2, -⟩ := cells3 R2
          subst hgo
          refine bodyPost_ret (v := .tuple #[.slice A' N d', .agg #[.int .i64 X.code, .int .u32 (X.v : Nat), .slice none 0 0], .agg #[.int .i64 (ta : Nat), .int .i64 (tb : Nat), .int .i64 0], .bool true]) ?_ rfl ⟨A', d', by simp [v1], by rw [v1]; exact v4, isl_only HI3.out R3 (fun hl b o e hc => by have := v5 hl b o e; omega), Only.then_below (Nat.le_refl _) HB3.out.2.2.2.2.2.1 R3 (fun k hk => by omega)⟩
          simp [results, Tryd.results19, go_sem, rr0, rr1, rr2, tt0, tt1, tt2]

      rw [if_neg k4] at hgo
      have k4' : ((X.kind : Int) == 4) = false := by simp; omega
      by_cases hin : X.pl < cs'.length
      case neg =>
        rw [if_neg hin] at hgo
        have p2 : (N : Int) ≤ X.pl := by omega
        have p1 : ¬ (X.pl : Int) < 0 := by omega
        clear hin k4
        go_upto_region 12 with fail
        go_region
        all_goals
          go_wp2_with fail
          rw [HP.out]
          refine ret_inG fun W' hW' => ?_
          have hRr := HB3.out.2.1
          have hRt := HB3.out.2.2.1
          have R1 : W'.heap[w.heap.size + 1 + 1]? = some (.cells #[.int .i64 0, .int .u32 0, .slice none 0 0] 58 (0, 0)) := by
            rw [hW']
            with_reducible first
              | refine bk_drew (bk_other ?_ (bk_other ?_ (bk_other ?_ (st_of (bk_store (bk_store (bk_store hRr _ _) _ _) _ _) ?_))))
              | refine bk_other ?_ (bk_other ?_ (bk_other ?_ (st_of (bk_store (bk_store (bk_store hRr _ _) _ _) _ _) ?_)))
              | refine bk_drew (st_of (bk_store (bk_store (bk_store (bk_other ?_ (bk_other ?_ (bk_other ?_ hRr))) _ _) _ _) _ _) ?_)
              | refine st_of (bk_store (bk_store (bk_store (bk_other ?_ (bk_other ?_ (bk_other ?_ hRr))) _ _) _ _) _ _) ?_
            all_goals first | rfl | omega
          have R2 : W'.heap[w.heap.size + 1 + 1 + 1]? = some (.cells #[.int .i64 (ta : Nat), .int .i64 (tb : Nat), .int .i64 0] 62 (0, 0)) := by
            rw [hW']
            with_reducible first
              | refine bk_drew (bk_other ?_ (bk_other ?_ (bk_other ?_ (st_of (bk_store (bk_store (bk_store hRt _ _) _ _) _ _) ?_))))
              | refine bk_other ?_ (bk_other ?_ (bk_other ?_ (st_of (bk_store (bk_store (bk_store hRt _ _) _ _) _ _) ?_)))
              | refine bk_drew (st_of (bk_store (bk_store (bk_store (bk_other ?_ (bk_other ?_ (bk_other ?_ hRt))) _ _) _ _) _ _) ?_)
              | refine st_of (bk_store (bk_store (bk_store (bk_other ?_ (bk_other ?_ (bk_other ?_ hRt))) _ _) _ _) _ _) ?_
            all_goals first | rfl | omega
          have R3 : Only (fun k => k = w.heap.size + 1 + 1 ∨ k = w.heap.size + 1 + 1 + 1) W3 W' := by
            rw [hW']
            repeat' (first | with_reducible refine Only.drew ?_ | with_reducible refine only_set2 ?_ _ _ | with_reducible refine only_set2' ?_ _ _ | with_reducible exact Only.refl _ _)
          clear hW'
          obtain ⟨rr0, -, rr1, -, rr2, -⟩ := cells3 R1
          obtain ⟨tt0, -, tt1, -, tt2, -⟩ := cells3 R2
          subst hgo
          refine bodyPost_ret (v := .tuple #[.slice A' N d', .agg #[.int .i64 0, .int .u32 0, .slice none 0 0], .agg #[.int .i64 (ta : Nat), .int .i64 (tb : Nat), .int .i64 0], .bool false]) ?_ rfl ⟨A', d', by simp [v1], by rw [v1]; exact v4, isl_only HI3.out R3 (fun hl b o e hc => by have := v5 hl b o e; omega), Only.then_below (Nat.le_refl _) HB3.out.2.2.2.2.2.1 R3 (fun k hk => by omega)⟩
          simp [results, Tryd.results19, go_sem, rr0, rr1, rr2, tt0, tt1, tt2]

      rw [if_pos hin] at hgo
      have hpl : X.pl < N := by omega
      have p1 : ¬ (X.pl : Int) < 0 := by omega
      have p2 : ¬ (N : Int) ≤ X.pl := by omega
      have p3 : (0 : Int) ≤ X.pl := by omega
      have p4 : (X.pl : Int) < N := by omega
      obtain ⟨ds, hds⟩ : ∃ ds, (if X.kind = 2 then cs'.set X.pl (0, X.a, X.b, X.c) else cs') = ds := ⟨_, rfl⟩
      have hdl : ds.length = N := by rw [← hds]; split <;> simp [v1]
      have hdw : ∀ x ∈ ds, QWf x := by
        rw [← hds]
        split
        · intro x hx
          rcases List.mem_or_eq_of_mem_set hx with h | h
          · exact v2 x h
          · rw [h]; exact ⟨by simp, hwx.1, hwx.2.1, hwx.2.2⟩
        · exact v2
      obtain ⟨⟨ta', tb'⟩, hts⟩ : ∃ z, (if X.kind = 2 then (ta, tb + 1) else (ta + 1, tb)) = z := ⟨_, rfl⟩
      have htt' : ta' + tb' = ta + tb + 1 := by
        split at hts <;> injection hts with h1 h2 <;> omega
      simp only [hds, hts] at hgo
      obtain ⟨⟨ct, ca, cb', cc⟩, hx⟩ : ∃ x, ds[X.pl]? = some x := ⟨_, List.getElem?_eq_getElem (by rw [hdl]; exact hpl)⟩
      rw [hx] at hgo
      simp only [Option.getD_some] at hgo
      have HAF := Lib.hid (fun W hO => pAfterG_any c f v3 ct ca cb' cc W hO)
      have hfw := afterG_wf (c := c) v3 ca cb' cc
      obtain ⟨⟨G, e2⟩, hG⟩ : ∃ z, afterG c f ca cb' cc = z := ⟨_, rfl⟩
      rw [hG] at HAF hgo hfw
      simp only at hgo hfw
      have HDS := Lib.hid (And.intro hds (And.intro hin (And.intro hdl (And.intro hdw hts))))
      clear hG hdw hwx hds hts hin k4
      unfold cfv frv cvT at HAF
      have hw1 : IntKind.i64.wrap ((tb : Int) + 1) = ((tb + 1 : Nat) : Int) := by rw [IntKind.wrap_i64]; omega
      have hw2 : IntKind.i64.wrap ((ta : Int) + 1) = ((ta + 1 : Nat) : Int) := by rw [IntKind.wrap_i64]; omega
      have hact3 := hact
      have HACT := Lib.hid hact3
      go_upto_if 60 with fail
      go_cut [1] (fun s1 wx => ∃ A2 d2, s1 = .slice A2 N d2 ∧ Hid ((A2 = none → N = 0 ∧ d2 = 0) ∧ (0 < ds.length → ∀ b o, A2 = some ⟨b, o, none⟩ → b < w.heap.size ∨ fb + 1 < b) ∧ IsL wx A2 4 q4L ds ∧ Only (fun k => k = fb + 1) W3 wx ∧ wx.heap[fb + 1]? = some (.cells #[.int .i64 (ta' : Nat), .int .i64 (tb' : Nat), .int .i64 0] 62 (0, 0))))
      case first =>
        by_cases k2 : X.kind = 2
        · have k2' : ((X.kind : Int) == 2) = true := by simp [k2]
          have hres : ds = cs'.set X.pl (0, X.a, X.b, X.c) := by rw [← HDS.out.1, if_pos k2]
          have hrt : ta' = ta ∧ tb' = tb + 1 := by have := HDS.out.2.2.2.2; rw [if_pos k2] at this; injection this with h1 h2; exact ⟨h1.symm, h2.symm⟩
          have HRES := Lib.hid (And.intro hres hrt)
          clear k2 hres hrt
          have HJ3 := Lib.hid (fun o1 => HI3.out.below (below_one W3 o1))
          have hinl := HDS.out.2.1
          go_wp2_with (at_builtin
                       refine wpList_joinX (w0 := W3.alloc _) rfl (.tmp 61) (.tmp 62) _ rfl Tryd.underlying47 cellQ_info rfl (by decide) (B := W3.heap.size) (l := []) (m := cs') (A := A') (c := d') q4L_len rfl (World.ownsRow_lit W3 #[] 0 (Nat.le_refl _) (by unfold maxLen; omega) rfl) (hx_len v1 A' d') (hA_len v1 v4) (HJ3.out _) q4_one (len_le1 v1 hl) (len_le2 v1 hl) (by simp) (Below.refl _ _) ?_
                       intro v6' w6 hM6 hb6 hg6
                       obtain ⟨gq, cap, hv6, hgB, hgl, hfr, hIS⟩ := own_q4 (l := cs') hM6.out (by omega)
                       rw [v1] at hv6
                       subst hv6
                       have b1 := wr_cell hb6 a1
                       have b2 := wr_cell hb6 a2
                       have b3 := wr_cell hb6 a3
                       have b4 := wr_cell hb6 a4
                       have g5' := (hb6.block (fb + 1) (by omega)).trans (((below_one W3 _).block (fb + 1) s5).trans g5)
                       have s5' := (Array.getElem?_eq_some_iff.1 g5').1
                       obtain ⟨m0, l0, m1, l1, m2, l2⟩ := cells3 g5'
                       have o0 := isl_at hIS (List.getElem?_eq_getElem hinl) 0 _ rfl
                       rw [Nat.add_zero] at o0
                       have o1 := isl_at hIS (List.getElem?_eq_getElem hinl) 1 _ rfl
                       have o2 := isl_at hIS (List.getElem?_eq_getElem hinl) 2 _ rfl
                       have o3 := isl_at hIS (List.getElem?_eq_getElem hinl) 3 _ rfl
                       have hne : gq ≠ fb + 1 := by omega
                       have HQQ := Lib.hid (And.intro hgB (And.intro hIS (And.intro hb6 g5')))
                       clear hgB hIS hb6 hM6 hg6 a0 a1 a2 a3 a4 a5 a6 g5' n0 fz0 n1 fz1 n2 fz2)
          go_meet
          refine ⟨some ⟨gq, 0, none⟩, cap, rfl, Lib.hid ⟨nofun, fun hN b o e => ?_, ?_, ?_, ?_⟩⟩
          · injection e with e
            injection e with e _ _
            subst e
            have h1 := HQQ.out.1
            omega
          · rw [HRES.out.1]
            exact isl_only (set4z hinl HQQ.out.2.1 X.a X.b X.c) (only_set (Only.refl (fun k => k = fb + 1) _) _ _) (fun _ b o e hc => by injection e with e; injection e with e _ _; omega)
          · have h1 := HQQ.out.1
            refine only_set (Only.setCell (Only.setCell (Only.setCell (Only.setCell (Only.of_below _ (Below.trans (below_one W3 _) HQQ.out.2.2.1)) (.inr h1) _) (.inr h1) _) (.inr h1) _) (.inr h1) _) _ _
          · rw [HRES.out.2.1, HRES.out.2.2]
            exact st_of (bk_store (bk_other hne (bk_other hne (bk_other hne (bk_other hne HQQ.out.2.2.2)))) _ _) rfl
        · have k2' : ((X.kind : Int) == 2) = false := by simp; omega
          have hres : ds = cs' := by rw [← HDS.out.1, if_neg k2]
          have hrt : ta' = ta + 1 ∧ tb' = tb := by have := HDS.out.2.2.2.2; rw [if_neg k2] at this; injection this with h1 h2; exact ⟨h1.symm, h2.symm⟩
          have HRES := Lib.hid (And.intro hres hrt)
          clear k2 hres hrt
          go_wp2_with fail
          go_meet
          refine ⟨A', d', rfl, Lib.hid ⟨v4, ?_, ?_, only_set (Only.refl _ _) _ _, ?_⟩⟩
          · rw [HRES.out.1]; exact v5
          · rw [HRES.out.1]
            exact isl_only HI3.out (only_set (Only.refl (fun k => k = fb + 1) _) _ _) (fun hl b o e hc => by have := v5 hl b o e; have := g7; omega)
          · rw [HRES.out.2.1, HRES.out.2.2]
            exact st_of (bk_store g5 _ _) rfl
      case rest =>
        obtain ⟨A2, dd2, rfl, HWR⟩ := hcut
        obtain ⟨wb, hwb⟩ : ∃ Z, Z = wc := ⟨_, rfl⟩
        subst hwb
        obtain ⟨c1, c2, c3, c4, c5⟩ := HWR.out
        have HBb := Lib.hid (HB3.out.count (t' := (ta', tb')) c4 c5)
        have hactb := only_blk c4 HACT.out (by omega)
        have HIb := Lib.hid c3
        obtain ⟨bA, off, rfl, hel⟩ := c3 X.pl _ hx
        have e0' := hel 0 (.int .u64 (ct : Nat)) rfl
        rw [Nat.add_zero] at e0'
        have e1' := hel 1 (.int .u64 (ca : Nat)) rfl
        have e2' := hel 2 (.int .u64 (cb' : Nat)) rfl
        have e3' := hel 3 (.int .u64 (cc : Nat)) rfl
        have bAlt := World.block_lt_of_cell? _ _ e0'
        simp only at bAlt
        have O4 := HOb.out.below HBb.out.2.2.2.2.2.1
        clear k0 k1 k2 k3 k4 k5 k6 k7 k8 k9 k10 k11 r0 z0 r1 z1 r2 z2 t0 x0 t1 x1 t2 x2 q0 y0 q1 y1 q2 y2 q3 y3 q4 y4 q5 y5 q6 y6 q7 y7 q8 y8 q9 y9 q10 y10 n0 fz0 n1 fz1 n2 fz2 s1 s2 s3 s4 s5 g1 g2 g3 g4 g5 g6
        clear a0 a1 a2 a3 a4 a5 a6 c3 c4 c5 hel hx hact hact3 HACT HI3 HB3 HWR hb3 q3
        obtain ⟨a0, -, a1, -, a2, -, a3, -, a4, -, a5, -, a6, -⟩ := cells7 hactb
        have sa := (Array.getElem?_eq_some_iff.1 hactb).1
        clear hactb
        have hB := HBb.out
        obtain ⟨g1, g2, g3, g4, g5, g6, g7⟩ := hB
        unfold frA at g4
        obtain ⟨k0, k1, k2, k3, k4, k5, k6, k7, k8, k9, k10, k11⟩ := cells12 g1
        obtain ⟨r0, z0, r1, z1, r2, z2⟩ := cells3 g2
        obtain ⟨t0, x0, t1, x1, t2, x2⟩ := cells3 g3
        obtain ⟨q0, y0, q1, y1, q2, y2, q3, y3, q4, y4, q5, y5, q6, y6, q7, y7, q8, y8, q9, y9, q10, y10⟩ := cells11 g4
        obtain ⟨n0, fz0, n1, fz1, n2, fz2⟩ := cells3 g5
        have s1 := (Array.getElem?_eq_some_iff.1 g1).1
        have s2 := (Array.getElem?_eq_some_iff.1 g2).1
        have s3 := (Array.getElem?_eq_some_iff.1 g3).1
        have s4 := (Array.getElem?_eq_some_iff.1 g4).1
        have s5 := (Array.getElem?_eq_some_iff.1 g5).1
        have HFAR := Lib.hid (And.intro c1 c2)
        clear c1 c2
        go_upto_region 18 with fail
        go_cut [15, 16] (fun s15 s16 wx => ∃ g : Nat, s15 = .pointer (some ⟨g, 0, none⟩) ∧ s16 = .int .i64 e2 ∧ Hid (MidT wb G g wx))
        case first =>
          go_region_held3 (fun W => wb.heap.size ≤ W.heap.size ∧ ∀ b o, b < wb.heap.size → W.cell? ⟨b, o, none⟩ = wb.cell? ⟨b, o, none⟩)
            (first
              | with_reducible exact keep_set11 (keep_below hb5 (keep1 wb _)) _ (Nat.le_refl _) _ _ _ _ _ _ _ _ _ _ _
              | with_reducible exact keep0 wb
              | with_reducible exact keep1 wb _
              | with_reducible exact keep_below hb5 (keep1 wb _)
              | with_reducible exact keep_below hb5 (keep0 wb)
              | with_reducible exact keep_alloc (keep_below hb5 (keep0 wb)) _
              | fail)
            (first
              | ((with_reducible refine (HAF.out _ (by first | exact O4.drew' | exact (O4.alloc' _).drew')).mono ?_); rintro e w5 ⟨rfl, hb5⟩; have hq5 := held_cells hb5; obtain ⟨qa0, qf0, qa1, qf1, qa2, qf2, qa3, qf3, qa4, qf4, qa5, qf5, qa6, qf6, qa7, qf7, qa8, qf8, qa9, qf9, qa10, qf10⟩ := hq5)
              | ((with_reducible refine (HAF.out _ (by first | exact O4.drew' | exact (O4.alloc' _).drew')).mono ?_); rintro e w5 ⟨rfl, hb5⟩))
          all_goals
            go_wp2_with fail
            go_meet
            first
              | with_reducible exact ⟨_, rfl, rfl, Lib.hid (midT_first hb5)⟩
              | with_reducible exact ⟨_, rfl, rfl, Lib.hid (midT_last hb5)⟩
        case rest =>
          obtain ⟨g, rfl, rfl, HMid⟩ := hcut
          obtain ⟨wy, hwy⟩ : ∃ Z, Z = wc := ⟨_, rfl⟩
          subst hwy
          obtain ⟨m1, m2, m3, m4⟩ := HMid.out
          have HBy := Lib.hid (HBb.out.below m4)
          have HIy := Lib.hid (HIb.out.below m4)
          obtain ⟨dd0, dd1, ddd2, dd3, dd4, dd5, dd6, dd7, dd8, dd9, dd10⟩ := m1.cells
          clear k0 k1 k2 k3 k4 k5 k6 k7 k8 k9 k10 k11 r0 z0 r1 z1 r2 z2 t0 x0 t1 x1 t2 x2 q0 y0 q1 y1 q2 y2 q3 y3 q4 y4 q5 y5 q6 y6 q7 y7 q8 y8 q9 y9 q10 y10 n0 fz0 n1 fz1 n2 fz2 s1 s2 s3 s4 s5 g1 g2 g3 g4 g5 g6
          clear a0 a1 a2 a3 a4 a5 a6 sa e0' e1' e2' e3' bAlt HBb HIb HMid m4 O4
          have hB := HBy.out
          obtain ⟨g1, g2, g3, g4, g5, g6, g7⟩ := hB
          unfold frA at g4
          obtain ⟨k0, k1, k2, k3, k4, k5, k6, k7, k8, k9, k10, k11⟩ := cells12 g1
          obtain ⟨r0, z0, r1, z1, r2, z2⟩ := cells3 g2
          obtain ⟨t0, x0, t1, x1, t2, x2⟩ := cells3 g3
          obtain ⟨q0, y0, q1, y1, q2, y2, q3, y3, q4, y4, q5, y5, q6, y6, q7, y7, q8, y8, q9, y9, q10, y10⟩ := cells11 g4
          obtain ⟨n0, fz0, n1, fz1, n2, fz2⟩ := cells3 g5
          have s1 := (Array.getElem?_eq_some_iff.1 g1).1
          have s2 := (Array.getElem?_eq_some_iff.1 g2).1
          have s3 := (Array.getElem?_eq_some_iff.1 g3).1
          have s4 := (Array.getElem?_eq_some_iff.1 g4).1
          have s5 := (Array.getElem?_eq_some_iff.1 g5).1
          by_cases h2 : e2 = 0
          · subst h2
            rw [if_neg (by simp)] at hgo
            have HKK := Lib.hid (show 80 - (k + 1) = n by have := HNN.out; omega)
            have HGO := Lib.hid hgo
            have hfar := HFAR.out.2
            go_wp2_with fail
            go_roundw
            case rel =>
              refine ⟨k + 1, ds, G, ta', tb', some ⟨bA, off, none⟩, dd2, by omega, by go_num, rfl, Lib.hid ⟨by rw [HKK.out]; exact HGO.out, by omega, HDS.out.2.2.1, HDS.out.2.2.2.1, hfw, HFAR.out.1, HFAR.out.2, isl_only HIy.out (only_set (only_set (only_set (only_set (only_set (only_set (only_set (only_set (only_set (only_set (only_set (Only.refl (fun k => k = fb) wy) 0 (.int .u8 (G.kind : Nat))) 1 (.int .u32 (G.a : Nat))) 2 (.int .u32 (G.b : Nat))) 3 (.int .u8 (G.pc : Nat))) 4 (.int .u8 (G.i : Nat))) 5 (.int .u8 (G.j : Nat))) 6 (.int .u8 (G.n : Nat))) 7 (.int .u8 (G.p : Nat))) 8 (.int .u8 (G.h : Nat))) 9 (.int .u32 (G.x : Nat))) 10 (.int .u32 (G.y : Nat))) (fun hl b o e hc => by have := HFAR.out.2 hl b o e; omega), HBy.out.frame (only_set (only_set (only_set (only_set (only_set (only_set (only_set (only_set (only_set (only_set (only_set (Only.refl (fun k => k = fb) wy) 0 (.int .u8 (G.kind : Nat))) 1 (.int .u32 (G.a : Nat))) 2 (.int .u32 (G.b : Nat))) 3 (.int .u8 (G.pc : Nat))) 4 (.int .u8 (G.i : Nat))) 5 (.int .u8 (G.j : Nat))) 6 (.int .u8 (G.n : Nat))) 7 (.int .u8 (G.p : Nat))) 8 (.int .u8 (G.h : Nat))) 9 (.int .u32 (G.x : Nat))) 10 (.int .u32 (G.y : Nat))) (set11_heap g4 G)⟩⟩
            case measure => simp [RowKit.intOf]; omega
          · rw [if_pos h2] at hgo
            have h3 : (e2 != 0) = true := bne_iff_ne.2 h2
            clear h2
            go_upto_region 20 with fail
            go_region
            all_goals
              go_wp2_with fail
              rw [HP.out]
              refine ret_inG fun W' hW' => ?_
              have hRr := HBy.out.2.1
              have hRt := HBy.out.2.2.1
              have R1 : W'.heap[w.heap.size + 1 + 1]? = some (.cells #[.int .i64 0, .int .u32 0, .slice none 0 0] 58 (0, 0)) := by
                rw [hW']
                with_reducible first
                  | refine bk_drew (bk_other ?_ (bk_other ?_ (bk_other ?_ (st_of (bk_store (bk_store (bk_store hRr _ _) _ _) _ _) ?_))))
                  | refine bk_other ?_ (bk_other ?_ (bk_other ?_ (st_of (bk_store (bk_store (bk_store hRr _ _) _ _) _ _) ?_)))
                  | refine bk_drew (st_of (bk_store (bk_store (bk_store (bk_other ?_ (bk_other ?_ (bk_other ?_ hRr))) _ _) _ _) _ _) ?_)
                  | refine st_of (bk_store (bk_store (bk_store (bk_other ?_ (bk_other ?_ (bk_other ?_ hRr))) _ _) _ _) _ _) ?_
                all_goals first | rfl | omega
              have R2 : W'.heap[w.heap.size + 1 + 1 + 1]? = some (.cells #[.int .i64 (ta' : Nat), .int .i64 (tb' : Nat), .int .i64 0] 62 (0, 0)) := by
                rw [hW']
                with_reducible first
                  | refine bk_drew (bk_other ?_ (bk_other ?_ (bk_other ?_ (st_of (bk_store (bk_store (bk_store hRt _ _) _ _) _ _) ?_))))
                  | refine bk_other ?_ (bk_other ?_ (bk_other ?_ (st_of (bk_store (bk_store (bk_store hRt _ _) _ _) _ _) ?_)))
                  | refine bk_drew (st_of (bk_store (bk_store (bk_store (bk_other ?_ (bk_other ?_ (bk_other ?_ hRt))) _ _) _ _) _ _) ?_)
                  | refine st_of (bk_store (bk_store (bk_store (bk_other ?_ (bk_other ?_ (bk_other ?_ hRt))) _ _) _ _) _ _) ?_
                all_goals first | rfl | omega
              have R3 : Only (fun k => k = w.heap.size + 1 + 1 ∨ k = w.heap.size + 1 + 1 + 1) wy W' := by
                rw [hW']
                repeat' (first | with_reducible refine Only.drew ?_ | with_reducible refine only_set2 ?_ _ _ | with_reducible refine only_set2' ?_ _ _ | with_reducible exact Only.refl _ _)
              clear hW'
              obtain ⟨rr0, -, rr1, -, rr2, -⟩ := cells3 R1
              obtain ⟨tt0, -, tt1, -, tt2, -⟩ := cells3 R2
              subst hgo
              refine bodyPost_ret (v := .tuple #[.slice (some ⟨bA, off, none⟩) N dd2, .agg #[.int .i64 0, .int .u32 0, .slice none 0 0], .agg #[.int .i64 (ta' : Nat), .int .i64 (tb' : Nat), .int .i64 0], .bool false]) ?_ rfl ⟨some ⟨bA, off, none⟩, dd2, by simp [HDS.out.2.2.1], by rw [HDS.out.2.2.1]; exact HFAR.out.1, isl_only HIy.out R3 (fun hl b o e hc => by have := HFAR.out.2 hl b o e; omega), Only.then_below (Nat.le_refl _) HBy.out.2.2.2.2.2.1 R3 (fun k hk => by omega)⟩
              simp [results, Tryd.results19, go_sem, rr0, rr1, rr2, tt0, tt1, tt2]
    · obtain rfl : k = 80 := by omega
      have i2 : ¬ ((80 : Nat) : Int) < 80 := by decide
      have hB := HBr.out
      obtain ⟨g1, g2, g3, g4, g5, g6, g7⟩ := hB
      unfold frA at g4
      obtain ⟨k0, k1, k2, k3, k4, k5, k6, k7, k8, k9, k10, k11⟩ := cells12 g1
      obtain ⟨r0, z0, r1, z1, r2, z2⟩ := cells3 g2
      obtain ⟨t0, x0, t1, x1, t2, x2⟩ := cells3 g3
      obtain ⟨q0, y0, q1, y1, q2, y2, q3, y3, q4, y4, q5, y5, q6, y6, q7, y7, q8, y8, q9, y9, q10, y10⟩ := cells11 g4
      obtain ⟨n0, fz0, n1, fz1, n2, fz2⟩ := cells3 g5
      have s1 := (Array.getElem?_eq_some_iff.1 g1).1
      have s2 := (Array.getElem?_eq_some_iff.1 g2).1
      have s3 := (Array.getElem?_eq_some_iff.1 g3).1
      have s4 := (Array.getElem?_eq_some_iff.1 g4).1
      have s5 := (Array.getElem?_eq_some_iff.1 g5).1
      rw [Nat.sub_self] at hgo
      unfold goG at hgo
      go_upto_region 22 with fail
      go_region
      all_goals
        go_wp2_with fail
        rw [HP.out]
        refine ret_inG fun W' hW' => ?_
        have hRr := HBr.out.2.1
        have hRt := HBr.out.2.2.1
        have R1 : W'.heap[w.heap.size + 1 + 1]? = some (.cells #[.int .i64 0, .int .u32 0, .slice none 0 0] 58 (0, 0)) := by
          rw [hW']
          with_reducible first
            | refine bk_drew (bk_other ?_ (bk_other ?_ (bk_other ?_ (st_of (bk_store (bk_store (bk_store hRr _ _) _ _) _ _) ?_))))
            | refine bk_other ?_ (bk_other ?_ (bk_other ?_ (st_of (bk_store (bk_store (bk_store hRr _ _) _ _) _ _) ?_)))
            | refine bk_drew (st_of (bk_store (bk_store (bk_store (bk_other ?_ (bk_other ?_ (bk_other ?_ hRr))) _ _) _ _) _ _) ?_)
            | refine st_of (bk_store (bk_store (bk_store (bk_other ?_ (bk_other ?_ (bk_other ?_ hRr))) _ _) _ _) _ _) ?_
          all_goals first | rfl | omega
        have R2 : W'.heap[w.heap.size + 1 + 1 + 1]? = some (.cells #[.int .i64 (ta : Nat), .int .i64 (tb : Nat), .int .i64 0] 62 (0, 0)) := by
          rw [hW']
          with_reducible first
            | refine bk_drew (bk_other ?_ (bk_other ?_ (bk_other ?_ (st_of (bk_store (bk_store (bk_store hRt _ _) _ _) _ _) ?_))))
            | refine bk_other ?_ (bk_other ?_ (bk_other ?_ (st_of (bk_store (bk_store (bk_store hRt _ _) _ _) _ _) ?_)))
            | refine bk_drew (st_of (bk_store (bk_store (bk_store (bk_other ?_ (bk_other ?_ (bk_other ?_ hRt))) _ _) _ _) _ _) ?_)
            | refine st_of (bk_store (bk_store (bk_store (bk_other ?_ (bk_other ?_ (bk_other ?_ hRt))) _ _) _ _) _ _) ?_
          all_goals first | rfl | omega
        have R3 : Only (fun k => k = w.heap.size + 1 + 1 ∨ k = w.heap.size + 1 + 1 + 1) wr W' := by
          rw [hW']
          repeat' (first | with_reducible refine Only.drew ?_ | with_reducible refine only_set2 ?_ _ _ | with_reducible refine only_set2' ?_ _ _ | with_reducible exact Only.refl _ _)
        clear hW'
        obtain ⟨rr0, -, rr1, -, rr2, -⟩ := cells3 R1
        obtain ⟨tt0, -, tt1, -, tt2, -⟩ := cells3 R2
        subst hgo
        refine bodyPost_ret (v := .tuple #[.slice A' N d', .agg #[.int .i64 0, .int .u32 0, .slice none 0 0], .agg #[.int .i64 (ta : Nat), .int .i64 (tb : Nat), .int .i64 0], .bool false]) ?_ rfl ⟨A', d', by simp [v1], by rw [v1]; exact v4, isl_only HIr.out R3 (fun hl b o e hc => by have := v5 hl b o e; omega), Only.then_below (Nat.le_refl _) HBr.out.2.2.2.2.2.1 R3 (fun k hk => by omega)⟩
        simp [results, Tryd.results19, go_sem, rr0, rr1, rr2, tt0, tt1, tt2]

end Go.Proofs.YtljhcegkekdjgaaDoor
