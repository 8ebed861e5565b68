/- For every config, operation and cells: a program of a set of access rules that starts is done within its bound, touches cells that there are, and its frames fit into a cell; a check writes nothing. -/
import Derived.Test.YtljhcegkekdjgaaDoorGtAlive
import Derived.Test.YtljhcegkekdjgaaDoorGTab
import Derived.Test.YtljhcegkekdjgaaDoorGOpen
import Derived.Test.YtljhcegkekdjgaaDoorOpenCells
namespace Go.Proofs.YtljhcegkekdjgaaDoor.gateEnds
open Go.ChangeShapes Go.WideShapes Go.ChangeAt Go.RowKit Go.Lib Pt Opn

def cfA (c : Cf) : Array Value := #[.int .u8 c.obj, .int .i64 c.inst, .int .i64 c.thr, .int .u8 c.kind, .int .i64 c.str, .int .i64 c.bits, .int .i64 c.cap, .int .i64 c.node, .int .i64 c.bat, .int .i64 c.chunk, .int .u64 c.lim, .int .u64 c.most]
def opA (o : O) : Array Value := #[.int .u8 (o.k : Nat), .int .u32 (o.a : Nat), .int .u32 (o.b : Nat), .int .u32 (o.c : Nat)]
theorem cells4 {w : World} {g : Nat} {a b c d : Value} {t : TypeId} (hh : w.heap[g]? = some (.cells #[a, b, c, d] t (0, 0))) :
    w.cell? ⟨g, 0, none⟩ = some a ∧ w.frozen? ⟨g, 0, none⟩ = false ∧ w.cell? ⟨g, 1, none⟩ = some b ∧ w.frozen? ⟨g, 1, none⟩ = false ∧ w.cell? ⟨g, 2, none⟩ = some c ∧ w.frozen? ⟨g, 2, none⟩ = false ∧ w.cell? ⟨g, 3, none⟩ = some d ∧ w.frozen? ⟨g, 3, none⟩ = false := by
  refine ⟨?_, ?_, ?_, ?_, ?_, ?_, ?_, ?_⟩ <;> simp [World.cell?, World.frozen?, hh]
/-- What a round finds. -/
def InvE (c : Cf) (o : O) (w : World) (r fb M : Nat) (k : Nat) (f : Ds) (wr : World) : Prop :=
  DWf f ∧ GMay c f ∧ SmallG f ∧ f.kind = o.k ∧ leftG c f + k ≤ M ∧ Below w.heap.size w wr ∧ w.heap.size ≤ r ∧ r + 1 < fb ∧ wr.heap[r]? = some (.cells (cfA c) 30 (0, 0)) ∧ wr.heap[r + 1]? = some (.cells (opA o) 46 (0, 0)) ∧ wr.heap[fb]? = some (.cells (frA f) 32 (0, 0))

set_option maxRecDepth 100000 in
set_option maxHeartbeats 16000000 in
theorem walk (c : Cf) (o : O) (ho : Wf o) (A : Option Addr) (d : Nat) (l : List Q4) (hAn : A = none → l.length = 0 ∧ d = 0) (hq : ∀ x ∈ l, QWf x) (w : World) (hO : Obs w) (h : IsL w A 4 q4L l) :
    Calls Tryd.prog 6 #[cfv c, opv o, .slice A l.length d] w (Ret (.bool true) w) := by
  have HOb := Lib.hid hO
  obtain ⟨N, hN⟩ : ∃ N, l.length = N := ⟨_, rfl⟩
  rw [hN] at hAn ⊢
  have HI := Lib.hid (And.intro hN (And.intro hAn (And.intro hq h)))
  have HS := Lib.hid (fun W => gStart_any o ho W)
  have hwf : DWf (startF o) := by unfold Wf at ho; unfold DWf startF; simp only; omega
  have HN := Lib.hid (fun W hO => pNextG_any c (startF o) hwf W hO)
  have hst : (nextG c (startF o)).2 = 0 → Ok c ∧ c.obj = 3 ∧ GMay c (startF o) := fun h => by
    unfold nextG at h
    split at h
    · simp at h
    · rename_i h1
      split at h
      · simp at h
      · rename_i h2
        exact ⟨(Classical.not_not.1 h1).1, (Classical.not_not.1 h1).2, Classical.not_not.1 h2⟩
  obtain ⟨f0, hf0⟩ : ∃ f, startF o = f := ⟨_, rfl⟩
  have hk0 : f0.kind = o.k := by rw [← hf0]; rfl
  have hsm : SmallG f0 := by rw [← hf0]; exact smallG_start o
  have HLE := Lib.hid (leftG_start (c := c) (o := o))
  rw [hf0] at HS HN hst hwf HLE
  obtain ⟨⟨X0, e0⟩, hX0⟩ : ∃ z, nextG c f0 = z := ⟨_, rfl⟩
  rw [hX0] at HN hst
  simp only at hst
  have HST := Lib.hid (And.intro hst (And.intro hwf (And.intro hk0 hsm)))
  clear hO hN hAn hq h hX0 hf0 hst hwf hk0 hsm ho
  unfold cfv opv frv acv at *
  go_enter Tryd.func6, Tryd.ntmps6
  go_wp2_with fail
  refine (galive_any _ ((HOb.out.alloc' _).alloc' _)).mono ?_
  rintro e w1 ⟨rfl, hb1⟩
  have hr0 := (hb1.block w.heap.size (by simp; omega)).trans (heap_alloc2_old w _ _)
  have hr1 := (hb1.block (w.heap.size + 1) (by simp)).trans (heap_alloc2_new w _ _)
  have hB1 := below_then (below_two w _ _) hb1
  obtain ⟨k0, -, k1, -, k2, -, k3, -⟩ := cells4 hr1
  clear hb1
  go_wp2_with fail
  refine (HS.out _).mono ?_
  rintro e w2 ⟨rfl, hb2⟩
  have hs1 := (Array.getElem?_eq_some_iff.1 hr1).1
  replace hr0 := (hb2.block w.heap.size (by omega)).trans hr0
  replace hr1 := (hb2.block (w.heap.size + 1) hs1).trans hr1
  have hB2 := below_then hB1 hb2
  obtain ⟨c0, c1, c2, c3, c4, c5, c6, c7, c8, c9, c10, c11⟩ := cells12 hr0
  replace hs1 := (Array.getElem?_eq_some_iff.1 hr1).1
  have hs0 : w.heap.size < w2.heap.size := by omega
  clear k0 k1 k2 k3 hb2 hB1
  go_wp2_with fail
  refine (HN.out _ ((HOb.out.below hB2).alloc' _)).mono ?_
  rintro e w3 ⟨rfl, hb3⟩
  have hfb := (hb3.block w2.heap.size (by simp)).trans (heap_alloc_new w2 _)
  replace hr0 := (hb3.block w.heap.size (by simp; omega)).trans (((below_one w2 _).block w.heap.size (by omega)).trans hr0)
  replace hr1 := (hb3.block (w.heap.size + 1) (by simp; omega)).trans (((below_one w2 _).block (w.heap.size + 1) hs1).trans hr1)
  have hB3 := below_then (below_then hB2 (below_one _ _)) hb3
  have hsf := (Array.getElem?_eq_some_iff.1 hfb).1
  have HB3 := Lib.hid (And.intro hB3 (And.intro hr0 (And.intro hr1 (And.intro hfb (And.intro hsf hs1)))))
  clear c0 c1 c2 c3 c4 c5 c6 c7 c8 c9 c10 c11 hr0 hr1 hfb hsf hb3 hB2 hB3 hs0 hs1
  by_cases hN : 100 < N
  · have n1 : (100 : Int) < (N : Int) := by omega
    go_wp2_with fail
    go_ret
    exact Ret.mk rfl (below_then HB3.out.1 (below_one _ _))
  have n1 : ¬ (100 : Int) < (N : Int) := by omega
  by_cases he : e0 = 0
  case neg =>
    have n2 : (e0 != 0) = true := bne_iff_ne.2 he
    go_wp2_with fail
    go_ret
    exact Ret.mk rfl (below_then HB3.out.1 (below_one _ _))
  subst he
  obtain ⟨hok, hobj, hmay⟩ := HST.out.1 rfl
  have hbits : 1 ≤ c.cap ∧ c.cap ≤ 32 := by
    have := hok.2.2
    unfold RestOk at this
    omega
  obtain ⟨M, hM⟩ : ∃ M, c.cap.toNat + (if o.k = 11 then 0 else 1) = M := ⟨_, rfl⟩
  have hleft := HLE.out
  rw [hM] at hleft
  have HM := Lib.hid hM
  clear hM
  have h0 : InvE c o w w.heap.size w2.heap.size M 0 f0 (w3.alloc (.cells #[.int .u8 (X0.kind : Nat), .int .i64 (X0.pl : Nat), .int .u64 (X0.a : Nat), .int .u64 (X0.b : Nat), .int .u64 (X0.c : Nat), .int .i64 X0.code, .int .u32 (X0.v : Nat)] 26)) := by
    obtain ⟨g1, g2, g3, g4, g5, g6⟩ := HB3.out
    obtain ⟨-, q2, q3, q4⟩ := HST.out
    have hlt := (Array.getElem?_eq_some_iff.1 g2).1
    have hlt1 := (Array.getElem?_eq_some_iff.1 g3).1
    exact ⟨q2, hmay, q4, q3, by omega, below_then g1 (below_one _ _), Nat.le_refl _, by omega, ((below_one _ _).block _ hlt).trans g2, ((below_one _ _).block _ hlt1).trans g3, ((below_one _ _).block _ g5).trans g4⟩
  obtain ⟨a0, -, a1, -, a2, -, a3, -⟩ := cells4 h0.2.2.2.2.2.2.2.2.2.1
  obtain ⟨c0, c1, c2, c3, c4, c5, c6, c7, c8, c9, c10, c11⟩ := cells12 h0.2.2.2.2.2.2.2.2.1
  have H0 := Lib.hid h0
  have HOK := Lib.hid (And.intro hok (And.intro hobj hmay))
  clear h0 hok hobj hmay HST HLE HN HS hleft
  go_upto_if 45 with fail
  go_cut [11] (fun s11 wx => s11 = .int .i64 M ∧ Hid (InvE c o w w.heap.size w2.heap.size M 0 f0 wx))
  case first =>
    by_cases hk : o.k = 11
    · have n3 : ((o.k : Int) != 11) = false := by simp [hk]
      have m1 : c.cap = (M : Int) := by have := HM.out; rw [if_pos hk] at this; omega
      have HMM := Lib.hid m1
      clear hk m1
      go_wp2_with fail
      go_meet
      exact ⟨by rw [← HMM.out], H0⟩
    · have n3 : ((o.k : Int) != 11) = true := by simp; omega
      have m1 : c.cap + 1 = (M : Int) := by have := HM.out; rw [if_neg hk] at this; omega
      have HMM := Lib.hid m1
      clear hk m1
      go_wp2_with fail
      go_meet
      exact ⟨by rw [← HMM.out], H0⟩
  case rest =>
    obtain ⟨rfl, HC⟩ := hcut
    obtain ⟨wx, hwx⟩ : ∃ Z, Z = wc := ⟨_, rfl⟩
    subst hwx
    have hM20 : M ≤ 33 := by have := HM.out; split at this <;> omega
    clear H0 HM a0 a1 a2 a3 c0 c1 c2 c3 c4 c5 c6 c7 c8 c9 c10 c11
    go_wp2_with fail
    go_loopw [12] (fun u12 wr => ∃ (k : Nat) (f : Ds), k ≤ M ∧ u12 = .int .i64 k ∧ Hid (InvE c o w w.heap.size w2.heap.size M k f wr)) (fun iv _ => M + 1 - (RowKit.intOf iv).toNat)
    case atStart => exact ⟨0, f0, by omega, rfl, HC⟩
    case round =>
      obtain ⟨k, f, hk, rfl, HR⟩ := hrel
      clear HC
      have i1 : (0 : Int) ≤ (k : Int) := by omega
      have i2 : (k : Int) ≤ (M : Int) := by omega
      obtain ⟨v1, v2, v3, v4, v5, v6, v7, v8, v9, v10, v11⟩ := HR.out
      have HNX := Lib.hid (pNextG_any c f v1 wr (HOb.out.below v6))
      have hnx : nextG c f = (actG f, 0) := by unfold nextG; rw [if_neg (fun h => h ⟨HOK.out.1, HOK.out.2.1⟩), if_neg (fun h => h v2)]
      rw [hnx] at HNX
      have hdf := smallG_fits HOK.out.1 HOK.out.2.1 v2 v3
      have HLD := Lib.hid (fun W => gLaid_any f v1 W)
      have hld : laidD f = ((f.tag, dA f, dB f, dC f), 0) := by unfold laidD; rw [if_pos hdf]
      rw [hld] at HLD
      have HVV := Lib.hid (And.intro v1 (And.intro v2 (And.intro v3 (And.intro v4 (And.intro v5 (And.intro v7 v8))))))
      obtain ⟨t1, t2, t3, -⟩ := v3
      unfold dsv clv at HLD
      simp only [t1, t2, t3] at HLD
      have hbA := behindG_may HOK.out.2.1 v2
      have HBM := Lib.hid (fun A B C => hbA A B C)
      have HPL := Lib.hid (fun h => actG_place HOK.out.1 HOK.out.2.1 v2 h)
      have HZ := Lib.hid (fun h => leftG_zero v2 h)
      obtain ⟨X, hX⟩ : ∃ X, actG f = X := ⟨_, rfl⟩
      rw [hX] at HNX
      have HX := Lib.hid hX
      obtain ⟨c0, c1, c2, c3, c4, c5, c6, c7, c8, c9, c10, c11⟩ := cells12 v9
      obtain ⟨a0, -, a1, -, a2, -, a3, -⟩ := cells4 v10
      obtain ⟨q0, y0, q1, y1, q2, y2, q3, y3, q4, y4, q5, y5, q6, y6, q7, y7, q8, y8, q9, y9, q10, y10⟩ := cells11 v11
      have HV := Lib.hid (And.intro v6 (And.intro v9 (And.intro v10 v11)))
      have s0 := (Array.getElem?_eq_some_iff.1 v11).1
      have s6 : w.heap.size + 1 < w2.heap.size := v8
      have s1 : w.heap.size + 1 < wr.heap.size := by omega
      have s2 : w.heap.size < wr.heap.size := by omega
      clear v1 v2 v4 v5 v7 v8 v6 v9 v10 v11 hnx hld hdf hbA hX t1 t2 t3 HR
      unfold acv cfv frv at HNX
      go_wp2_with fail
      refine HNX.out.mono ?_
      rintro e w4 ⟨rfl, hb4⟩
      obtain ⟨hc4, hf4⟩ := bcell hb4
      have s3 : w2.heap.size < w4.heap.size := Nat.lt_of_lt_of_le s0 hb4.size
      have s4 : w.heap.size + 1 < w4.heap.size := by omega
      have s5 : w.heap.size < w4.heap.size := by omega
      go_wp2_with fail
      refine (HLD.out _).mono ?_
      rintro e w5 ⟨rfl, hb5⟩
      have hact := (hb5.block w4.heap.size (by simp)).trans (heap_alloc_new w4 _)
      have hB5 := below_then hb4 (below_then (below_one w4 _) hb5)
      have hlt5 : wr.heap.size ≤ w5.heap.size := hB5.size
      have h5 := (Array.getElem?_eq_some_iff.1 hact).1
      obtain ⟨x0, -, x1, -, x2, -, x3, -, x4, -, x5, -, x6, -⟩ := cells7 hact
      have HV5 := Lib.hid (And.intro hB5 hact)
      clear hb5 hb4 hc4 hf4 hact hB5 c0 c1 c2 c3 c4 c5 c6 c7 c8 c9 c10 c11 a0 a1 a2 a3 q0 y0 q1 y1 q2 y2 q3 y3 q4 y4 q5 y5 q6 y6 q7 y7 q8 y8 q9 y9 q10 y10
      by_cases k4 : X.kind = 4
      · have k4' : ((X.kind : Int) == 4) = true := by simp [k4]
        clear k4
        go_wp2_with fail
        go_ret
        exact Ret.mk rfl (HV.out.1.trans ((HV5.out.1.mono HV.out.1.size).trans ((below_one w5 _).mono (by have := HV.out.1.size; omega))))
      · have k4' : ((X.kind : Int) == 4) = false := by simp; omega
        go_upto_region 18 with fail
        obtain ⟨p2', hk12⟩ := HPL.out (by rw [HX.out]; exact k4)
        rw [HX.out] at p2' hk12
        clear k4
        have p1 : ¬ (X.pl : Int) < 0 := by omega
        have p2 : ¬ c.cap ≤ (X.pl : Int) := by omega
        have hb6 := below_one w5 (.cells #[.int .u64 0, .int .u64 (dA f : Nat), .int .u64 (dB f : Nat), .int .u64 (dC f : Nat)] 37)
        go_cut [99] (fun s99 wx => s99 = .bool false ∧ Hid (Below w5.heap.size w5 wx))
        case first =>
          obtain ⟨W6, hW6⟩ : ∃ W6, w5.alloc (.cells #[.int .u64 0, .int .u64 (dA f : Nat), .int .u64 (dB f : Nat), .int .u64 (dC f : Nat)] 37) = W6 := ⟨_, rfl⟩
          rw [hW6] at hb6
          have e6 : w5.alloc (.cells #[.int .u64 0, .int .u64 (dA f : Nat), .int .u64 (dB f : Nat), .int .u64 (dC f : Nat)] 37) = W6 := hW6
          have hh := hb6.size
          have r0 := (hb6.block w.heap.size (by omega)).trans ((HV5.out.1.block w.heap.size s2).trans HV.out.2.1)
          have r1 := (hb6.block (w.heap.size + 1) (by omega)).trans ((HV5.out.1.block (w.heap.size + 1) s1).trans HV.out.2.2.1)
          obtain ⟨c0, c1, c2, c3, c4, c5, c6, c7, c8, c9, c10, c11⟩ := cells12 r0
          obtain ⟨a0, -, -⟩ := cells4 r1
          have y0 := (hb6.cell (p := ⟨w4.heap.size, 0, none⟩) h5).trans x0
          have y1 := (hb6.cell (p := ⟨w4.heap.size, 1, none⟩) h5).trans x1
          clear x0 x1 x2 x3 x4 x5 x6 r0 r1
          have hok3 := HVV.out.2.2.2.1
          have HK3 := Lib.hid hok3
          rw [e6]
          have HB6 := Lib.hid hb6
          clear hW6 e6 hok3 hb6
          rcases hk12 with h1 | ⟨h1, h2⟩
          · have k1 : ((X.kind : Int) != 1) = false := by simp [h1]
            clear h1
            go_wp2_with fail
            go_meet
            exact ⟨by first | rfl | exact congrArg Value.bool (by simp; omega), HB6⟩
          · have k1 : ((X.kind : Int) != 1) = true := by simp [h1]
            have k2 : ((X.kind : Int) != 2) = false := by simp [h1]
            have k3 : ((o.k : Int) == 11) = false := by rw [HK3.out] at h2; simp; omega
            clear h1 h2
            go_wp2_with fail
            go_meet
            exact ⟨by first | rfl | exact congrArg Value.bool (by simp; omega), HB6⟩
        case rest =>
          obtain ⟨rfl, HW7⟩ := hcut
          obtain ⟨w7, hw7⟩ : ∃ Z, Z = wc := ⟨_, rfl⟩
          subst hw7
          have hB7 : Below wr.heap.size wr w7 := below_then HV5.out.1 HW7.out
          have HIX := Lib.hid (show IsL w7 A 4 q4L l from (HI.out.2.2.2.below HV.out.1).below hB7)
          have HB7 := Lib.hid hB7
          clear x0 x1 x2 x3 x4 x5 x6 hb6 p1 p2 p2' hk12 h5 hB7
          go_upto_if 103 with fail
          go_cut [11] (fun s11 wx => ∃ t a b cc : Nat, s11 = .int .i64 M ∧ Hid (QWf (t, a, b, cc) ∧ wx.heap[w7.heap.size]? = some (.cells #[.int .u64 t, .int .u64 a, .int .u64 b, .int .u64 cc] 37 (0, 0)) ∧ Below w7.heap.size w7 wx))
          case first =>
            by_cases hn0 : N = 0
            · have n0 : ¬ (0 : Int) < (N : Int) := by omega
              have n0' : ¬ 0 < N := by omega
              clear hn0
              go_wp2_with fail
              go_meet
              exact ⟨0, 0, 0, 0, rfl, Lib.hid ⟨by unfold QWf; simp, heap_alloc_new _ _, below_one _ _⟩⟩
            · have n0 : (0 : Int) < (N : Int) := by omega
              have n0' : 0 < N := by omega
              have n1' : ¬ (N : Int) = 0 := by omega
              have hj : k % N < N := Nat.mod_lt _ n0'
              have e1 : (k : Int).tmod (N : Int) = ((k % N : Nat) : Int) := by rw [Int.tmod_eq_emod_of_nonneg (by omega)]; exact (Int.natCast_emod k N).symm
              have e2 : (k : Int) % (N : Int) = ((k % N : Nat) : Int) := (Int.natCast_emod k N).symm
              obtain ⟨j, hjj⟩ : ∃ j, k % N = j := ⟨_, rfl⟩
              rw [hjj] at hj e1 e2
              have j1 : (0 : Int) ≤ (j : Int) := by omega
              have j2 : (j : Int) < (N : Int) := by omega
              obtain ⟨⟨xt, xa, xb, xc⟩, hx⟩ : ∃ x, l[j]? = some x := ⟨_, List.getElem?_eq_getElem (by rw [HI.out.1]; exact hj)⟩
              obtain ⟨bA, off, rfl, hel⟩ := HIX.out j _ hx
              have z0 := hel 0 _ rfl
              have z1 := hel 1 _ rfl
              have z2 := hel 2 _ rfl
              have z3 := hel 3 _ rfl
              rw [Nat.add_zero] at z0
              have hlt := World.block_lt_of_cell? _ _ z0
              simp only at hlt
              have HQX := Lib.hid (HI.out.2.2.1 _ (List.mem_of_getElem? hx))
              clear hx hel hjj hn0
              go_wp2_with fail
              go_meet
              exact ⟨xt, xa, xb, xc, rfl, Lib.hid ⟨HQX.out, heap_alloc_new _ _, below_one _ _⟩⟩
          case rest =>
            obtain ⟨xt, xa, xb, xc, rfl, HW8⟩ := hcut
            obtain ⟨w8, hw8⟩ : ∃ Z, Z = wc := ⟨_, rfl⟩
            subst hw8
            obtain ⟨hqx, hxr, hb8⟩ := HW8.out
            unfold QWf at hqx
            simp only at hqx
            have hB8 : Below wr.heap.size wr w8 := below_then HB7.out hb8
            have hBw : Below w.heap.size w w8 := HV.out.1.trans (hB8.mono HV.out.1.size)
            obtain ⟨v1, v2, v3, v4, v5, v7, v8⟩ := HVV.out
            have haf : afterG c f xa xb xc = (behindG c f xa xb xc, 0) := by unfold afterG; rw [if_neg (fun h => h ⟨HOK.out.1, HOK.out.2.1⟩), if_neg (fun h => h v2)]
            have HAF := Lib.hid (pAfterG_any c f v1 xt xa xb xc w8 (HOb.out.below hBw))
            have hwf' := afterG_wf (c := c) v1 xa xb xc
            rw [haf] at HAF hwf'
            simp only at hwf'
            have hop := behindG_op c f xa xb xc
            have hmay := HBM.out xa xb xc
            have hsm := smallG_behind (c := c) v3 xa xb xc
            have hdec := (behindG_fine HOK.out.2.1 v2 xa xb xc).2.2
            rw [HX.out] at hdec
            have hne4 : X.kind ≠ 4 := by have := k4'; simp at this; omega
            have hdec2 := hdec hne4
            have hk1 : leftG c (behindG c f xa xb xc) + (k + 1) ≤ M := by omega
            have hkm : k + 1 ≤ M := by omega
            obtain ⟨G, hG⟩ : ∃ G, behindG c f xa xb xc = G := ⟨_, rfl⟩
            rw [hG] at HAF hwf' hop hmay hsm hk1
            have r0 := (hB8.block w.heap.size s2).trans HV.out.2.1
            have r1 := (hB8.block (w.heap.size + 1) s1).trans HV.out.2.2.1
            have rf := (hB8.block w2.heap.size s0).trans HV.out.2.2.2
            obtain ⟨c0, c1, c2, c3, c4, c5, c6, c7, c8, c9, c10, c11⟩ := cells12 r0
            obtain ⟨q0, -, q1, -, q2, -, q3, -, q4, -, q5, -, q6, -, q7, -, q8, -, q9, -, q10, -⟩ := cells11 rf
            obtain ⟨x0, -, x1, -, x2, -, x3, -⟩ := cells4 hxr
            have HN := Lib.hid (And.intro hwf' (And.intro hmay (And.intro hsm (And.intro (hop.1.trans v4) (And.intro hk1 (And.intro hkm (And.intro hBw (And.intro r0 (And.intro r1 rf)))))))))
            have t0 := (Array.getElem?_eq_some_iff.1 rf).1
            clear HIX HW7 HW8 hqx hxr hb8 hB8 hBw v1 v2 v3 v4 v5 v7 v8 haf hwf' hop hmay hsm hdec hne4 hdec2 hk1 hkm hG r0 r1 rf HPL HZ HBM HLD HNX HX k4'
            unfold cfv frv at HAF
            go_wp2_with fail
            refine HAF.out.mono ?_
            rintro e w9 ⟨rfl, hb9⟩
            obtain ⟨n1', n2', n3', n4', n5', n6', n7', n8, n9, n10⟩ := HN.out
            have m0 := (hb9.block w.heap.size (Array.getElem?_eq_some_iff.1 n8).1).trans n8
            have m1 := (hb9.block (w.heap.size + 1) (Array.getElem?_eq_some_iff.1 n9).1).trans n9
            have m2 := (hb9.block w2.heap.size t0).trans n10
            obtain ⟨tt0, tf0, tt1, tf1, tt2, tf2, tt3, tf3, tt4, tf4, tt5, tf5, tt6, tf6, tt7, tf7, tt8, tf8, tt9, tf9, tt10, tf10⟩ := cells11 m2
            have t9 := (Array.getElem?_eq_some_iff.1 m2).1
            have HN9 := Lib.hid (And.intro m0 (And.intro m1 (And.intro m2 hb9)))
            clear c0 c1 c2 c3 c4 c5 c6 c7 c8 c9 c10 c11 q0 q1 q2 q3 q4 q5 q6 q7 q8 q9 q10 x0 x1 x2 x3 n1' n2' n3' n4' n5' n6' n7' n8 n9 n10 m0 m1 m2 hb9
            go_wp2_with fail
            go_roundw
            case rel =>
              refine ⟨k + 1, G, HN.out.2.2.2.2.2.1, by go_num, Lib.hid ?_⟩
              obtain ⟨n1', n2', n3', n4', n5', n6', n7', n8, n9, n10⟩ := HN.out
              obtain ⟨m0, m1, m2, hb9⟩ := HN9.out
              have hgr := set11_grown w9 w2.heap.size (.int .u8 (G.kind : Nat)) (.int .u32 (G.a : Nat)) (.int .u32 (G.b : Nat)) (.int .u8 (G.pc : Nat)) (.int .u8 (G.i : Nat)) (.int .u8 (G.j : Nat)) (.int .u8 (G.n : Nat)) (.int .u8 (G.p : Nat)) (.int .u8 (G.h : Nat)) (.int .u32 (G.x : Nat)) (.int .u32 (G.y : Nat))
              unfold frA at m2
              have m3 := set11_heap m2 G
              have hbw9 := below_then n7' hb9
              have hbS := hbw9.grown hgr hbw9.size (fun q hq => by injection hq; omega)
              have e0 := (hgr.block w.heap.size (by omega) (fun e => by injection e; omega)).trans m0
              have e1 := (hgr.block (w.heap.size + 1) (by omega) (fun e => by injection e; omega)).trans m1
              exact ⟨n1', n2', n3', n4', n5', hbS.alloc hbS.size _, Nat.le_refl _, s6, ((below_one _ _).block _ (Array.getElem?_eq_some_iff.1 e0).1).trans e0, ((below_one _ _).block _ (Array.getElem?_eq_some_iff.1 e1).1).trans e1, ((below_one _ _).block _ (Array.getElem?_eq_some_iff.1 m3).1).trans m3⟩
            case measure => simp [RowKit.intOf]; omega

set_option maxRecDepth 100000 in
theorem lifted (os : Os) (started : os.Started) (H : Type) (enc : TypeId × Value → H) :
    ReturnsInHanded {} Tryd.checked os 6 .any (fun w args => (Rows.gateEndsSpec.pre enc Tryd.prog Tryd.f6 [] false w args ∧ laidMetH Tryd.prog laidL w) ∧ sizedMet enc Tryd.prog Tryd.f6 (OpenSpec.ofChange Rows.gateEndsSpec) false w args)
      (Rows.gateEndsSpec.post enc Tryd.prog Tryd.f6 false true false false) := by
  refine returnsInHanded_of_change_and (C := Tryd.checked) (X := fun w _ => laidMetH Tryd.prog laidL w) (fun _ _ _ hh h => h.of_heap hh) own started (by kernel_rfl) Tryd.func6
    (ChangeSpec.witness_shaped (enc := enc) (C := Tryd.checked) (os := os) (X := fun w _ => laidMetH Tryd.prog laidL w) false (World.doorLaid Tryd.prog 400 os) #[.agg #[.int .u8 0, .int .i64 0, .int .i64 0, .int .u8 0, .int .i64 0, .int .i64 0, .int .i64 0, .int .i64 0, .int .i64 0, .int .i64 0, .int .u64 0, .int .u64 0], .agg #[.int .u8 0, .int .u32 0, .int .u32 0, .int .u32 0], .slice none 0 0] 8 rfl (World.shaped_of_RefB (by kernel_rfl) (by kernel_rfl)) (by kernel_rfl) (by kernel_rfl) (by kernel_rfl) (door_met os _)) ?_
  intro W base args ds gs before hval0 hW _ _ hL _
  refine law_of laidOut (by kernel_rfl) (by kernel_rfl) Tryd.underlying4 rfl ?_ hW fun p hA => ?_
  · intro ds hd
    match ds, hd with
    | [_, _, _], _ => rfl
  have hval' : ∀ (j : Nat) t v, Tryd.f6.params[j]? = some t → args[j]? = some v → Value.okWide Tryd.prog W .any base t v := hval0
  rw [Tryd.params6] at hA hval'
  obtain ⟨v0, vs0, d0, ds0, p0, q0, hargs, rfl, rfl, h0, r0⟩ := trodAll_cons hA
  obtain ⟨v1, vs1, d1, ds1, p1, q1, rfl, rfl, rfl, h1, r1⟩ := trodAll_cons r0
  obtain ⟨v2, vs2, d2, ds2, p2, q2, rfl, rfl, rfl, h2, r2⟩ := trodAll_cons r1
  obtain ⟨rfl, rfl, rfl⟩ := trodAll_nil r2
  obtain rfl : args = #[v0, v1, v2] := by cases args; simp_all
  obtain ⟨c, rfl⟩ := open_cfg (hval' 0 _ v0 rfl rfl) h0
  obtain ⟨o, ho, rfl⟩ := open_op (hval' 1 _ v1 rfl rfl) h1
  obtain ⟨A, d, l, rfl, hAn, hq, hl⟩ := open_cells (hval' 2 _ v2 rfl rfl) h2
  exact walk c o ho A d l hAn hq W (of_laid hL) hl

theorem row : Rows.GateEndsSaid :=
  OpenClaim.holds_of_wide 6 Tryd.f6 rfl rfl rfl rfl rfl rfl rfl ⟨rfl, rfl, rfl, rfl, rfl⟩ rfl rfl rfl rfl rfl (by kernel_rfl) Tryd.func6 (by kernel_rfl)
    (of_decide_eq_true (by kernel_rfl)) (by unfold Func.isWrapper; first | (rw [if_pos (by decide +kernel)]; kernel_rfl) | (rw [if_neg (by decide +kernel)]; exact ⟨rfl, rfl⟩))
    (fun os started H enc _ => lifted os started H enc)

theorem card : Rows.GateEndsCardSaid :=
  Claim7.holds_tied_plain_at .later [] [.data] true Rows.gateEndsCard.stood.harness false
    row (fun _ h => by cases h) (by kernel_rfl) (fun _ h => by cases h) gateEnds_row_tie rfl ⟨rfl, rfl⟩ (by kernel_rfl) rfl
    (fun f fn hf hfn => by
      obtain rfl : f = 6 := Option.some.inj ((show Tryd.prog.funcNamed "bascule/basculelaw14.GateEnds" = some 6 by kernel_rfl).symm.trans hf) |>.symm
      obtain rfl : fn = Tryd.f6 := (Option.some.inj (Tryd.func6.symm.trans hfn)).symm
      exact ⟨by kernel_rfl, fun j t ht => by
        rw [Tryd.params6] at ht
        have hm : t ∈ [30, 46, 47] := by simpa using Array.mem_of_getElem? ht
        have hall : ([30, 46, 47].all fun u => !Tryd.prog.wantsStandIn u) = true := by kernel_rfl
        exact (show Tryd.prog.wantsStandIn t = false by simpa using List.all_eq_true.1 hall t hm)⟩)
    (by kernel_rfl)
#print axioms card

end Go.Proofs.YtljhcegkekdjgaaDoor.gateEnds
