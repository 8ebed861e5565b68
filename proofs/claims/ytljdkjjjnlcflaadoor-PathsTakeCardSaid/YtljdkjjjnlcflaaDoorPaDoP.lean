/- The program's own Is and Do of a tree of settings: what is refused, what does not fit, a setting, a taking out, a reading. -/
import Derived.Test.YtljdkjjjnlcflaaDoorRowProg
import Derived.Test.YtljdkjjjnlcflaaDoorPaFacts
import Derived.Test.YtljdkjjjnlcflaaDoorOpChk
import Derived.Test.YtljdkjjjnlcflaaDoorObLaid
import Derived.Test.YtljdkjjjnlcflaaDoorPqSet
import Derived.Test.YtljdkjjjnlcflaaDoorPqUnset
import Derived.Test.YtljdkjjjnlcflaaDoorClone
namespace Go.Proofs.YtljdkjjjnlcflaaDoor
open Go.RowKit Go.Lib Tb Pt Opn

set_option maxRecDepth 100000 in
set_option maxHeartbeats 1000000 in
theorem paIs_any (c : Cf) (A : Option Addr) (l : List R) (d : Nat) (hl : l.length ≤ 1000000) (hw64 : ∀ x ∈ l, x.1 < 18446744073709551616) (w : World) (h : IsR w A l) :
    Calls Tryd.prog 13 #[cfv c, .slice A l.length d] w (Ret (.bool (ptB c l)) w) := by
  have HI := Lib.hid (qisOf_any c)
  have HA := Lib.hid h
  by_cases hg : Ok c ∧ c.obj = 4
  · have HR := Lib.hid (fun W hA => pare_any c A l d hl hw64 W hA)
    have e : ptB c l = decide ((l.length : Int) ≤ c.cap ∧ Up l ∧ ∀ x ∈ l, PaOk x ∧ Kin l x.1) := by
      unfold ptB; rw [Bool.eq_iff_iff, decide_eq_true_iff, decide_eq_true_iff]; unfold IsPt
      exact ⟨fun g => g.2.2, fun g => ⟨hg.1, hg.2, g⟩⟩
    rw [← e] at HR
    rw [decide_eq_true hg] at HI
    clear e hg h hw64
    generalize ptB c l = u at *
    generalize l.length = N at *
    unfold cfv at *
    go_enter Tryd.func13, Tryd.ntmps13
    go_wp2_with (first
      | (go_at_call 21; refine (HI.out _).mono ?_; rintro e w1 ⟨rfl, hb1⟩; obtain ⟨hc1, hf1⟩ := bcell hb1)
      | (go_at_call 22; refine (HR.out _ (HA.out.below (below_b1 hb1))).mono ?_; rintro e w2 ⟨rfl, hb2⟩))
    go_ret
    exact Ret.mk rfl (below_then (below_b1 hb1) hb2)
  · have e : ptB c l = false := ptB_false fun k => hg ⟨k.1, k.2.1⟩
    rw [e]
    rw [decide_eq_false hg] at HI
    clear e hg hw64
    generalize l.length = N at *
    unfold cfv at *
    go_enter Tryd.func13, Tryd.ntmps13
    go_wp2_with (go_at_call 21; refine (HI.out _).mono ?_; rintro e w1 ⟨rfl, hb1⟩)
    go_ret
    exact Ret.mk rfl (below_b1 hb1)

set_option maxRecDepth 100000 in
set_option maxHeartbeats 4000000 in
theorem pdo_conf (c : Cf) (A : Option Addr) (N d : Nat) (o : O) (hno : ¬ (Ok c ∧ c.obj = 4)) (w : World) :
    Calls Tryd.prog 9 #[cfv c, .slice A N d, opv o] w (Did4 ([], 0, 0) 40 w) := by
  have HM := Lib.hid (qisOf_any c)
  rw [decide_eq_false hno] at HM
  clear hno
  unfold cfv opv at *
  go_enter Tryd.func9, Tryd.ntmps9
  go_wp2_with (go_at_call 21; refine (HM.out _).mono ?_; rintro e w1 ⟨rfl, hb1⟩; obtain ⟨hc1, hf1⟩ := bcell hb1)
  refine bodyPost_ret (v := .tuple #[.slice none 0 0, .agg #[.int .i64 0, .int .u32 0, .slice none 0 0], .int .i64 40]) ?_ rfl ⟨_, rfl, MadeX.nil _ _ _ _ _, ?_⟩
  · simp [results, Tryd.results9, go_sem, hc1]
  · exact (((below_then (below_three _ _ _ _) hb1).setCell (by simp; omega) _).setCell (by simp; omega) _).setCell (by simp; omega) _

set_option maxRecDepth 100000 in
set_option maxHeartbeats 4000000 in
theorem pdo_arg (c : Cf) (A : Option Addr) (l : List R) (d : Nat) (o : O) (hl : l.length ≤ 1000000) (hw64 : ∀ x ∈ l, x.1 < 18446744073709551616) (hg : Ok c ∧ c.obj = 4) (hno : ¬ IsPt c l) (w : World) (h : IsR w A l) :
    Calls Tryd.prog 9 #[cfv c, .slice A l.length d, opv o] w (Did4 ([], 0, 0) 2 w) := by
  have HM := Lib.hid (qisOf_any c)
  rw [decide_eq_true hg] at HM
  have HR := Lib.hid (fun W hA => pare_any c A l d hl hw64 W hA)
  have e : decide ((l.length : Int) ≤ c.cap ∧ Up l ∧ ∀ x ∈ l, PaOk x ∧ Kin l x.1) = false := decide_eq_false fun g => hno ⟨hg.1, hg.2, g.1, g.2.1, g.2.2⟩
  rw [e] at HR
  have HA := Lib.hid h
  clear e hg hno h hw64
  generalize l.length = N at *
  unfold cfv opv at *
  go_enter Tryd.func9, Tryd.ntmps9
  go_wp2_with (first
    | (go_at_call 21; refine (HM.out _).mono ?_; rintro e w1 ⟨rfl, hb1⟩; obtain ⟨hc1, hf1⟩ := bcell hb1)
    | (go_at_call 22; refine (HR.out _ (HA.out.below (below_then (below_three _ _ _ _) hb1))).mono ?_; rintro e w2 ⟨rfl, hb2⟩; replace hb1 := below_then hb1 hb2; clear hc1 hf1 hb2; obtain ⟨hc1, hf1⟩ := bcell hb1))
  refine bodyPost_ret (v := .tuple #[.slice none 0 0, .agg #[.int .i64 0, .int .u32 0, .slice none 0 0], .int .i64 2]) ?_ rfl ⟨_, rfl, MadeX.nil _ _ _ _ _, ?_⟩
  · simp [results, Tryd.results9, go_sem, hc1]
  · exact (((below_then (below_three _ _ _ _) hb1).setCell (by simp; omega) _).setCell (by simp; omega) _).setCell (by simp; omega) _

set_option maxRecDepth 100000 in
set_option maxHeartbeats 4000000 in
theorem pdo_bad (c : Cf) (A : Option Addr) (l : List R) (d : Nat) (o : O) (ho : Wf o) (hAn : A = none → l.length = 0 ∧ d = 0) (hl : l.length ≤ 100000) (hw64 : ∀ x ∈ l, x.1 < 18446744073709551616) (ht : IsPt c l) (hbad : chk c o ≠ 0) (w : World) (hp : Obs w) (h : IsR w A l) :
    Calls Tryd.prog 9 #[cfv c, .slice A l.length d, opv o] w (Did4 (l, chk c o, 0) 0 w) := by
  have HM := Lib.hid (qisOf_any c)
  have hg : Ok c ∧ c.obj = 4 := ⟨ht.1, ht.2.1⟩
  rw [decide_eq_true hg] at HM
  obtain ⟨cap, hcap⟩ : ∃ cap : Nat, c.cap = cap := by
    have hb := hg.1.2.2
    unfold RestOk at hb
    exact ⟨c.cap.toNat, by omega⟩
  have HR := Lib.hid (fun W hA => pare_any c A l d (by omega) hw64 W hA)
  have e : decide ((l.length : Int) ≤ c.cap ∧ Up l ∧ ∀ x ∈ l, PaOk x ∧ Kin l x.1) = true := decide_eq_true ⟨ht.2.2.1, ht.2.2.2.1, ht.2.2.2.2⟩
  rw [e] at HR
  have HA := Lib.hid h
  have HCL := Lib.hid (fun W hA => clone_any A l d (by omega) hAn W hA)
  have HCK := Lib.hid (check_op c o ho)
  have HP := Lib.hid hp
  have hob := hg.2
  have hlc : l.length ≤ cap := by have := ht.2.2.1; omega
  have HV := Lib.hid (And.intro ht.2.2.2.1 (show ∀ x ∈ l, x.2 ≤ 2147483648 from fun x hx => (ht.2.2.2.2 x hx).1.2))
  have hbad2 : (chk c o != 0) = true := bne_iff_ne.2 hbad
  generalize chk c o = x at *
  clear e h ht hAn ho hp hg hw64
  unfold cfv opv at *
  rw [hob] at HM HR HCK ⊢
  rw [hcap] at HM HR HCK ⊢
  clear hob hcap
  generalize hN : l.length = N at *
  have HNL := Lib.hid hN
  clear hN
  go_enter Tryd.func9, Tryd.ntmps9
  go_wp2_with (first
    | (go_at_call 21; refine (HM.out _).mono ?_; rintro e w1 ⟨rfl, hb1⟩; obtain ⟨hc1, hf1⟩ := bcell hb1)
    | (go_at_call 22; refine (HR.out _ (HA.out.below (below_then (below_three _ _ _ _) hb1))).mono ?_; rintro e w2 ⟨rfl, hb2⟩; replace hb1 := below_then hb1 hb2; clear hc1 hf1 hb2; obtain ⟨hc1, hf1⟩ := bcell hb1)
    | (go_at_call 23; refine (HCL.out _ (HA.out.below (below_then (below_three _ _ _ _) hb1))).mono ?_; rintro e w3 ⟨u3, rfl, hM3, hb3⟩; have hs1 := hb1.size; replace hb1 := below_then hb1 hb3; clear hc1 hf1 hb3; obtain ⟨hc1, hf1⟩ := bcell hb1; have HM3 := Lib.hid hM3; clear hM3)
    | (go_at_call 24; refine (HCK.out _ (HP.out.below (below_then (below_three _ _ _ _) hb1))).mono ?_; rintro e w4 ⟨rfl, hb4⟩; replace hb1 := below_then hb1 hb4; clear hc1 hf1; obtain ⟨hc1, hf1⟩ := bcell hb1))
  have HM4 := Lib.hid (HM3.out.below hb4)
  have hne : u3.ownBlock ≠ some (w.heap.size + 1 + 1) := fun e => by
    have := (MadeX.lt HM3.out _ e).1
    simp at hs1; omega
  refine bodyPost_ret (v := .tuple #[u3, .agg #[.int .i64 x, .int .u32 0, .slice none 0 0], .int .i64 0]) ?_ rfl ⟨_, rfl, ?_, ?_⟩
  · simp [results, Tryd.results9, go_sem, hc1]
  · exact made_stored3 (MadeX.down HM4.out (by simp at hs1; omega)) hne _ _ _
  · exact (((below_then (below_three _ _ _ _) hb1).setCell (by simp; omega) _).setCell (by simp; omega) _).setCell (by simp; omega) _

set_option maxRecDepth 100000 in
set_option maxHeartbeats 4000000 in
theorem pdo_set (c : Cf) (A : Option Addr) (l : List R) (d : Nat) (o : O) (ho : Wf o) (hAn : A = none → l.length = 0 ∧ d = 0) (hl : l.length ≤ 100000) (hw64 : ∀ x ∈ l, x.1 < 18446744073709551616) (ht : IsPt c l) (hk : o.k = 12) (hgood : chk c o = 0) (w : World) (hp : Obs w) (h : IsR w A l) :
    Calls Tryd.prog 9 #[cfv c, .slice A l.length d, opv o] w (Did4 (setS c.cap.toNat l (pth o) o.c) 0 w) := by
  have HM := Lib.hid (qisOf_any c)
  have hg : Ok c ∧ c.obj = 4 := ⟨ht.1, ht.2.1⟩
  rw [decide_eq_true hg] at HM
  obtain ⟨cap, hcap⟩ : ∃ cap : Nat, c.cap = cap := by
    have hb := hg.1.2.2
    unfold RestOk at hb
    exact ⟨c.cap.toNat, by omega⟩
  have HR := Lib.hid (fun W hA => pare_any c A l d (by omega) hw64 W hA)
  have e : decide ((l.length : Int) ≤ c.cap ∧ Up l ∧ ∀ x ∈ l, PaOk x ∧ Kin l x.1) = true := decide_eq_true ⟨ht.2.2.1, ht.2.2.2.1, ht.2.2.2.2⟩
  rw [e] at HR
  have HA := Lib.hid h
  have HCL := Lib.hid (fun W hA => clone_any A l d (by omega) hAn W hA)
  have HCK := Lib.hid (check_op c o ho)
  have HP := Lib.hid hp
  have hob := hg.2
  have hlc : l.length ≤ cap := by have := ht.2.2.1; omega
  have HV := Lib.hid (And.intro ht.2.2.2.1 (show ∀ x ∈ l, x.2 ≤ 2147483648 from fun x hx => (ht.2.2.2.2 x hx).1.2))
  have hK0 : pth o ≠ 0 := (pth_path ho (fits_four hob hgood).1).2.1
  rw [hgood] at HCK
  have HI := Lib.hid (fun W B (hB : B ≤ W.heap.size) v hm => pset_any c cap hcap o ho hK0 W B hB v l (by omega) HV.out.1 hw64 HV.out.2 hm)
  rw [show c.cap.toNat = cap by omega]
  obtain ⟨s, hs⟩ : ∃ s, setS cap l (pth o) o.c = s := ⟨_, rfl⟩
  rw [hs] at HI ⊢
  clear hs
  obtain ⟨rows, x, y⟩ := s
  clear e h ht hAn ho hp hg hw64 hgood hK0
  unfold cfv opv at *
  rw [hob] at HM HR HCK HI ⊢
  rw [hcap] at HM HR HCK HI ⊢
  rw [hk] at HCK HI ⊢
  clear hob hcap hk
  generalize hN : l.length = N at *
  have HNL := Lib.hid hN
  clear hN
  go_enter Tryd.func9, Tryd.ntmps9
  go_wp2_with (first
    | (go_at_call 21; refine (HM.out _).mono ?_; rintro e w1 ⟨rfl, hb1⟩; obtain ⟨hc1, hf1⟩ := bcell hb1)
    | (go_at_call 22; refine (HR.out _ (HA.out.below (below_then (below_three _ _ _ _) hb1))).mono ?_; rintro e w2 ⟨rfl, hb2⟩; replace hb1 := below_then hb1 hb2; clear hc1 hf1 hb2; obtain ⟨hc1, hf1⟩ := bcell hb1)
    | (go_at_call 23; refine (HCL.out _ (HA.out.below (below_then (below_three _ _ _ _) hb1))).mono ?_; rintro e w3 ⟨u3, rfl, hM3, hb3⟩; have hs1 := hb1.size; replace hb1 := below_then hb1 hb3; clear hc1 hf1 hb3; obtain ⟨hc1, hf1⟩ := bcell hb1; have HM3 := Lib.hid hM3; clear hM3)
    | (go_at_call 24; refine (HCK.out _ (HP.out.below (below_then (below_three _ _ _ _) hb1))).mono ?_; rintro e w4 ⟨rfl, hb4⟩; replace hb1 := below_then hb1 hb4; clear hc1 hf1; obtain ⟨hc1, hf1⟩ := bcell hb1))
  have HM4 := Lib.hid (HM3.out.below hb4)
  have hne : u3.ownBlock ≠ some (w.heap.size + 1 + 1) := fun e => by
    have := (MadeX.lt HM3.out _ e).1
    simp at hs1; omega
  have hq : w.heap.size + 1 + 1 < w4.heap.size := by have := hb1.size; simp at this; omega
  have hbw := below_then (below_three _ _ _ _) hb1
  refine (HI.out w4 w.heap.size hbw.size u3 (MadeX.down HM4.out (by simp at hs1; omega))).mono ?_
  rintro e w5 ⟨u, rfl, hM5, hg5⟩
  have hx : ∀ j, w5.cell? ⟨w.heap.size + 1 + 1, j, none⟩ = w4.cell? ⟨w.heap.size + 1 + 1, j, none⟩ := fun j => World.cell?_of_block (hg5.block _ hq (fun e => hne e.symm))
  have hy : ∀ j, w5.frozen? ⟨w.heap.size + 1 + 1, j, none⟩ = w4.frozen? ⟨w.heap.size + 1 + 1, j, none⟩ := fun j => World.frozen?_of_block (hg5.block _ hq (fun e => hne e.symm))
  have r0 : w5.cell? ⟨w.heap.size + 1 + 1, 0, none⟩ = some (.int .i64 0) := (hx 0).trans ((hc1 _ _ (by simp)).trans (by simp [go_sem]))
  have r1 : w5.cell? ⟨w.heap.size + 1 + 1, 1, none⟩ = some (.int .u32 0) := (hx 1).trans ((hc1 _ _ (by simp)).trans (by simp [go_sem]))
  have r2 : w5.cell? ⟨w.heap.size + 1 + 1, 2, none⟩ = some (.slice none 0 0) := (hx 2).trans ((hc1 _ _ (by simp)).trans (by simp [go_sem]))
  have f0 : w5.frozen? ⟨w.heap.size + 1 + 1, 0, none⟩ = false := (hy 0).trans ((hf1 _ _ (by simp)).trans (by simp [go_sem]))
  have f1 : w5.frozen? ⟨w.heap.size + 1 + 1, 1, none⟩ = false := (hy 1).trans ((hf1 _ _ (by simp)).trans (by simp [go_sem]))
  have f2 : w5.frozen? ⟨w.heap.size + 1 + 1, 2, none⟩ = false := (hy 2).trans ((hf1 _ _ (by simp)).trans (by simp [go_sem]))
  have h3 := HM3.out
  have hb5 := Lib.hid (hbw.grown hg5 hbw.size (fun k hk => by have := (MadeX.lt h3 k hk).1; simp at hs1; omega))
  have hre : w5.heap[w.heap.size + 1 + 1]? = some (.cells #[.int .i64 0, .int .u32 0, .slice none 0 0] 29 (0, 0)) := (hg5.block _ hq (fun e => hne e.symm)).trans ((hb1.block (w.heap.size + 1 + 1) (by simp)).trans (third_new _ _ _ _))
  have hnu := made_ne hM5 hre (by decide)
  have HNU := Lib.hid hnu
  have HM5 := Lib.hid hM5
  clear hx hy hc1 hf1 hre hbw hM5 hg5 h3 hnu
  have mixed : Tryd.prog.follows Departure.mixedOrders = true := by kernel_rfl
  unfold resv
  go_wp2
  obtain ⟨W6, hW6⟩ : ∃ W6, W6 = ((w5.setCell ⟨w.heap.size + 1 + 1, 0, none⟩ (.int .i64 x)).setCell ⟨w.heap.size + 1 + 1, 1, none⟩ (.int .u32 y)).setCell ⟨w.heap.size + 1 + 1, 2, none⟩ (.slice none 0 0) := ⟨_, rfl⟩
  rw [← hW6]
  have s0 : W6.cell? ⟨w.heap.size + 1 + 1, 0, none⟩ = some (.int .i64 x) := by rw [hW6]; simp [go_sem, r0]
  have s1 : W6.cell? ⟨w.heap.size + 1 + 1, 1, none⟩ = some (.int .u32 y) := by rw [hW6]; simp [go_sem, r1]
  have s2 : W6.cell? ⟨w.heap.size + 1 + 1, 2, none⟩ = some (.slice none 0 0) := by rw [hW6]; simp [go_sem, r2]
  have t0 : W6.frozen? ⟨w.heap.size + 1 + 1, 0, none⟩ = false := by rw [hW6]; simp [go_sem, f0]
  have t1 : W6.frozen? ⟨w.heap.size + 1 + 1, 1, none⟩ = false := by rw [hW6]; simp [go_sem, f1]
  have t2 : W6.frozen? ⟨w.heap.size + 1 + 1, 2, none⟩ = false := by rw [hW6]; simp [go_sem, f2]
  have HM6 := Lib.hid (show MadeX W6 w.heap.size 24 2 rowL u rows by rw [hW6]; exact made_stored3 HM5.out HNU.out _ _ _)
  have hb6 := Lib.hid (show Below w.heap.size w W6 by rw [hW6]; exact ((hb5.out.setCell (by simp; omega) _).setCell (by simp; omega) _).setCell (by simp; omega) _)
  clear hW6 r0 r1 r2 f0 f1 f2
  go_region
  go_wp2
  refine bodyPost_ret (v := .tuple #[u, .agg #[.int .i64 x, .int .u32 y, .slice none 0 0], .int .i64 0]) ?_ rfl ⟨_, rfl, ?_, ?_⟩
  · simp [results, Tryd.results9, go_sem, s0, s1, s2]
  · exact made_stored3 (MadeX.below HM6.out ⟨rfl, rfl, rfl, Nat.le_refl _, fun _ _ => rfl⟩) HNU.out _ _ _
  · exact ((hb6.out.drew.setCell (by simp; omega) _).setCell (by simp; omega) _).setCell (by simp; omega) _

set_option maxRecDepth 100000 in
set_option maxHeartbeats 4000000 in
theorem pdo_unset (c : Cf) (A : Option Addr) (l : List R) (d : Nat) (o : O) (ho : Wf o) (hAn : A = none → l.length = 0 ∧ d = 0) (hl : l.length ≤ 100000) (hw64 : ∀ x ∈ l, x.1 < 18446744073709551616) (ht : IsPt c l) (hk : o.k = 13) (hgood : chk c o = 0) (w : World) (hp : Obs w) (h : IsR w A l) :
    Calls Tryd.prog 9 #[cfv c, .slice A l.length d, opv o] w (Did4 (unsetS l (pth o)) 0 w) := by
  have HM := Lib.hid (qisOf_any c)
  have hg : Ok c ∧ c.obj = 4 := ⟨ht.1, ht.2.1⟩
  rw [decide_eq_true hg] at HM
  obtain ⟨cap, hcap⟩ : ∃ cap : Nat, c.cap = cap := by
    have hb := hg.1.2.2
    unfold RestOk at hb
    exact ⟨c.cap.toNat, by omega⟩
  have HR := Lib.hid (fun W hA => pare_any c A l d (by omega) hw64 W hA)
  have e : decide ((l.length : Int) ≤ c.cap ∧ Up l ∧ ∀ x ∈ l, PaOk x ∧ Kin l x.1) = true := decide_eq_true ⟨ht.2.2.1, ht.2.2.2.1, ht.2.2.2.2⟩
  rw [e] at HR
  have HA := Lib.hid h
  have HCL := Lib.hid (fun W hA => clone_any A l d (by omega) hAn W hA)
  have HCK := Lib.hid (check_op c o ho)
  have HP := Lib.hid hp
  have hob := hg.2
  have hlc : l.length ≤ cap := by have := ht.2.2.1; omega
  have HV := Lib.hid (And.intro ht.2.2.2.1 (show ∀ x ∈ l, x.2 ≤ 2147483648 from fun x hx => (ht.2.2.2.2 x hx).1.2))
  rw [hgood] at HCK
  have HI := Lib.hid (fun W B (hB : B ≤ W.heap.size) v hm => punset_any o ho W B v l (by omega) HV.out.1 hw64 HV.out.2 hm)
  obtain ⟨s, hs⟩ : ∃ s, unsetS l (pth o) = s := ⟨_, rfl⟩
  rw [hs] at HI ⊢
  clear hs
  obtain ⟨rows, x, y⟩ := s
  clear e h ht hAn ho hp hg hw64 hgood
  unfold cfv opv at *
  rw [hob] at HM HR HCK  ⊢
  rw [hcap] at HM HR HCK  ⊢
  rw [hk] at HCK HI ⊢
  clear hob hcap hk
  generalize hN : l.length = N at *
  have HNL := Lib.hid hN
  clear hN
  go_enter Tryd.func9, Tryd.ntmps9
  go_wp2_with (first
    | (go_at_call 21; refine (HM.out _).mono ?_; rintro e w1 ⟨rfl, hb1⟩; obtain ⟨hc1, hf1⟩ := bcell hb1)
    | (go_at_call 22; refine (HR.out _ (HA.out.below (below_then (below_three _ _ _ _) hb1))).mono ?_; rintro e w2 ⟨rfl, hb2⟩; replace hb1 := below_then hb1 hb2; clear hc1 hf1 hb2; obtain ⟨hc1, hf1⟩ := bcell hb1)
    | (go_at_call 23; refine (HCL.out _ (HA.out.below (below_then (below_three _ _ _ _) hb1))).mono ?_; rintro e w3 ⟨u3, rfl, hM3, hb3⟩; have hs1 := hb1.size; replace hb1 := below_then hb1 hb3; clear hc1 hf1 hb3; obtain ⟨hc1, hf1⟩ := bcell hb1; have HM3 := Lib.hid hM3; clear hM3)
    | (go_at_call 24; refine (HCK.out _ (HP.out.below (below_then (below_three _ _ _ _) hb1))).mono ?_; rintro e w4 ⟨rfl, hb4⟩; replace hb1 := below_then hb1 hb4; clear hc1 hf1; obtain ⟨hc1, hf1⟩ := bcell hb1))
  have HM4 := Lib.hid (HM3.out.below hb4)
  have hne : u3.ownBlock ≠ some (w.heap.size + 1 + 1) := fun e => by
    have := (MadeX.lt HM3.out _ e).1
    simp at hs1; omega
  have hq : w.heap.size + 1 + 1 < w4.heap.size := by have := hb1.size; simp at this; omega
  have hbw := below_then (below_three _ _ _ _) hb1
  refine (HI.out w4 w.heap.size hbw.size u3 (MadeX.down HM4.out (by simp at hs1; omega))).mono ?_
  rintro e w5 ⟨u, rfl, hM5, hg5⟩
  have hx : ∀ j, w5.cell? ⟨w.heap.size + 1 + 1, j, none⟩ = w4.cell? ⟨w.heap.size + 1 + 1, j, none⟩ := fun j => World.cell?_of_block (hg5.block _ hq (fun e => hne e.symm))
  have hy : ∀ j, w5.frozen? ⟨w.heap.size + 1 + 1, j, none⟩ = w4.frozen? ⟨w.heap.size + 1 + 1, j, none⟩ := fun j => World.frozen?_of_block (hg5.block _ hq (fun e => hne e.symm))
  have r0 : w5.cell? ⟨w.heap.size + 1 + 1, 0, none⟩ = some (.int .i64 0) := (hx 0).trans ((hc1 _ _ (by simp)).trans (by simp [go_sem]))
  have r1 : w5.cell? ⟨w.heap.size + 1 + 1, 1, none⟩ = some (.int .u32 0) := (hx 1).trans ((hc1 _ _ (by simp)).trans (by simp [go_sem]))
  have r2 : w5.cell? ⟨w.heap.size + 1 + 1, 2, none⟩ = some (.slice none 0 0) := (hx 2).trans ((hc1 _ _ (by simp)).trans (by simp [go_sem]))
  have f0 : w5.frozen? ⟨w.heap.size + 1 + 1, 0, none⟩ = false := (hy 0).trans ((hf1 _ _ (by simp)).trans (by simp [go_sem]))
  have f1 : w5.frozen? ⟨w.heap.size + 1 + 1, 1, none⟩ = false := (hy 1).trans ((hf1 _ _ (by simp)).trans (by simp [go_sem]))
  have f2 : w5.frozen? ⟨w.heap.size + 1 + 1, 2, none⟩ = false := (hy 2).trans ((hf1 _ _ (by simp)).trans (by simp [go_sem]))
  have h3 := HM3.out
  have hb5 := Lib.hid (hbw.grown hg5 hbw.size (fun k hk => by have := (MadeX.lt h3 k hk).1; simp at hs1; omega))
  have hre : w5.heap[w.heap.size + 1 + 1]? = some (.cells #[.int .i64 0, .int .u32 0, .slice none 0 0] 29 (0, 0)) := (hg5.block _ hq (fun e => hne e.symm)).trans ((hb1.block (w.heap.size + 1 + 1) (by simp)).trans (third_new _ _ _ _))
  have hnu := made_ne hM5 hre (by decide)
  have HNU := Lib.hid hnu
  have HM5 := Lib.hid hM5
  clear hx hy hc1 hf1 hre hbw hM5 hg5 h3 hnu
  have mixed : Tryd.prog.follows Departure.mixedOrders = true := by kernel_rfl
  unfold resv
  go_wp2
  obtain ⟨W6, hW6⟩ : ∃ W6, W6 = ((w5.setCell ⟨w.heap.size + 1 + 1, 0, none⟩ (.int .i64 x)).setCell ⟨w.heap.size + 1 + 1, 1, none⟩ (.int .u32 y)).setCell ⟨w.heap.size + 1 + 1, 2, none⟩ (.slice none 0 0) := ⟨_, rfl⟩
  rw [← hW6]
  have s0 : W6.cell? ⟨w.heap.size + 1 + 1, 0, none⟩ = some (.int .i64 x) := by rw [hW6]; simp [go_sem, r0]
  have s1 : W6.cell? ⟨w.heap.size + 1 + 1, 1, none⟩ = some (.int .u32 y) := by rw [hW6]; simp [go_sem, r1]
  have s2 : W6.cell? ⟨w.heap.size + 1 + 1, 2, none⟩ = some (.slice none 0 0) := by rw [hW6]; simp [go_sem, r2]
  have t0 : W6.frozen? ⟨w.heap.size + 1 + 1, 0, none⟩ = false := by rw [hW6]; simp [go_sem, f0]
  have t1 : W6.frozen? ⟨w.heap.size + 1 + 1, 1, none⟩ = false := by rw [hW6]; simp [go_sem, f1]
  have t2 : W6.frozen? ⟨w.heap.size + 1 + 1, 2, none⟩ = false := by rw [hW6]; simp [go_sem, f2]
  have HM6 := Lib.hid (show MadeX W6 w.heap.size 24 2 rowL u rows by rw [hW6]; exact made_stored3 HM5.out HNU.out _ _ _)
  have hb6 := Lib.hid (show Below w.heap.size w W6 by rw [hW6]; exact ((hb5.out.setCell (by simp; omega) _).setCell (by simp; omega) _).setCell (by simp; omega) _)
  clear hW6 r0 r1 r2 f0 f1 f2
  go_region
  go_wp2
  refine bodyPost_ret (v := .tuple #[u, .agg #[.int .i64 x, .int .u32 y, .slice none 0 0], .int .i64 0]) ?_ rfl ⟨_, rfl, ?_, ?_⟩
  · simp [results, Tryd.results9, go_sem, s0, s1, s2]
  · exact made_stored3 (MadeX.below HM6.out ⟨rfl, rfl, rfl, Nat.le_refl _, fun _ _ => rfl⟩) HNU.out _ _ _
  · exact ((hb6.out.drew.setCell (by simp; omega) _).setCell (by simp; omega) _).setCell (by simp; omega) _

set_option maxRecDepth 100000 in
set_option maxHeartbeats 4000000 in
theorem pdo_read (c : Cf) (A : Option Addr) (l : List R) (d : Nat) (o : O) (ho : Wf o) (hAn : A = none → l.length = 0 ∧ d = 0) (hl : l.length ≤ 100000) (hw64 : ∀ x ∈ l, x.1 < 18446744073709551616) (ht : IsPt c l) (hk : o.k = 14) (hgood : chk c o = 0) (w : World) (hp : Obs w) (h : IsR w A l) :
    Calls Tryd.prog 9 #[cfv c, .slice A l.length d, opv o] w (Did4 (l, (readS l (pth o)).1, (readS l (pth o)).2) 0 w) := by
  have HM := Lib.hid (qisOf_any c)
  have hg : Ok c ∧ c.obj = 4 := ⟨ht.1, ht.2.1⟩
  rw [decide_eq_true hg] at HM
  obtain ⟨cap, hcap⟩ : ∃ cap : Nat, c.cap = cap := by
    have hb := hg.1.2.2
    unfold RestOk at hb
    exact ⟨c.cap.toNat, by omega⟩
  have HR := Lib.hid (fun W hA => pare_any c A l d (by omega) hw64 W hA)
  have e : decide ((l.length : Int) ≤ c.cap ∧ Up l ∧ ∀ x ∈ l, PaOk x ∧ Kin l x.1) = true := decide_eq_true ⟨ht.2.2.1, ht.2.2.2.1, ht.2.2.2.2⟩
  rw [e] at HR
  have HA := Lib.hid h
  have HCL := Lib.hid (fun W hA => clone_any A l d (by omega) hAn W hA)
  have HCK := Lib.hid (check_op c o ho)
  have HP := Lib.hid hp
  have hob := hg.2
  have hlc : l.length ≤ cap := by have := ht.2.2.1; omega
  have HV := Lib.hid (And.intro ht.2.2.2.1 (show ∀ x ∈ l, x.2 ≤ 2147483648 from fun x hx => (ht.2.2.2.2 x hx).1.2))
  rw [hgood] at HCK
  have HI := Lib.hid (fun W A' d' hA => pread_any o ho A' l d' (by omega) HV.out.1 HV.out.2 W hA)
  obtain ⟨x, hx⟩ : ∃ x, (readS l (pth o)).1 = x := ⟨_, rfl⟩
  obtain ⟨y, hy⟩ : ∃ y, (readS l (pth o)).2 = y := ⟨_, rfl⟩
  rw [hx, hy] at HI ⊢
  clear hx hy
  clear e h ht hAn ho hp hg hw64 hgood
  unfold cfv opv at *
  rw [hob] at HM HR HCK ⊢
  rw [hcap] at HM HR HCK ⊢
  rw [hk] at HCK HI ⊢
  clear hob hcap hk
  generalize hN : l.length = N at *
  have HNL := Lib.hid hN
  clear hN
  go_enter Tryd.func9, Tryd.ntmps9
  go_wp2_with (first
    | (go_at_call 21; refine (HM.out _).mono ?_; rintro e w1 ⟨rfl, hb1⟩; obtain ⟨hc1, hf1⟩ := bcell hb1)
    | (go_at_call 22; refine (HR.out _ (HA.out.below (below_then (below_three _ _ _ _) hb1))).mono ?_; rintro e w2 ⟨rfl, hb2⟩; replace hb1 := below_then hb1 hb2; clear hc1 hf1 hb2; obtain ⟨hc1, hf1⟩ := bcell hb1)
    | (go_at_call 23; refine (HCL.out _ (HA.out.below (below_then (below_three _ _ _ _) hb1))).mono ?_; rintro e w3 ⟨u3, rfl, hM3, hb3⟩; have hs1 := hb1.size; replace hb1 := below_then hb1 hb3; clear hc1 hf1 hb3; obtain ⟨hc1, hf1⟩ := bcell hb1; have HM3 := Lib.hid hM3; clear hM3)
    | (go_at_call 24; refine (HCK.out _ (HP.out.below (below_then (below_three _ _ _ _) hb1))).mono ?_; rintro e w4 ⟨rfl, hb4⟩; replace hb1 := below_then hb1 hb4; clear hc1 hf1; obtain ⟨hc1, hf1⟩ := bcell hb1))
  have HM4 := Lib.hid (HM3.out.below hb4)
  have hne : u3.ownBlock ≠ some (w.heap.size + 1 + 1) := fun e => by
    have := (MadeX.lt HM3.out _ e).1
    simp at hs1; omega
  have hq : w.heap.size + 1 + 1 < w4.heap.size := by have := hb1.size; simp at this; omega
  have hbw := below_then (below_three _ _ _ _) hb1
  obtain ⟨A', d', hu3, _, _, hA'⟩ := MadeX.form rowL_len HM4.out
  rw [HNL.out] at hu3
  have HA' := Lib.hid hA'
  have HU3 := Lib.hid hu3
  rw [hu3]
  refine (HI.out w4 A' d' HA'.out).mono ?_
  rintro e w5 ⟨rfl, hbl⟩
  have hg5 : w4.grownBy w5 u3.ownBlock := grown_below hbl _
  have hM5 : MadeX w5 w.heap.size 24 2 rowL u3 l := MadeX.below (MadeX.down HM4.out (by simp at hs1; omega)) hbl
  rw [← HU3.out]
  clear hu3 hA'
  have hx : ∀ j, w5.cell? ⟨w.heap.size + 1 + 1, j, none⟩ = w4.cell? ⟨w.heap.size + 1 + 1, j, none⟩ := fun j => World.cell?_of_block (hg5.block _ hq (fun e => hne e.symm))
  have hy : ∀ j, w5.frozen? ⟨w.heap.size + 1 + 1, j, none⟩ = w4.frozen? ⟨w.heap.size + 1 + 1, j, none⟩ := fun j => World.frozen?_of_block (hg5.block _ hq (fun e => hne e.symm))
  have r0 : w5.cell? ⟨w.heap.size + 1 + 1, 0, none⟩ = some (.int .i64 0) := (hx 0).trans ((hc1 _ _ (by simp)).trans (by simp [go_sem]))
  have r1 : w5.cell? ⟨w.heap.size + 1 + 1, 1, none⟩ = some (.int .u32 0) := (hx 1).trans ((hc1 _ _ (by simp)).trans (by simp [go_sem]))
  have r2 : w5.cell? ⟨w.heap.size + 1 + 1, 2, none⟩ = some (.slice none 0 0) := (hx 2).trans ((hc1 _ _ (by simp)).trans (by simp [go_sem]))
  have f0 : w5.frozen? ⟨w.heap.size + 1 + 1, 0, none⟩ = false := (hy 0).trans ((hf1 _ _ (by simp)).trans (by simp [go_sem]))
  have f1 : w5.frozen? ⟨w.heap.size + 1 + 1, 1, none⟩ = false := (hy 1).trans ((hf1 _ _ (by simp)).trans (by simp [go_sem]))
  have f2 : w5.frozen? ⟨w.heap.size + 1 + 1, 2, none⟩ = false := (hy 2).trans ((hf1 _ _ (by simp)).trans (by simp [go_sem]))
  have h3 := HM3.out
  have hb5 := Lib.hid (hbw.grown hg5 hbw.size (fun k hk => by have := (MadeX.lt h3 k hk).1; simp at hs1; omega))
  have hre : w5.heap[w.heap.size + 1 + 1]? = some (.cells #[.int .i64 0, .int .u32 0, .slice none 0 0] 29 (0, 0)) := (hg5.block _ hq (fun e => hne e.symm)).trans ((hb1.block (w.heap.size + 1 + 1) (by simp)).trans (third_new _ _ _ _))
  have hnu := made_ne hM5 hre (by decide)
  have HNU := Lib.hid hnu
  have HM5 := Lib.hid hM5
  clear hx hy hc1 hf1 hre hbw hM5 hg5 h3 hnu
  have mixed : Tryd.prog.follows Departure.mixedOrders = true := by kernel_rfl
  unfold resv
  go_wp2
  obtain ⟨W6, hW6⟩ : ∃ W6, W6 = ((w5.setCell ⟨w.heap.size + 1 + 1, 0, none⟩ (.int .i64 x)).setCell ⟨w.heap.size + 1 + 1, 1, none⟩ (.int .u32 y)).setCell ⟨w.heap.size + 1 + 1, 2, none⟩ (.slice none 0 0) := ⟨_, rfl⟩
  rw [← hW6]
  have s0 : W6.cell? ⟨w.heap.size + 1 + 1, 0, none⟩ = some (.int .i64 x) := by rw [hW6]; simp [go_sem, r0]
  have s1 : W6.cell? ⟨w.heap.size + 1 + 1, 1, none⟩ = some (.int .u32 y) := by rw [hW6]; simp [go_sem, r1]
  have s2 : W6.cell? ⟨w.heap.size + 1 + 1, 2, none⟩ = some (.slice none 0 0) := by rw [hW6]; simp [go_sem, r2]
  have t0 : W6.frozen? ⟨w.heap.size + 1 + 1, 0, none⟩ = false := by rw [hW6]; simp [go_sem, f0]
  have t1 : W6.frozen? ⟨w.heap.size + 1 + 1, 1, none⟩ = false := by rw [hW6]; simp [go_sem, f1]
  have t2 : W6.frozen? ⟨w.heap.size + 1 + 1, 2, none⟩ = false := by rw [hW6]; simp [go_sem, f2]
  have HM6 := Lib.hid (show MadeX W6 w.heap.size 24 2 rowL u3 l by rw [hW6]; exact made_stored3 HM5.out HNU.out _ _ _)
  have hb6 := Lib.hid (show Below w.heap.size w W6 by rw [hW6]; exact ((hb5.out.setCell (by simp; omega) _).setCell (by simp; omega) _).setCell (by simp; omega) _)
  clear hW6 r0 r1 r2 f0 f1 f2
  go_region
  go_wp2
  refine bodyPost_ret (v := .tuple #[u3, .agg #[.int .i64 x, .int .u32 y, .slice none 0 0], .int .i64 0]) ?_ rfl ⟨_, rfl, ?_, ?_⟩
  · simp [results, Tryd.results9, go_sem, s0, s1, s2]
  · exact made_stored3 (MadeX.below HM6.out ⟨rfl, rfl, rfl, Nat.le_refl _, fun _ _ => rfl⟩) HNU.out _ _ _
  · exact ((hb6.out.drew.setCell (by simp; omega) _).setCell (by simp; omega) _).setCell (by simp; omega) _

theorem setS_done {c : Cf} {l : List R} (h : IsPt c l) {p v : Nat} (hp : p ≠ 0) : doneP c.cap.toNat l 12 p v = setS c.cap.toNat l p v := by
  rw [doneP_set]
  unfold setS
  have hu := h.2.2.2.1
  cases hg : Tb.get l p with
  | some u =>
    have hk : mk 3 l p = l := mk_there 3 p (kin_ups (fun x hx => (h.2.2.2.2 x hx).2) 3 p (by rw [hg]; rfl))
    have hc := h.2.2.1
    rw [hk, if_neg (by omega), hg]
    unfold setR
    rw [hk]
    rfl
  | none =>
    simp only
    split
    · rfl
    · rw [get_mk 3 p p hu, hg]
      simp only
      rw [if_pos (ups_self hp)]
      rfl
theorem pdo_any (c : Cf) (A : Option Addr) (l : List R) (d : Nat) (o : O) (ho : Wf o) (hAn : A = none → l.length = 0 ∧ d = 0) (hl : l.length ≤ 100000) (hw64 : ∀ x ∈ l, x.1 < 18446744073709551616) (w : World) (hp : Obs w) (h : IsR w A l) :
    Calls Tryd.prog 9 #[cfv c, .slice A l.length d, opv o] w (Did4 (doPR c l o) (doPE c l) w) := by
  by_cases h1 : Ok c ∧ c.obj = 4
  · by_cases h2 : IsPt c l
    · have e2 : doPE c l = 0 := by unfold doPE; rw [if_neg (not_not_intro h1), if_neg (not_not_intro h2)]
      rw [e2]
      by_cases h3 : chk c o = 0
      · rw [doPR_done h2 h3]
        obtain ⟨hpath, hk⟩ := fits_four h1.2 h3
        have hp0 := (pth_path ho hpath).2.1
        rcases hk with ⟨hk, _⟩ | ⟨hk, _⟩ | ⟨hk, _⟩
        · rw [hk, setS_done h2 hp0]; exact pdo_set c A l d o ho hAn hl hw64 h2 hk h3 w hp h
        · have e : doneP c.cap.toNat l o.k (pth o) o.c = unsetS l (pth o) := by
            rw [hk, doneP_unset]; unfold unsetS; cases Tb.get l (pth o) <;> rfl
          rw [e]; exact pdo_unset c A l d o ho hAn hl hw64 h2 hk h3 w hp h
        · have e : doneP c.cap.toNat l o.k (pth o) o.c = (l, (readS l (pth o)).1, (readS l (pth o)).2) := by
            rw [hk, doneP_read]; unfold readS
            cases Tb.get l (pth o) with
            | none => rfl
            | some u => simp only; split <;> rfl
          rw [e]; exact pdo_read c A l d o ho hAn hl hw64 h2 hk h3 w hp h
      · rw [doPR_bad h2 h3]
        exact pdo_bad c A l d o ho hAn hl hw64 h2 h3 w hp h
    · rw [doPR_none o h2]
      have e2 : doPE c l = 2 := by unfold doPE; rw [if_neg (not_not_intro h1), if_pos h2]
      rw [e2]
      exact pdo_arg c A l d o (by omega) hw64 h1 h2 w h
  · rw [doPR_none o (fun g => h1 ⟨g.1, g.2.1⟩)]
    have e2 : doPE c l = 40 := by unfold doPE; rw [if_pos h1]
    rw [e2]
    exact pdo_conf c A l.length d o h1 w
end Go.Proofs.YtljdkjjjnlcflaaDoor
