/- The program's own Do of rules: what is refused, what does not fit, an addition, a drop, a check. -/
import Derived.Test.YtfkkeokmkhjpfaaDoorRuTake
import Derived.Test.YtfkkeokmkhjpfaaDoorRuVerd
import Derived.Test.YtfkkeokmkhjpfaaDoorRuAre
import Derived.Test.YtfkkeokmkhjpfaaDoorClone
import Derived.Test.YtfkkeokmkhjpfaaDoorRuDo
import Derived.Test.YtfkkeokmkhjpfaaDoorRuFacts
import Derived.Test.YtfkkeokmkhjpfaaDoorOpChk
import Derived.Test.YtfkkeokmkhjpfaaDoorObLaid
namespace Go.Proofs.YtfkkeokmkhjpfaaDoor
open Go.RowKit Go.Lib Tb Pt Opn

set_option maxRecDepth 100000 in
set_option maxHeartbeats 4000000 in
theorem udo_conf (c : Cf) (A : Option Addr) (N d : Nat) (o : O) (hno : ¬ (Ok c ∧ c.obj = 3)) (w : World) :
    Calls Tryd.prog 9 #[cfv c, .slice A N d, opv o] w (Did4 ([], 0, 0) 40 w) := by
  have HM := Lib.hid (uisOf_any c)
  rw [decide_eq_false hno] at HM
  clear hno
  unfold cfv opv at *
  go_enter Tryd.func9, Tryd.ntmps9
  go_wp2_with (go_at_call 20; refine (HM.out _).mono ?_; rintro e w1 ⟨rfl, hb1⟩; obtain ⟨hc1, hf1⟩ := bcell hb1)
  refine bodyPost_ret (v := .tuple #[.slice none 0 0, .agg #[.int .i64 0, .int .u32 0, .slice none 0 0], .int .i64 40]) ?_ rfl ⟨_, rfl, MadeX.nil _ _ _ _ _, ?_⟩
  · simp [results, Tryd.results9, go_sem, hc1]
  · exact (((below_then (below_three _ _ _ _) hb1).setCell (by simp; omega) _).setCell (by simp; omega) _).setCell (by simp; omega) _

set_option maxRecDepth 100000 in
set_option maxHeartbeats 4000000 in
theorem udo_arg (c : Cf) (A : Option Addr) (l : List R) (d : Nat) (o : O) (hl : l.length ≤ 1000000) (hg : Ok c ∧ c.obj = 3) (hno : ¬ IsRu c l) (w : World) (h : IsR w A l) :
    Calls Tryd.prog 9 #[cfv c, .slice A l.length d, opv o] w (Did4 ([], 0, 0) 2 w) := by
  have HM := Lib.hid (uisOf_any c)
  rw [decide_eq_true hg] at HM
  have HR := Lib.hid (fun W hA => uare_any c A l d hl W hA)
  have e : decide ((l.length : Int) ≤ c.cap ∧ Up l ∧ ∀ x ∈ l, RuOk x) = false := decide_eq_false fun g => hno ⟨hg.1, hg.2, g.1, g.2.1, g.2.2⟩
  rw [e] at HR
  have HA := Lib.hid h
  clear e hg hno h
  generalize l.length = N at *
  unfold cfv opv at *
  go_enter Tryd.func9, Tryd.ntmps9
  go_wp2_with (first
    | (go_at_call 20; refine (HM.out _).mono ?_; rintro e w1 ⟨rfl, hb1⟩; obtain ⟨hc1, hf1⟩ := bcell hb1)
    | (go_at_call 21; refine (HR.out _ (HA.out.below (below_then (below_three _ _ _ _) hb1))).mono ?_; rintro e w2 ⟨rfl, hb2⟩; replace hb1 := below_then hb1 hb2; clear hc1 hf1 hb2; obtain ⟨hc1, hf1⟩ := bcell hb1))
  refine bodyPost_ret (v := .tuple #[.slice none 0 0, .agg #[.int .i64 0, .int .u32 0, .slice none 0 0], .int .i64 2]) ?_ rfl ⟨_, rfl, MadeX.nil _ _ _ _ _, ?_⟩
  · simp [results, Tryd.results9, go_sem, hc1]
  · exact (((below_then (below_three _ _ _ _) hb1).setCell (by simp; omega) _).setCell (by simp; omega) _).setCell (by simp; omega) _

set_option maxRecDepth 100000 in
set_option maxHeartbeats 4000000 in
theorem udo_bad (c : Cf) (A : Option Addr) (l : List R) (d : Nat) (o : O) (ho : Wf o) (hAn : A = none → l.length = 0 ∧ d = 0) (hl : l.length ≤ 100000) (ht : IsRu c l) (hbad : chk c o ≠ 0) (w : World) (hp : Obs w) (h : IsR w A l) :
    Calls Tryd.prog 9 #[cfv c, .slice A l.length d, opv o] w (Did4 (l, chk c o, 0) 0 w) := by
  have HM := Lib.hid (uisOf_any c)
  have hg : Ok c ∧ c.obj = 3 := ⟨ht.1, ht.2.1⟩
  rw [decide_eq_true hg] at HM
  obtain ⟨cap, hcap⟩ : ∃ cap : Nat, c.cap = cap := by
    have hb := hg.1.2.2
    unfold RestOk at hb
    exact ⟨c.cap.toNat, by omega⟩
  have HR := Lib.hid (fun W hA => uare_any c A l d (by omega) W hA)
  have e : decide ((l.length : Int) ≤ c.cap ∧ Up l ∧ ∀ x ∈ l, RuOk x) = true := decide_eq_true ⟨ht.2.2.1, ht.2.2.2.1, ht.2.2.2.2⟩
  rw [e] at HR
  have HA := Lib.hid h
  have HCL := Lib.hid (fun W hA => clone_any A l d (by omega) hAn W hA)
  have HCK := Lib.hid (check_op c o ho)
  have HP := Lib.hid hp
  have hob := hg.2
  have hlc : l.length ≤ cap := by have := ht.2.2.1; omega
  have HV := Lib.hid (And.intro ht.2.2.2.1 (show ∀ x ∈ l, x.2 ≤ 2147483647 from fun x hx => by have := (ht.2.2.2.2 x hx).2; omega))
  have hbad2 : (chk c o != 0) = true := bne_iff_ne.2 hbad
  generalize chk c o = x at *
  clear e h ht hAn ho hp hg
  unfold cfv opv at *
  rw [hob] at HM HR HCK ⊢
  rw [hcap] at HM HR HCK ⊢
  clear hob hcap
  generalize hN : l.length = N at *
  have HNL := Lib.hid hN
  clear hN
  go_enter Tryd.func9, Tryd.ntmps9
  go_wp2_with (first
    | (go_at_call 20; refine (HM.out _).mono ?_; rintro e w1 ⟨rfl, hb1⟩; obtain ⟨hc1, hf1⟩ := bcell hb1)
    | (go_at_call 21; refine (HR.out _ (HA.out.below (below_then (below_three _ _ _ _) hb1))).mono ?_; rintro e w2 ⟨rfl, hb2⟩; replace hb1 := below_then hb1 hb2; clear hc1 hf1 hb2; obtain ⟨hc1, hf1⟩ := bcell hb1)
    | (go_at_call 22; refine (HCL.out _ (HA.out.below (below_then (below_three _ _ _ _) hb1))).mono ?_; rintro e w3 ⟨u3, rfl, hM3, hb3⟩; have hs1 := hb1.size; replace hb1 := below_then hb1 hb3; clear hc1 hf1 hb3; obtain ⟨hc1, hf1⟩ := bcell hb1; have HM3 := Lib.hid hM3; clear hM3)
    | (go_at_call 23; refine (HCK.out _ (HP.out.below (below_then (below_three _ _ _ _) hb1))).mono ?_; rintro e w4 ⟨rfl, hb4⟩; replace hb1 := below_then hb1 hb4; clear hc1 hf1; obtain ⟨hc1, hf1⟩ := bcell hb1))
  have HM4 := Lib.hid (HM3.out.below hb4)
  have hne : u3.ownBlock ≠ some (w.heap.size + 1 + 1) := fun e => by
    have := (MadeX.lt HM3.out _ e).1
    simp at hs1; omega
  refine bodyPost_ret (v := .tuple #[u3, .agg #[.int .i64 x, .int .u32 0, .slice none 0 0], .int .i64 0]) ?_ rfl ⟨_, rfl, ?_, ?_⟩
  · simp [results, Tryd.results9, go_sem, hc1]
  · exact made_stored3 (MadeX.down HM4.out (by simp at hs1; omega)) hne _ _ _
  · exact (((below_then (below_three _ _ _ _) hb1).setCell (by simp; omega) _).setCell (by simp; omega) _).setCell (by simp; omega) _

set_option maxRecDepth 100000 in
set_option maxHeartbeats 4000000 in
theorem udo_add (c : Cf) (A : Option Addr) (l : List R) (d : Nat) (o : O) (ho : Wf o) (hAn : A = none → l.length = 0 ∧ d = 0) (hl : l.length ≤ 100000) (ht : IsRu c l) (hk : o.k = 9) (hgood : chk c o = 0) (w : World) (hp : Obs w) (h : IsR w A l) :
    Calls Tryd.prog 9 #[cfv c, .slice A l.length d, opv o] w (Did4 (addU c.cap.toNat l (keyU o) o.c) 0 w) := by
  have HM := Lib.hid (uisOf_any c)
  have hg : Ok c ∧ c.obj = 3 := ⟨ht.1, ht.2.1⟩
  rw [decide_eq_true hg] at HM
  obtain ⟨cap, hcap⟩ : ∃ cap : Nat, c.cap = cap := by
    have hb := hg.1.2.2
    unfold RestOk at hb
    exact ⟨c.cap.toNat, by omega⟩
  have HR := Lib.hid (fun W hA => uare_any c A l d (by omega) W hA)
  have e : decide ((l.length : Int) ≤ c.cap ∧ Up l ∧ ∀ x ∈ l, RuOk x) = true := decide_eq_true ⟨ht.2.2.1, ht.2.2.2.1, ht.2.2.2.2⟩
  rw [e] at HR
  have HA := Lib.hid h
  have HCL := Lib.hid (fun W hA => clone_any A l d (by omega) hAn W hA)
  have HCK := Lib.hid (check_op c o ho)
  have HP := Lib.hid hp
  have hob := hg.2
  have hlc : l.length ≤ cap := by have := ht.2.2.1; omega
  have HV := Lib.hid (And.intro ht.2.2.2.1 (show ∀ x ∈ l, x.2 ≤ 2147483647 from fun x hx => by have := (ht.2.2.2.2 x hx).2; omega))
  rw [hgood] at HCK
  have HI := Lib.hid (fun W B (hB : B ≤ W.heap.size) v hm => uadd_any c cap hcap o ho W B hB v l (by omega) hlc HV.out.1 HV.out.2 hm)
  rw [show c.cap.toNat = cap by omega]
  obtain ⟨s, hs⟩ : ∃ s, addU cap l (keyU o) o.c = s := ⟨_, rfl⟩
  rw [hs] at HI ⊢
  clear hs
  obtain ⟨rows, x, y⟩ := s
  clear e h ht hAn ho hp hg hgood
  unfold cfv opv at *
  rw [hob] at HM HR HCK HI ⊢
  rw [hcap] at HM HR HCK HI ⊢
  rw [hk] at HCK HI ⊢
  clear hob hcap hk
  generalize hN : l.length = N at *
  have HNL := Lib.hid hN
  clear hN
  go_enter Tryd.func9, Tryd.ntmps9
  go_wp2_with (first
    | (go_at_call 20; refine (HM.out _).mono ?_; rintro e w1 ⟨rfl, hb1⟩; obtain ⟨hc1, hf1⟩ := bcell hb1)
    | (go_at_call 21; refine (HR.out _ (HA.out.below (below_then (below_three _ _ _ _) hb1))).mono ?_; rintro e w2 ⟨rfl, hb2⟩; replace hb1 := below_then hb1 hb2; clear hc1 hf1 hb2; obtain ⟨hc1, hf1⟩ := bcell hb1)
    | (go_at_call 22; refine (HCL.out _ (HA.out.below (below_then (below_three _ _ _ _) hb1))).mono ?_; rintro e w3 ⟨u3, rfl, hM3, hb3⟩; have hs1 := hb1.size; replace hb1 := below_then hb1 hb3; clear hc1 hf1 hb3; obtain ⟨hc1, hf1⟩ := bcell hb1; have HM3 := Lib.hid hM3; clear hM3)
    | (go_at_call 23; refine (HCK.out _ (HP.out.below (below_then (below_three _ _ _ _) hb1))).mono ?_; rintro e w4 ⟨rfl, hb4⟩; replace hb1 := below_then hb1 hb4; clear hc1 hf1; obtain ⟨hc1, hf1⟩ := bcell hb1))
  have HM4 := Lib.hid (HM3.out.below hb4)
  have hne : u3.ownBlock ≠ some (w.heap.size + 1 + 1) := fun e => by
    have := (MadeX.lt HM3.out _ e).1
    simp at hs1; omega
  have hq : w.heap.size + 1 + 1 < w4.heap.size := by have := hb1.size; simp at this; omega
  have hbw := below_then (below_three _ _ _ _) hb1
  refine (HI.out w4 w.heap.size hbw.size u3 (MadeX.down HM4.out (by simp at hs1; omega))).mono ?_
  rintro e w5 ⟨u, rfl, hM5, hg5⟩
  have hx : ∀ j, w5.cell? ⟨w.heap.size + 1 + 1, j, none⟩ = w4.cell? ⟨w.heap.size + 1 + 1, j, none⟩ := fun j => World.cell?_of_block (hg5.block _ hq (fun e => hne e.symm))
  have hy : ∀ j, w5.frozen? ⟨w.heap.size + 1 + 1, j, none⟩ = w4.frozen? ⟨w.heap.size + 1 + 1, j, none⟩ := fun j => World.frozen?_of_block (hg5.block _ hq (fun e => hne e.symm))
  have r0 : w5.cell? ⟨w.heap.size + 1 + 1, 0, none⟩ = some (.int .i64 0) := (hx 0).trans ((hc1 _ _ (by simp)).trans (by simp [go_sem]))
  have r1 : w5.cell? ⟨w.heap.size + 1 + 1, 1, none⟩ = some (.int .u32 0) := (hx 1).trans ((hc1 _ _ (by simp)).trans (by simp [go_sem]))
  have r2 : w5.cell? ⟨w.heap.size + 1 + 1, 2, none⟩ = some (.slice none 0 0) := (hx 2).trans ((hc1 _ _ (by simp)).trans (by simp [go_sem]))
  have f0 : w5.frozen? ⟨w.heap.size + 1 + 1, 0, none⟩ = false := (hy 0).trans ((hf1 _ _ (by simp)).trans (by simp [go_sem]))
  have f1 : w5.frozen? ⟨w.heap.size + 1 + 1, 1, none⟩ = false := (hy 1).trans ((hf1 _ _ (by simp)).trans (by simp [go_sem]))
  have f2 : w5.frozen? ⟨w.heap.size + 1 + 1, 2, none⟩ = false := (hy 2).trans ((hf1 _ _ (by simp)).trans (by simp [go_sem]))
  have h3 := HM3.out
  have hb5 := Lib.hid (hbw.grown hg5 hbw.size (fun k hk => by have := (MadeX.lt h3 k hk).1; simp at hs1; omega))
  have hre : w5.heap[w.heap.size + 1 + 1]? = some (.cells #[.int .i64 0, .int .u32 0, .slice none 0 0] 29 (0, 0)) := (hg5.block _ hq (fun e => hne e.symm)).trans ((hb1.block (w.heap.size + 1 + 1) (by simp)).trans (third_new _ _ _ _))
  have hnu := made_ne hM5 hre (by decide)
  have HNU := Lib.hid hnu
  have HM5 := Lib.hid hM5
  clear hx hy hc1 hf1 hre hbw hM5 hg5 h3 hnu
  have mixed : Tryd.prog.follows Departure.mixedOrders = true := by kernel_rfl
  unfold resv
  go_wp2
  obtain ⟨W6, hW6⟩ : ∃ W6, W6 = ((w5.setCell ⟨w.heap.size + 1 + 1, 0, none⟩ (.int .i64 x)).setCell ⟨w.heap.size + 1 + 1, 1, none⟩ (.int .u32 y)).setCell ⟨w.heap.size + 1 + 1, 2, none⟩ (.slice none 0 0) := ⟨_, rfl⟩
  rw [← hW6]
  have s0 : W6.cell? ⟨w.heap.size + 1 + 1, 0, none⟩ = some (.int .i64 x) := by rw [hW6]; simp [go_sem, r0]
  have s1 : W6.cell? ⟨w.heap.size + 1 + 1, 1, none⟩ = some (.int .u32 y) := by rw [hW6]; simp [go_sem, r1]
  have s2 : W6.cell? ⟨w.heap.size + 1 + 1, 2, none⟩ = some (.slice none 0 0) := by rw [hW6]; simp [go_sem, r2]
  have t0 : W6.frozen? ⟨w.heap.size + 1 + 1, 0, none⟩ = false := by rw [hW6]; simp [go_sem, f0]
  have t1 : W6.frozen? ⟨w.heap.size + 1 + 1, 1, none⟩ = false := by rw [hW6]; simp [go_sem, f1]
  have t2 : W6.frozen? ⟨w.heap.size + 1 + 1, 2, none⟩ = false := by rw [hW6]; simp [go_sem, f2]
  have HM6 := Lib.hid (show MadeX W6 w.heap.size 24 2 rowL u rows by rw [hW6]; exact made_stored3 HM5.out HNU.out _ _ _)
  have hb6 := Lib.hid (show Below w.heap.size w W6 by rw [hW6]; exact ((hb5.out.setCell (by simp; omega) _).setCell (by simp; omega) _).setCell (by simp; omega) _)
  clear hW6 r0 r1 r2 f0 f1 f2
  go_region
  go_wp2
  refine bodyPost_ret (v := .tuple #[u, .agg #[.int .i64 x, .int .u32 y, .slice none 0 0], .int .i64 0]) ?_ rfl ⟨_, rfl, ?_, ?_⟩
  · simp [results, Tryd.results9, go_sem, s0, s1, s2]
  · exact made_stored3 (MadeX.below HM6.out ⟨rfl, rfl, rfl, Nat.le_refl _, fun _ _ => rfl⟩) HNU.out _ _ _
  · exact ((hb6.out.drew.setCell (by simp; omega) _).setCell (by simp; omega) _).setCell (by simp; omega) _

set_option maxRecDepth 100000 in
set_option maxHeartbeats 4000000 in
theorem udo_drop (c : Cf) (A : Option Addr) (l : List R) (d : Nat) (o : O) (ho : Wf o) (hAn : A = none → l.length = 0 ∧ d = 0) (hl : l.length ≤ 100000) (ht : IsRu c l) (hk : o.k = 10) (hgood : chk c o = 0) (w : World) (hp : Obs w) (h : IsR w A l) :
    Calls Tryd.prog 9 #[cfv c, .slice A l.length d, opv o] w (Did4 (dropU l (keyU o)) 0 w) := by
  have HM := Lib.hid (uisOf_any c)
  have hg : Ok c ∧ c.obj = 3 := ⟨ht.1, ht.2.1⟩
  rw [decide_eq_true hg] at HM
  obtain ⟨cap, hcap⟩ : ∃ cap : Nat, c.cap = cap := by
    have hb := hg.1.2.2
    unfold RestOk at hb
    exact ⟨c.cap.toNat, by omega⟩
  have HR := Lib.hid (fun W hA => uare_any c A l d (by omega) W hA)
  have e : decide ((l.length : Int) ≤ c.cap ∧ Up l ∧ ∀ x ∈ l, RuOk x) = true := decide_eq_true ⟨ht.2.2.1, ht.2.2.2.1, ht.2.2.2.2⟩
  rw [e] at HR
  have HA := Lib.hid h
  have HCL := Lib.hid (fun W hA => clone_any A l d (by omega) hAn W hA)
  have HCK := Lib.hid (check_op c o ho)
  have HP := Lib.hid hp
  have hob := hg.2
  have hlc : l.length ≤ cap := by have := ht.2.2.1; omega
  have HV := Lib.hid (And.intro ht.2.2.2.1 (show ∀ x ∈ l, x.2 ≤ 2147483647 from fun x hx => by have := (ht.2.2.2.2 x hx).2; omega))
  rw [hgood] at HCK
  have HI := Lib.hid (fun W B (hB : B ≤ W.heap.size) v hm => udrop_any o ho W B v l (by omega) HV.out.1 HV.out.2 hm)
  obtain ⟨s, hs⟩ : ∃ s, dropU l (keyU o) = s := ⟨_, rfl⟩
  rw [hs] at HI ⊢
  clear hs
  obtain ⟨rows, x, y⟩ := s
  clear e h ht hAn ho hp hg hgood
  unfold cfv opv at *
  rw [hob] at HM HR HCK  ⊢
  rw [hcap] at HM HR HCK  ⊢
  rw [hk] at HCK HI ⊢
  clear hob hcap hk
  generalize hN : l.length = N at *
  have HNL := Lib.hid hN
  clear hN
  go_enter Tryd.func9, Tryd.ntmps9
  go_wp2_with (first
    | (go_at_call 20; refine (HM.out _).mono ?_; rintro e w1 ⟨rfl, hb1⟩; obtain ⟨hc1, hf1⟩ := bcell hb1)
    | (go_at_call 21; refine (HR.out _ (HA.out.below (below_then (below_three _ _ _ _) hb1))).mono ?_; rintro e w2 ⟨rfl, hb2⟩; replace hb1 := below_then hb1 hb2; clear hc1 hf1 hb2; obtain ⟨hc1, hf1⟩ := bcell hb1)
    | (go_at_call 22; refine (HCL.out _ (HA.out.below (below_then (below_three _ _ _ _) hb1))).mono ?_; rintro e w3 ⟨u3, rfl, hM3, hb3⟩; have hs1 := hb1.size; replace hb1 := below_then hb1 hb3; clear hc1 hf1 hb3; obtain ⟨hc1, hf1⟩ := bcell hb1; have HM3 := Lib.hid hM3; clear hM3)
    | (go_at_call 23; refine (HCK.out _ (HP.out.below (below_then (below_three _ _ _ _) hb1))).mono ?_; rintro e w4 ⟨rfl, hb4⟩; replace hb1 := below_then hb1 hb4; clear hc1 hf1; obtain ⟨hc1, hf1⟩ := bcell hb1))
  have HM4 := Lib.hid (HM3.out.below hb4)
  have hne : u3.ownBlock ≠ some (w.heap.size + 1 + 1) := fun e => by
    have := (MadeX.lt HM3.out _ e).1
    simp at hs1; omega
  have hq : w.heap.size + 1 + 1 < w4.heap.size := by have := hb1.size; simp at this; omega
  have hbw := below_then (below_three _ _ _ _) hb1
  refine (HI.out w4 w.heap.size hbw.size u3 (MadeX.down HM4.out (by simp at hs1; omega))).mono ?_
  rintro e w5 ⟨u, rfl, hM5, hg5⟩
  have hx : ∀ j, w5.cell? ⟨w.heap.size + 1 + 1, j, none⟩ = w4.cell? ⟨w.heap.size + 1 + 1, j, none⟩ := fun j => World.cell?_of_block (hg5.block _ hq (fun e => hne e.symm))
  have hy : ∀ j, w5.frozen? ⟨w.heap.size + 1 + 1, j, none⟩ = w4.frozen? ⟨w.heap.size + 1 + 1, j, none⟩ := fun j => World.frozen?_of_block (hg5.block _ hq (fun e => hne e.symm))
  have r0 : w5.cell? ⟨w.heap.size + 1 + 1, 0, none⟩ = some (.int .i64 0) := (hx 0).trans ((hc1 _ _ (by simp)).trans (by simp [go_sem]))
  have r1 : w5.cell? ⟨w.heap.size + 1 + 1, 1, none⟩ = some (.int .u32 0) := (hx 1).trans ((hc1 _ _ (by simp)).trans (by simp [go_sem]))
  have r2 : w5.cell? ⟨w.heap.size + 1 + 1, 2, none⟩ = some (.slice none 0 0) := (hx 2).trans ((hc1 _ _ (by simp)).trans (by simp [go_sem]))
  have f0 : w5.frozen? ⟨w.heap.size + 1 + 1, 0, none⟩ = false := (hy 0).trans ((hf1 _ _ (by simp)).trans (by simp [go_sem]))
  have f1 : w5.frozen? ⟨w.heap.size + 1 + 1, 1, none⟩ = false := (hy 1).trans ((hf1 _ _ (by simp)).trans (by simp [go_sem]))
  have f2 : w5.frozen? ⟨w.heap.size + 1 + 1, 2, none⟩ = false := (hy 2).trans ((hf1 _ _ (by simp)).trans (by simp [go_sem]))
  have h3 := HM3.out
  have hb5 := Lib.hid (hbw.grown hg5 hbw.size (fun k hk => by have := (MadeX.lt h3 k hk).1; simp at hs1; omega))
  have hre : w5.heap[w.heap.size + 1 + 1]? = some (.cells #[.int .i64 0, .int .u32 0, .slice none 0 0] 29 (0, 0)) := (hg5.block _ hq (fun e => hne e.symm)).trans ((hb1.block (w.heap.size + 1 + 1) (by simp)).trans (third_new _ _ _ _))
  have hnu := made_ne hM5 hre (by decide)
  have HNU := Lib.hid hnu
  have HM5 := Lib.hid hM5
  clear hx hy hc1 hf1 hre hbw hM5 hg5 h3 hnu
  have mixed : Tryd.prog.follows Departure.mixedOrders = true := by kernel_rfl
  unfold resv
  go_wp2
  obtain ⟨W6, hW6⟩ : ∃ W6, W6 = ((w5.setCell ⟨w.heap.size + 1 + 1, 0, none⟩ (.int .i64 x)).setCell ⟨w.heap.size + 1 + 1, 1, none⟩ (.int .u32 y)).setCell ⟨w.heap.size + 1 + 1, 2, none⟩ (.slice none 0 0) := ⟨_, rfl⟩
  rw [← hW6]
  have s0 : W6.cell? ⟨w.heap.size + 1 + 1, 0, none⟩ = some (.int .i64 x) := by rw [hW6]; simp [go_sem, r0]
  have s1 : W6.cell? ⟨w.heap.size + 1 + 1, 1, none⟩ = some (.int .u32 y) := by rw [hW6]; simp [go_sem, r1]
  have s2 : W6.cell? ⟨w.heap.size + 1 + 1, 2, none⟩ = some (.slice none 0 0) := by rw [hW6]; simp [go_sem, r2]
  have t0 : W6.frozen? ⟨w.heap.size + 1 + 1, 0, none⟩ = false := by rw [hW6]; simp [go_sem, f0]
  have t1 : W6.frozen? ⟨w.heap.size + 1 + 1, 1, none⟩ = false := by rw [hW6]; simp [go_sem, f1]
  have t2 : W6.frozen? ⟨w.heap.size + 1 + 1, 2, none⟩ = false := by rw [hW6]; simp [go_sem, f2]
  have HM6 := Lib.hid (show MadeX W6 w.heap.size 24 2 rowL u rows by rw [hW6]; exact made_stored3 HM5.out HNU.out _ _ _)
  have hb6 := Lib.hid (show Below w.heap.size w W6 by rw [hW6]; exact ((hb5.out.setCell (by simp; omega) _).setCell (by simp; omega) _).setCell (by simp; omega) _)
  clear hW6 r0 r1 r2 f0 f1 f2
  go_region
  go_wp2
  refine bodyPost_ret (v := .tuple #[u, .agg #[.int .i64 x, .int .u32 y, .slice none 0 0], .int .i64 0]) ?_ rfl ⟨_, rfl, ?_, ?_⟩
  · simp [results, Tryd.results9, go_sem, s0, s1, s2]
  · exact made_stored3 (MadeX.below HM6.out ⟨rfl, rfl, rfl, Nat.le_refl _, fun _ _ => rfl⟩) HNU.out _ _ _
  · exact ((hb6.out.drew.setCell (by simp; omega) _).setCell (by simp; omega) _).setCell (by simp; omega) _

set_option maxRecDepth 100000 in
set_option maxHeartbeats 4000000 in
theorem udo_check (c : Cf) (A : Option Addr) (l : List R) (d : Nat) (o : O) (ho : Wf o) (hAn : A = none → l.length = 0 ∧ d = 0) (hl : l.length ≤ 100000) (ht : IsRu c l) (hk : o.k = 11) (hgood : chk c o = 0) (w : World) (hp : Obs w) (h : IsR w A l) :
    Calls Tryd.prog 9 #[cfv c, .slice A l.length d, opv o] w (Did4 (l, 0, ((says l o.a o.b : Nat) : Int)) 0 w) := by
  have HM := Lib.hid (uisOf_any c)
  have hg : Ok c ∧ c.obj = 3 := ⟨ht.1, ht.2.1⟩
  rw [decide_eq_true hg] at HM
  obtain ⟨cap, hcap⟩ : ∃ cap : Nat, c.cap = cap := by
    have hb := hg.1.2.2
    unfold RestOk at hb
    exact ⟨c.cap.toNat, by omega⟩
  have HR := Lib.hid (fun W hA => uare_any c A l d (by omega) W hA)
  have e : decide ((l.length : Int) ≤ c.cap ∧ Up l ∧ ∀ x ∈ l, RuOk x) = true := decide_eq_true ⟨ht.2.2.1, ht.2.2.2.1, ht.2.2.2.2⟩
  rw [e] at HR
  have HA := Lib.hid h
  have HCL := Lib.hid (fun W hA => clone_any A l d (by omega) hAn W hA)
  have HCK := Lib.hid (check_op c o ho)
  have HP := Lib.hid hp
  have hob := hg.2
  have hlc : l.length ≤ cap := by have := ht.2.2.1; omega
  have HV := Lib.hid (And.intro ht.2.2.2.1 (show ∀ x ∈ l, x.2 ≤ 2147483647 from fun x hx => by have := (ht.2.2.2.2 x hx).2; omega))
  rw [hgood] at HCK
  have hru := ht.2.2.2.2
  have HI := Lib.hid (fun W A' d' hA hB => verdict_any A' l d' (by omega) hru o ho W hA hB)
  clear hru
  obtain ⟨y, hy⟩ : ∃ y, says l o.a o.b = y := ⟨_, rfl⟩
  rw [hy] at HI ⊢
  clear hy
  clear e h ht hAn ho hp hg hgood
  unfold cfv opv at *
  rw [hob] at HM HR HCK ⊢
  rw [hcap] at HM HR HCK ⊢
  rw [hk] at HCK HI ⊢
  clear hob hcap hk
  generalize hN : l.length = N at *
  have HNL := Lib.hid hN
  clear hN
  go_enter Tryd.func9, Tryd.ntmps9
  go_wp2_with (first
    | (go_at_call 20; refine (HM.out _).mono ?_; rintro e w1 ⟨rfl, hb1⟩; obtain ⟨hc1, hf1⟩ := bcell hb1)
    | (go_at_call 21; refine (HR.out _ (HA.out.below (below_then (below_three _ _ _ _) hb1))).mono ?_; rintro e w2 ⟨rfl, hb2⟩; replace hb1 := below_then hb1 hb2; clear hc1 hf1 hb2; obtain ⟨hc1, hf1⟩ := bcell hb1)
    | (go_at_call 22; refine (HCL.out _ (HA.out.below (below_then (below_three _ _ _ _) hb1))).mono ?_; rintro e w3 ⟨u3, rfl, hM3, hb3⟩; have hs1 := hb1.size; replace hb1 := below_then hb1 hb3; clear hc1 hf1 hb3; obtain ⟨hc1, hf1⟩ := bcell hb1; have HM3 := Lib.hid hM3; clear hM3)
    | (go_at_call 23; refine (HCK.out _ (HP.out.below (below_then (below_three _ _ _ _) hb1))).mono ?_; rintro e w4 ⟨rfl, hb4⟩; replace hb1 := below_then hb1 hb4; clear hc1 hf1; obtain ⟨hc1, hf1⟩ := bcell hb1))
  have HM4 := Lib.hid (HM3.out.below hb4)
  have hne : u3.ownBlock ≠ some (w.heap.size + 1 + 1) := fun e => by
    have := (MadeX.lt HM3.out _ e).1
    simp at hs1; omega
  have hq : w.heap.size + 1 + 1 < w4.heap.size := by have := hb1.size; simp at this; omega
  have hbw := below_then (below_three _ _ _ _) hb1
  obtain ⟨A', d', hu3, _, _, hA'⟩ := MadeX.form rowL_len HM4.out
  rw [HNL.out] at hu3
  have HA' := Lib.hid hA'
  have HU3 := Lib.hid hu3
  have hlt4 := fun k hk => (MadeX.lt HM4.out k hk).2
  rw [hu3] at hlt4
  rw [hu3]
  refine (HI.out w4 A' d' HA'.out (fun ad e => hlt4 ad.block (by rw [e]; rfl))).mono ?_
  rintro e w5 ⟨rfl, hbl⟩
  have hg5 : w4.grownBy w5 u3.ownBlock := grown_below hbl _
  have hM5 : MadeX w5 w.heap.size 24 2 rowL u3 l := MadeX.below (MadeX.down HM4.out (by simp at hs1; omega)) hbl
  rw [← HU3.out]
  clear hu3 hA' hlt4
  have hx : ∀ j, w5.cell? ⟨w.heap.size + 1 + 1, j, none⟩ = w4.cell? ⟨w.heap.size + 1 + 1, j, none⟩ := fun j => World.cell?_of_block (hg5.block _ hq (fun e => hne e.symm))
  have hy : ∀ j, w5.frozen? ⟨w.heap.size + 1 + 1, j, none⟩ = w4.frozen? ⟨w.heap.size + 1 + 1, j, none⟩ := fun j => World.frozen?_of_block (hg5.block _ hq (fun e => hne e.symm))
  have r0 : w5.cell? ⟨w.heap.size + 1 + 1, 0, none⟩ = some (.int .i64 0) := (hx 0).trans ((hc1 _ _ (by simp)).trans (by simp [go_sem]))
  have r1 : w5.cell? ⟨w.heap.size + 1 + 1, 1, none⟩ = some (.int .u32 0) := (hx 1).trans ((hc1 _ _ (by simp)).trans (by simp [go_sem]))
  have r2 : w5.cell? ⟨w.heap.size + 1 + 1, 2, none⟩ = some (.slice none 0 0) := (hx 2).trans ((hc1 _ _ (by simp)).trans (by simp [go_sem]))
  have f0 : w5.frozen? ⟨w.heap.size + 1 + 1, 0, none⟩ = false := (hy 0).trans ((hf1 _ _ (by simp)).trans (by simp [go_sem]))
  have f1 : w5.frozen? ⟨w.heap.size + 1 + 1, 1, none⟩ = false := (hy 1).trans ((hf1 _ _ (by simp)).trans (by simp [go_sem]))
  have f2 : w5.frozen? ⟨w.heap.size + 1 + 1, 2, none⟩ = false := (hy 2).trans ((hf1 _ _ (by simp)).trans (by simp [go_sem]))
  have h3 := HM3.out
  have hb5 := Lib.hid (hbw.grown hg5 hbw.size (fun k hk => by have := (MadeX.lt h3 k hk).1; simp at hs1; omega))
  have hre : w5.heap[w.heap.size + 1 + 1]? = some (.cells #[.int .i64 0, .int .u32 0, .slice none 0 0] 29 (0, 0)) := (hg5.block _ hq (fun e => hne e.symm)).trans ((hb1.block (w.heap.size + 1 + 1) (by simp)).trans (third_new _ _ _ _))
  have hnu := made_ne hM5 hre (by decide)
  have HNU := Lib.hid hnu
  have HM5 := Lib.hid hM5
  clear hx hy hc1 hf1 hre hbw hM5 hg5 h3 hnu
  have mixed : Tryd.prog.follows Departure.mixedOrders = true := by kernel_rfl
  go_wp2
  obtain ⟨W6, hW6⟩ : ∃ W6, W6 = ((w5.setCell ⟨w.heap.size + 1 + 1, 0, none⟩ (.int .i64 0)).setCell ⟨w.heap.size + 1 + 1, 1, none⟩ (.int .u32 y)).setCell ⟨w.heap.size + 1 + 1, 2, none⟩ (.slice none 0 0) := ⟨_, rfl⟩
  rw [← hW6]
  have s0 : W6.cell? ⟨w.heap.size + 1 + 1, 0, none⟩ = some (.int .i64 0) := by rw [hW6]; simp [go_sem, r0]
  have s1 : W6.cell? ⟨w.heap.size + 1 + 1, 1, none⟩ = some (.int .u32 y) := by rw [hW6]; simp [go_sem, r1]
  have s2 : W6.cell? ⟨w.heap.size + 1 + 1, 2, none⟩ = some (.slice none 0 0) := by rw [hW6]; simp [go_sem, r2]
  have t0 : W6.frozen? ⟨w.heap.size + 1 + 1, 0, none⟩ = false := by rw [hW6]; simp [go_sem, f0]
  have t1 : W6.frozen? ⟨w.heap.size + 1 + 1, 1, none⟩ = false := by rw [hW6]; simp [go_sem, f1]
  have t2 : W6.frozen? ⟨w.heap.size + 1 + 1, 2, none⟩ = false := by rw [hW6]; simp [go_sem, f2]
  have HM6 := Lib.hid (show MadeX W6 w.heap.size 24 2 rowL u3 l by rw [hW6]; exact made_stored3 HM5.out HNU.out _ _ _)
  have hb6 := Lib.hid (show Below w.heap.size w W6 by rw [hW6]; exact ((hb5.out.setCell (by simp; omega) _).setCell (by simp; omega) _).setCell (by simp; omega) _)
  clear hW6 r0 r1 r2 f0 f1 f2
  go_region
  go_wp2
  refine bodyPost_ret (v := .tuple #[u3, .agg #[.int .i64 0, .int .u32 y, .slice none 0 0], .int .i64 0]) ?_ rfl ⟨_, rfl, ?_, ?_⟩
  · simp [results, Tryd.results9, go_sem, s0, s1, s2]
  · exact made_stored3 (MadeX.below HM6.out ⟨rfl, rfl, rfl, Nat.le_refl _, fun _ _ => rfl⟩) HNU.out _ _ _
  · exact ((hb6.out.drew.setCell (by simp; omega) _).setCell (by simp; omega) _).setCell (by simp; omega) _

theorem udo_any (c : Cf) (A : Option Addr) (l : List R) (d : Nat) (o : O) (ho : Wf o) (hAn : A = none → l.length = 0 ∧ d = 0) (hl : l.length ≤ 100000) (_ : ∀ x ∈ l, x.1 < 18446744073709551616) (w : World) (hp : Obs w) (h : IsR w A l) :
    Calls Tryd.prog 9 #[cfv c, .slice A l.length d, opv o] w (Did4 (doUR c l o) (doUE c l) w) := by
  by_cases h1 : Ok c ∧ c.obj = 3
  · by_cases h2 : IsRu c l
    · have e2 : doUE c l = 0 := by unfold doUE; rw [if_neg (not_not_intro h1), if_neg (not_not_intro h2)]
      rw [e2]
      by_cases h3 : chk c o = 0
      · rw [doUR_done h2 h3]
        rcases fits_three h1.2 h3 with ⟨hk, _⟩ | ⟨hk, _⟩ | ⟨hk, _⟩
        · have e : doneU c.cap.toNat l o.k o.a o.b o.c = addU c.cap.toNat l (keyU o) o.c := by
            rw [hk, doneU_put]; unfold addU keyU; cases Tb.get l (o.a * 65536 + o.b) with
            | some u => rfl
            | none => rfl
          rw [e]; exact udo_add c A l d o ho hAn hl h2 hk h3 w hp h
        · have e : doneU c.cap.toNat l o.k o.a o.b o.c = dropU l (keyU o) := by
            rw [hk, doneU_cut]; unfold dropU keyU; cases Tb.get l (o.a * 65536 + o.b) <;> rfl
          rw [e]; exact udo_drop c A l d o ho hAn hl h2 hk h3 w hp h
        · rw [hk, doneU_look]; exact udo_check c A l d o ho hAn hl h2 hk h3 w hp h
      · rw [doUR_bad h2 h3]
        exact udo_bad c A l d o ho hAn hl h2 h3 w hp h
    · rw [doUR_none o h2]
      have e2 : doUE c l = 2 := by unfold doUE; rw [if_neg (not_not_intro h1), if_pos h2]
      rw [e2]
      exact udo_arg c A l d o (by omega) h1 h2 w h
  · rw [doUR_none o (fun g => h1 ⟨g.1, g.2.1⟩)]
    have e2 : doUE c l = 40 := by unfold doUE; rw [if_pos h1]
    rw [e2]
    exact udo_conf c A l.length d o h1 w
end Go.Proofs.YtfkkeokmkhjpfaaDoor
