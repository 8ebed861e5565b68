/- The program's own objects behind an interface: what each one's operation does. -/
import Derived.Test.YtnepdbfnbikplaaGreatDoorGTbP
import Derived.Test.YtnepdbfnbikplaaGreatDoorGOrP
import Derived.Test.YtnepdbfnbikplaaGreatDoorGRuP
import Derived.Test.YtnepdbfnbikplaaGreatDoorGPaP
import Derived.Test.YtnepdbfnbikplaaGreatDoorMoMath
import Derived.Test.YtnepdbfnbikplaaGreatDoorMoObj
namespace Go.Proofs.YtnepdbfnbikplaaGreatDoor
open Go.RowKit Go.Lib Tb Pt Opn


set_option maxRecDepth 100000 in
set_option maxHeartbeats 4000000 in
theorem mroute_any (c : Cf) (A : Option Addr) (l : List R) (d : Nat) (o : O) (ho : Wf o) (hAn : A = none → l.length = 0 ∧ d = 0) (hl : l.length ≤ 100000) (_ : ∀ x ∈ l, x.1 < 18446744073709551616) (hobj : c.obj = 1) (w : World) (hp : Obs w) (h : IsR w A l) :
    Calls Tryz.prog 41 #[cfv c, .slice A l.length d, opv o] w (DidM (doMR c l o) (doME c l) w) := by
  have HD := Lib.hid (fun W hp hA => do_any c A l d o ho hAn hl W hp hA)
  have HA := Lib.hid h
  have HP := Lib.hid hp
  rw [do_1 hobj, err_1 hobj]
  obtain ⟨s, hs⟩ : ∃ s, doR c l o = s := ⟨_, rfl⟩
  rw [hs] at HD ⊢
  obtain ⟨err, he⟩ : ∃ x, doE c l = x := ⟨_, rfl⟩
  rw [he] at HD ⊢
  obtain ⟨N, hN⟩ : ∃ N, l.length = N := ⟨_, rfl⟩
  rw [hN] at HD ⊢
  clear hs he hN h hp hl  hAn hobj
  obtain ⟨s1, s2, s3⟩ := s
  unfold cfv opv at *
  go_enter Tryz.func41, Tryz.ntmps41
  go_wp2_with fail
  have hb0 := fun a b c => below_three w a b c
  refine (HD.out _ (HP.out.below (hb0 _ _ _)) (HA.out.below (hb0 _ _ _))).mono ?_
  rintro e w1 ⟨u, rfl, hM, hb⟩
  have hre := (hb.block (w.heap.size + 1 + 1) (by simp)).trans (third_new w _ _ _)
  obtain ⟨r0, f0, r1, f1, r2, f2⟩ := res_cells hre
  have HB := Lib.hid (below_then (hb0 _ _ _) hb)
  have HM := Lib.hid hM
  obtain ⟨A1, c1, rfl, _⟩ := MadeX.form rowL_len hM
  obtain ⟨N1, hN1⟩ : ∃ N1, s1.length = N1 := ⟨_, rfl⟩
  rw [hN1] at HM ⊢
  unfold resv
  clear hM hb hre hb0 hN1
  go_wp2
  refine bodyPost_ret (v := .tuple #[.slice A1 N1 c1, .agg #[.int .i64 s2, .int .u32 s3, .slice none 0 0], .int .i64 err]) ?_ rfl ⟨_, _, rfl, IsRV.turned HM.out (Below.refl _ _) (by simp) _ _ _, isrv_none _, ?_⟩
  · simp [results, Tryz.results41, go_sem, r0, r1, r2]
  · exact ((HB.out.setCell (by simp; omega) _).setCell (by simp; omega) _).setCell (by simp; omega) _

set_option maxRecDepth 100000 in
set_option maxHeartbeats 4000000 in
theorem mindex_any (c : Cf) (A : Option Addr) (l : List R) (d : Nat) (o : O) (ho : Wf o) (hAn : A = none → l.length = 0 ∧ d = 0) (hl : l.length ≤ 100000) (_ : ∀ x ∈ l, x.1 < 18446744073709551616) (hobj : c.obj = 2) (w : World) (hp : Obs w) (h : IsR w A l) :
    Calls Tryz.prog 70 #[cfv c, .slice A l.length d, opv o] w (DidM (doMR c l o) (doME c l) w) := by
  have HD := Lib.hid (fun W hp hA => odo_any c A l d o ho hAn hl W hp hA)
  have HA := Lib.hid h
  have HP := Lib.hid hp
  rw [do_2 hobj, err_2 hobj]
  obtain ⟨s, hs⟩ : ∃ s, doOR c l o = s := ⟨_, rfl⟩
  rw [hs] at HD ⊢
  obtain ⟨err, he⟩ : ∃ x, doOE c l = x := ⟨_, rfl⟩
  rw [he] at HD ⊢
  obtain ⟨N, hN⟩ : ∃ N, l.length = N := ⟨_, rfl⟩
  rw [hN] at HD ⊢
  clear hs he hN h hp hl  hAn hobj
  obtain ⟨s1, s2, s3, s4⟩ := s
  unfold cfv opv at *
  go_enter Tryz.func70, Tryz.ntmps70
  go_wp2_with fail
  have hb0 := fun a b c => below_three w a b c
  refine (HD.out _ (HP.out.below (hb0 _ _ _)) (HA.out.below (hb0 _ _ _))).mono ?_
  rintro e w1 ⟨u, r, rfl, hM, hR, hap, hb⟩
  have hre := (hb.block (w.heap.size + 1 + 1) (by simp)).trans (third_new w _ _ _)
  obtain ⟨r0, f0, r1, f1, r2, f2⟩ := res_cells hre
  have HB := Lib.hid (below_then (hb0 _ _ _) hb)
  have HM := Lib.hid hM
  obtain ⟨A1, c1, rfl, _⟩ := MadeX.form rowL_len hM
  obtain ⟨N1, hN1⟩ : ∃ N1, s1.length = N1 := ⟨_, rfl⟩
  rw [hN1] at HM ⊢
  have HR := Lib.hid hR
  obtain ⟨A2, c2, rfl, _⟩ := MadeX.form rowL_len hR
  obtain ⟨N2, hN2⟩ : ∃ N2, s4.length = N2 := ⟨_, rfl⟩
  rw [hN2] at HR ⊢
  clear hR hN2
  clear hM hb hre hb0 hN1
  go_wp2
  refine bodyPost_ret (v := .tuple #[.slice A1 N1 c1, .agg #[.int .i64 s2, .int .u32 s3, .slice A2 N2 c2], .int .i64 err]) ?_ rfl ⟨_, _, rfl, IsRV.turned HM.out (Below.refl _ _) (by simp) _ _ _, IsRV.turned HR.out (Below.refl _ _) (by simp) _ _ _, ?_⟩
  · simp [results, Tryz.results70, go_sem, r0, r1, r2]
  · exact ((HB.out.setCell (by simp; omega) _).setCell (by simp; omega) _).setCell (by simp; omega) _

set_option maxRecDepth 100000 in
set_option maxHeartbeats 4000000 in
theorem maccess_any (c : Cf) (A : Option Addr) (l : List R) (d : Nat) (o : O) (ho : Wf o) (hAn : A = none → l.length = 0 ∧ d = 0) (hl : l.length ≤ 100000) (hw64 : ∀ x ∈ l, x.1 < 18446744073709551616) (hobj : c.obj = 3) (w : World) (hp : Obs w) (h : IsR w A l) :
    Calls Tryz.prog 88 #[cfv c, .slice A l.length d, opv o] w (DidM (doMR c l o) (doME c l) w) := by
  have HD := Lib.hid (fun W hp hA => udo_any c A l d o ho hAn hl hw64 W hp hA)
  have HA := Lib.hid h
  have HP := Lib.hid hp
  rw [do_3 hobj, err_3 hobj]
  obtain ⟨s, hs⟩ : ∃ s, doUR c l o = s := ⟨_, rfl⟩
  rw [hs] at HD ⊢
  obtain ⟨err, he⟩ : ∃ x, doUE c l = x := ⟨_, rfl⟩
  rw [he] at HD ⊢
  obtain ⟨N, hN⟩ : ∃ N, l.length = N := ⟨_, rfl⟩
  rw [hN] at HD ⊢
  clear hs he hN h hp hl hw64 hAn hobj
  obtain ⟨s1, s2, s3⟩ := s
  unfold cfv opv at *
  go_enter Tryz.func88, Tryz.ntmps88
  go_wp2_with fail
  have hb0 := fun a b c => below_three w a b c
  refine (HD.out _ (HP.out.below (hb0 _ _ _)) (HA.out.below (hb0 _ _ _))).mono ?_
  rintro e w1 ⟨u, rfl, hM, hb⟩
  have hre := (hb.block (w.heap.size + 1 + 1) (by simp)).trans (third_new w _ _ _)
  obtain ⟨r0, f0, r1, f1, r2, f2⟩ := res_cells hre
  have HB := Lib.hid (below_then (hb0 _ _ _) hb)
  have HM := Lib.hid hM
  obtain ⟨A1, c1, rfl, _⟩ := MadeX.form rowL_len hM
  obtain ⟨N1, hN1⟩ : ∃ N1, s1.length = N1 := ⟨_, rfl⟩
  rw [hN1] at HM ⊢
  unfold resv
  clear hM hb hre hb0 hN1
  go_wp2
  refine bodyPost_ret (v := .tuple #[.slice A1 N1 c1, .agg #[.int .i64 s2, .int .u32 s3, .slice none 0 0], .int .i64 err]) ?_ rfl ⟨_, _, rfl, IsRV.turned HM.out (Below.refl _ _) (by simp) _ _ _, isrv_none _, ?_⟩
  · simp [results, Tryz.results88, go_sem, r0, r1, r2]
  · exact ((HB.out.setCell (by simp; omega) _).setCell (by simp; omega) _).setCell (by simp; omega) _

set_option maxRecDepth 100000 in
set_option maxHeartbeats 4000000 in
theorem msettings_any (c : Cf) (A : Option Addr) (l : List R) (d : Nat) (o : O) (ho : Wf o) (hAn : A = none → l.length = 0 ∧ d = 0) (hl : l.length ≤ 100000) (hw64 : ∀ x ∈ l, x.1 < 18446744073709551616) (hobj : c.obj ≠ 1 ∧ c.obj ≠ 2 ∧ c.obj ≠ 3) (w : World) (hp : Obs w) (h : IsR w A l) :
    Calls Tryz.prog 103 #[cfv c, .slice A l.length d, opv o] w (DidM (doMR c l o) (doME c l) w) := by
  have HD := Lib.hid (fun W hp hA => pdo_any c A l d o ho hAn hl hw64 W hp hA)
  have HA := Lib.hid h
  have HP := Lib.hid hp
  rw [do_4 hobj.1 hobj.2.1 hobj.2.2, err_4 hobj.1 hobj.2.1 hobj.2.2]
  obtain ⟨s, hs⟩ : ∃ s, doPR c l o = s := ⟨_, rfl⟩
  rw [hs] at HD ⊢
  obtain ⟨err, he⟩ : ∃ x, doPE c l = x := ⟨_, rfl⟩
  rw [he] at HD ⊢
  obtain ⟨N, hN⟩ : ∃ N, l.length = N := ⟨_, rfl⟩
  rw [hN] at HD ⊢
  clear hs he hN h hp hl hw64 hAn hobj
  obtain ⟨s1, s2, s3⟩ := s
  unfold cfv opv at *
  go_enter Tryz.func103, Tryz.ntmps103
  go_wp2_with fail
  have hb0 := fun a b c => below_three w a b c
  refine (HD.out _ (HP.out.below (hb0 _ _ _)) (HA.out.below (hb0 _ _ _))).mono ?_
  rintro e w1 ⟨u, rfl, hM, hb⟩
  have hre := (hb.block (w.heap.size + 1 + 1) (by simp)).trans (third_new w _ _ _)
  obtain ⟨r0, f0, r1, f1, r2, f2⟩ := res_cells hre
  have HB := Lib.hid (below_then (hb0 _ _ _) hb)
  have HM := Lib.hid hM
  obtain ⟨A1, c1, rfl, _⟩ := MadeX.form rowL_len hM
  obtain ⟨N1, hN1⟩ : ∃ N1, s1.length = N1 := ⟨_, rfl⟩
  rw [hN1] at HM ⊢
  unfold resv
  clear hM hb hre hb0 hN1
  go_wp2
  refine bodyPost_ret (v := .tuple #[.slice A1 N1 c1, .agg #[.int .i64 s2, .int .u32 s3, .slice none 0 0], .int .i64 err]) ?_ rfl ⟨_, _, rfl, IsRV.turned HM.out (Below.refl _ _) (by simp) _ _ _, isrv_none _, ?_⟩
  · simp [results, Tryz.results103, go_sem, r0, r1, r2]
  · exact ((HB.out.setCell (by simp; omega) _).setCell (by simp; omega) _).setCell (by simp; omega) _

end Go.Proofs.YtnepdbfnbikplaaGreatDoor
