/- The program's own operation of whatever config. -/
import Derived.Test.YtnepdbfnbikplaaGreatDoorMoMath
import Derived.Test.YtnepdbfnbikplaaGreatDoorMoObj
import Derived.Test.YtnepdbfnbikplaaGreatDoorGKit
import Derived.BigQuiet
namespace Go.Proofs.YtnepdbfnbikplaaGreatDoor
open Go.RowKit Go.Lib Tb Pt Opn

set_option maxRecDepth 100000 in
set_option maxHeartbeats 4000000 in
theorem mdo_of (c : Cf) (T F : Nat) (A : Option Addr) (l : List R) (d : Nat) (o : O)
    (hm : ∀ W : World, (method 259 T (cfv c) "bascule/model.do").run Tryz.prog W = .ok (F, cfv c) W) (hE : ∀ args (W : World), (callFunc F args).run Tryz.prog W = .ok (.enter F args) W)
    (hob : ∀ W, Calls Tryz.prog 11 #[cfv c] W (Ret2 (.iface T (cfv c)) (.int .i64 0) W))
    (hdo : ∀ W, Obs W → IsR W A l → Calls Tryz.prog F #[cfv c, .slice A l.length d, opv o] W (DidM (doMR c l o) (doME c l) W))
    (w : World) (hp : Obs w) (h : IsR w A l) :
    Calls Tryz.prog 6 #[cfv c, .slice A l.length d, opv o] w (DidM (doMR c l o) (doME c l) w) := by
  have HO := Lib.hid hob
  have HD := Lib.hid hdo
  have HP := Lib.hid hp
  obtain ⟨N, hN⟩ : ∃ N, l.length = N := ⟨_, rfl⟩
  rw [hN] at HD ⊢
  have HA := Lib.hid h
  obtain ⟨⟨s1, s2, s3, s4⟩, hs⟩ : ∃ s, doMR c l o = s := ⟨_, rfl⟩
  obtain ⟨err, he⟩ : ∃ x, doME c l = x := ⟨_, rfl⟩
  rw [hs, he] at HD ⊢
  clear hN h hob hdo hp hs he
  unfold cfv opv at *
  go_enter Tryz.func6, Tryz.ntmps6
  go_wp2_with fail
  refine (HO.out _).mono ?_
  rintro e w1 ⟨rfl, hb1⟩
  have hb0 := below_then (below_three w _ _ _) hb1
  obtain ⟨hc1, hf1⟩ := bcell hb1
  go_wp2_with fail
  have hre := (hb1.block (w.heap.size + 1 + 1) (by simp)).trans (third_new w _ _ _)
  refine (HD.out _ (HP.out.below hb0) (HA.out.below hb0)).mono ?_
  rintro e w2 ⟨u, r, rfl, hM, hR, hb2⟩
  have hre2 := cell_below hre hb2
  have HB := Lib.hid (below_then hb0 hb2)
  simp only at hM hR
  obtain ⟨A1, n1, rfl, g1, g2, g3⟩ := hM
  obtain ⟨A2, n2, rfl, g4, g5, g6⟩ := hR
  have HM := Lib.hid (fun x y z => (show IsRV (((w2.setCell ⟨w.heap.size + 1 + 1, 0, none⟩ x).setCell ⟨w.heap.size + 1 + 1, 1, none⟩ y).setCell ⟨w.heap.size + 1 + 1, 2, none⟩ z) (.slice A1 s1.length n1) s1 from ⟨A1, n1, rfl, g1, g2, isr_set3 g3 (res_cells hre2) _ _ _⟩))
  have HR := Lib.hid (fun x y z => (show IsRV (((w2.setCell ⟨w.heap.size + 1 + 1, 0, none⟩ x).setCell ⟨w.heap.size + 1 + 1, 1, none⟩ y).setCell ⟨w.heap.size + 1 + 1, 2, none⟩ z) (.slice A2 s4.length n2) s4 from ⟨A2, n2, rfl, g4, g5, isr_set3 g6 (res_cells hre2) _ _ _⟩))
  obtain ⟨r0, f0, r1, f1, r2, f2⟩ := res_cells hre2
  obtain ⟨N1, hN1⟩ : ∃ N, s1.length = N := ⟨_, rfl⟩
  obtain ⟨N2, hN2⟩ : ∃ N, s4.length = N := ⟨_, rfl⟩
  rw [hN1] at HM ⊢
  rw [hN2] at HR ⊢
  clear g1 g2 g3 g4 g5 g6 hre hre2 hb0 hb1 hb2 hc1 hf1 hN1 hN2
  go_wp2
  refine bodyPost_ret (v := .tuple #[.slice A1 N1 n1, .agg #[.int .i64 s2, .int .u32 s3, .slice A2 N2 n2], .int .i64 err]) ?_ rfl ⟨_, _, rfl, HM.out _ _ _, HR.out _ _ _, ?_⟩
  · simp [results, Tryz.results6, go_sem, r0, r1, r2]
  · exact ((HB.out.setCell (by simp; omega) _).setCell (by simp; omega) _).setCell (by simp; omega) _
set_option maxRecDepth 100000 in
set_option maxHeartbeats 4000000 in
theorem mdo_bad (c : Cf) (A : Option Addr) (l : List R) (d : Nat) (o : O) (hc : ¬ Ok c) (w : World) :
    Calls Tryz.prog 6 #[cfv c, .slice A l.length d, opv o] w (DidM ([], 0, 0, []) 40 w) := by
  have HO := Lib.hid (objectOf_bad c hc)
  clear hc
  generalize l.length = N
  unfold cfv opv at *
  go_enter Tryz.func6, Tryz.ntmps6
  go_wp2_with fail
  refine (HO.out _).mono ?_
  rintro e w1 ⟨rfl, hb1⟩
  obtain ⟨hc1, hf1⟩ := bcell hb1
  have hre := (hb1.block (w.heap.size + 1 + 1) (by simp)).trans (third_new w _ _ _)
  obtain ⟨r0, f0, r1, f1, r2, f2⟩ := res_cells hre
  have HB := Lib.hid (below_then (below_three w _ _ _) hb1)
  clear hre hb1 hc1 hf1
  go_wp2
  refine bodyPost_ret (v := .tuple #[.slice none 0 0, .agg #[.int .i64 0, .int .u32 0, .slice none 0 0], .int .i64 40]) ?_ rfl ⟨_, _, rfl, isrv_none _, isrv_none _, ?_⟩
  · simp [results, Tryz.results6, go_sem, r0, r1, r2]
  · exact ((HB.out.setCell (by simp; omega) _).setCell (by simp; omega) _).setCell (by simp; omega) _
end Go.Proofs.YtnepdbfnbikplaaGreatDoor
