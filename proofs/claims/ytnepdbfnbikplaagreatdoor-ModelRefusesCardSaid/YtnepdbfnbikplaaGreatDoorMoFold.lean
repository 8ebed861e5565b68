/- The program's own fold of operations. -/
import Derived.Test.YtnepdbfnbikplaaGreatDoorMoMath
import Derived.Test.YtnepdbfnbikplaaGreatDoorMoObj
namespace Go.Proofs.YtnepdbfnbikplaaGreatDoor
open Go.RowKit Go.Lib Tb Pt Opn

/-- An operation's cells. -/
def opC (o : O) : List Value := [.int .u8 (o.k : Nat), .int .u32 (o.a : Nat), .int .u32 (o.b : Nat), .int .u32 (o.c : Nat)]
theorem opC_len (o : O) : (opC o).length = 4 := rfl
theorem isav_none (w : World) : IsAV2 w (.slice none 0 0) [] := ⟨none, 0, rfl, ⟨Nat.le_refl _, by omega⟩, fun _ => ⟨rfl, rfl⟩, fun _ _ h => by cases h⟩
/-- What a fold leaves and answers; nothing that was there has turned. -/
def FoldD (s : List R × List Ans) (err : Int) (w : World) (e : Ending) (w' : World) : Prop := ∃ u t, e = .returned (.tuple #[u, t, .int .i64 err]) ∧ IsRV w' u s.1 ∧ IsAV2 w' t s.2 ∧ Below w.heap.size w w'

set_option maxRecDepth 100000 in
set_option maxHeartbeats 4000000 in
theorem mfold_of (c : Cf) (T F : Nat) (A : Option Addr) (os : List O) (d : Nat) (hc : Ok c) (hl : os.length ≤ 1024) (hw : ∀ o ∈ os, Wf o)
    (hm : ∀ W : World, (method 259 T (cfv c) "bascule/model.do").run Tryz.prog W = .ok (F, cfv c) W) (hE : ∀ args (W : World), (callFunc F args).run Tryz.prog W = .ok (.enter F args) W)
    (hob : ∀ W, Calls Tryz.prog 11 #[cfv c] W (Ret2 (.iface T (cfv c)) (.int .i64 0) W))
    (hdo : ∀ (A : Option Addr) (l : List R) (d : Nat) (o : O), Wf o → (A = none → l.length = 0 ∧ d = 0) → StM c l → ∀ W, Obs W → IsR W A l → Calls Tryz.prog F #[cfv c, .slice A l.length d, opv o] W (DidM (doMR c l o) (doME c l) W))
    (w : World) (hp : Obs w) (h : IsL w A 4 opC os) :
    Calls Tryz.prog 5 #[cfv c, .slice A os.length d] w (FoldD (foldM c [] os) 0 w) := by
  have HO := Lib.hid hob
  have HD := Lib.hid hdo
  have HP := Lib.hid hp
  have HW := Lib.hid hw
  have HCC := Lib.hid hc
  obtain ⟨N, hN⟩ : ∃ N, os.length = N := ⟨_, rfl⟩
  rw [hN] at hl ⊢
  have HN := Lib.hid hN
  have HA := Lib.hid h
  have hmk := run_make_res N (by omega)
  clear hN h hob hdo hp hw hc
  obtain ⟨Z, hZ⟩ : ∃ Z, Z = FoldD (foldM c [] os) 0 w := ⟨_, rfl⟩
  have HZ := Lib.hid hZ
  rw [← hZ]
  clear hZ
  unfold cfv at *
  go_enter Tryz.func5, Tryz.ntmps5
  go_wp2_with fail
  refine (HO.out _).mono ?_
  rintro e w1 ⟨rfl, hb1⟩
  have HB0 := Lib.hid (below_then (below_one w _) hb1)
  have HAW := Lib.hid (IsL.below HA.out HB0.out)
  have HPW := Lib.hid (HP.out.below HB0.out)
  clear hb1
  obtain ⟨W, hW⟩ : ∃ W, W = w1.alloc (.cells (madeCells #[.int .i64 0, .int .u32 0, .slice none 0 0] (N * 3)) 36) := ⟨_, rfl⟩
  have HT0 := Lib.hid (show ToldIn W w1.heap.size N [] by rw [hW]; exact ToldIn.zeros _ _)
  have HB1 := Lib.hid (show Below w1.heap.size w1 W by rw [hW]; exact below_one _ _)
  have HLT := Lib.hid (show w1.heap.size < W.heap.size by rw [hW]; simp)
  obtain ⟨g, hg⟩ : ∃ g, w1.heap.size = g := ⟨_, rfl⟩
  have HBG := Lib.hid (fun (wr : World) (h : Below g w1 wr) => show Below w1.heap.size w1 wr by rw [hg]; exact h)
  rw [hg] at HT0 HB1 HLT
  go_wp2_with fail
  rw [← hW]
  clear hW hg hmk
  go_loopw [4, 26] (fun u iv wr => Below g w1 wr ∧ g < wr.heap.size ∧ ∃ j : Nat, j ≤ N ∧ iv = .int .i64 j ∧ Hid (IsRV wr u (foldM c [] (os.take j)).1 ∧ ToldIn wr g N (foldM c [] (os.take j)).2)) (fun _ iv _ => N - (RowKit.intOf iv).toNat)
  case atStart => exact ⟨HB1.out, HLT.out, 0, Nat.zero_le _, rfl, Lib.hid ⟨isrv_none _, HT0.out⟩⟩
  case round =>
    obtain ⟨hbr, hgr, j, hj, rfl, HR⟩ := hrel
    have HBR := Lib.hid hbr
    have i1 : (0 : Int) ≤ (j : Int) := by omega
    by_cases hlt : j < N
    · have i2 : (j : Int) < (N : Int) := by omega
      have j1 : j < os.length := by rw [HN.out]; exact hlt
      obtain ⟨b, off, rfl, hel⟩ := HAW.out j _ (List.getElem?_eq_getElem j1)
      have hwf := HW.out _ (List.getElem_mem j1)
      have HAT := Lib.hid (foldM_at c [] os j1)
      obtain ⟨o, ho⟩ : ∃ o, os[j] = o := ⟨_, rfl⟩
      rw [ho] at hel hwf HAT
      have e0 := hel 0 _ rfl
      rw [Nat.add_zero] at e0
      have e1 := hel 1 _ rfl
      have e2 := hel 2 _ rfl
      have e3 := hel 3 _ rfl
      have hbw := HBG.out wr hbr
      replace e0 := (hbw.cell (World.block_lt_of_cell? _ _ e0)).trans e0
      replace e1 := (hbw.cell (World.block_lt_of_cell? _ _ e1)).trans e1
      replace e2 := (hbw.cell (World.block_lt_of_cell? _ _ e2)).trans e2
      replace e3 := (hbw.cell (World.block_lt_of_cell? _ _ e3)).trans e3
      have HBW := Lib.hid hbw
      clear hel ho hbw hbr
      have hst : StM c (foldM c [] (os.take j)).1 := foldM_tab (fun x hx => HW.out x (List.mem_of_mem_take hx)) (st_nil HCC.out)
      obtain ⟨hu, ht⟩ := HR.out
      obtain ⟨Au, cu, rfl, hu1, hu2, hu3⟩ := hu
      have HU := Lib.hid hu3
      have HT := Lib.hid ht
      have HDO := Lib.hid (fun W hp hA => HD.out Au _ cu o hwf hu2 hst W hp hA)
      have HTL := Lib.hid (show (foldM c [] (os.take j)).2.length = j by rw [foldM_len, List.length_take]; omega)
      obtain ⟨l, hll⟩ : ∃ l, (foldM c [] (os.take j)).1 = l := ⟨_, rfl⟩
      obtain ⟨t0, ht0⟩ : ∃ t, (foldM c [] (os.take j)).2 = t := ⟨_, rfl⟩
      rw [hll] at HU HDO HAT ⊢
      rw [ht0] at HT HTL HAT
      obtain ⟨⟨s1, s2, s3, s4⟩, hs⟩ : ∃ s, doMR c l o = s := ⟨_, rfl⟩
      obtain ⟨err, he⟩ : ∃ x, doME c l = x := ⟨_, rfl⟩
      rw [hs] at HDO HAT
      rw [he] at HDO
      simp only at HAT
      clear hu3 ht HR hu1 hu2 hll ht0 hst hs he hwf
      obtain ⟨M, hM⟩ : ∃ M, l.length = M := ⟨_, rfl⟩
      rw [hM] at HDO ⊢
      clear hM
      go_wp2_with fail
      refine (HDO.out _ (HPW.out.below (below_then HBW.out (below_one _ _))) (HU.out.below (below_one _ _))).mono ?_
      rintro e w3 ⟨u3, r3, rfl, hu3, hr3, hb3⟩
      simp only at hu3 hr3
      have hb4 := below_then (below_one wr _) hb3
      have hT3 := HT.out.below hgr hb4
      obtain ⟨v0, p0, q0⟩ := hT3.2.1 (j * 3) (by omega)
      obtain ⟨v1, p1, q1⟩ := hT3.2.1 (j * 3 + 1) (by omega)
      obtain ⟨v2, p2, q2⟩ := hT3.2.1 (j * 3 + 2) (by omega)
      have hp' := hT3.put (by rw [HTL.out]; omega) s2 s3 hr3
      rw [HTL.out] at hp'
      have HPT := Lib.hid hp'
      have HKU := Lib.hid (fun v => hT3.keep (o := j * 3) (by omega) s2 s3 (v := v) hu3)
      have HBX := Lib.hid (show Below g w1 w3 from HBR.out.trans (hb4.mono (Nat.le_of_lt hgr)))
      have HGX := Lib.hid (show g < w3.heap.size from Nat.lt_of_lt_of_le hgr hb4.size)
      obtain ⟨A3, n3, rfl, _⟩ := hu3
      obtain ⟨A4, n4, rfl, _⟩ := hr3
      obtain ⟨N3, hN3⟩ : ∃ N3, s1.length = N3 := ⟨_, rfl⟩
      obtain ⟨N4, hN4⟩ : ∃ N4, s4.length = N4 := ⟨_, rfl⟩
      rw [hN4] at HPT ⊢
      rw [hN3] at HKU ⊢
      clear hT3 hp' hb3 hb4 e0 e1 e2 e3 hN3 hN4
      go_wp2
      go_roundw
      case rel => exact ⟨((HBX.out.setCell (Nat.le_refl _) _).setCell (Nat.le_refl _) _).setCell (Nat.le_refl _) _, by simp; exact HGX.out, j + 1, by omega, by go_num, Lib.hid ⟨by rw [HAT.out]; exact HKU.out _, by rw [HAT.out]; exact HPT.out⟩⟩
      case measure => simp [RowKit.intOf]; omega
    · obtain rfl : j = N := by omega
      have i2 : ¬ (j : Int) < (j : Int) := by omega
      have HF := Lib.hid HR.out
      rw [← HN.out, List.take_length] at HF
      obtain ⟨hu, ht⟩ := HF.out
      obtain ⟨A1, c1, rfl, g1, g2, g3⟩ := hu
      have HUU := Lib.hid (show IsRV wr (.slice A1 _ c1) (foldM c [] os).1 from ⟨A1, c1, rfl, g1, g2, g3⟩)
      have hl2 : (foldM c [] os).2.length = j := by rw [foldM_len]; exact HN.out
      have HTT := Lib.hid (show IsAV2 wr (.slice (some ⟨g, 0, none⟩) j j) (foldM c [] os).2 from ⟨some ⟨g, 0, none⟩, j, by rw [hl2], ⟨by rw [hl2]; exact Nat.le_refl _, by omega⟩, fun h => by (cases h), ht.2.2.2⟩)
      obtain ⟨n1, hn1⟩ : ∃ n, (foldM c [] os).1.length = n := ⟨_, rfl⟩
      rw [hn1] at HUU ⊢
      clear HR HF g1 g2 g3 hn1 ht hl2
      go_wp2
      rw [HZ.out]
      refine bodyPost_ret (v := .tuple #[.slice A1 n1 c1, .slice (some ⟨g, 0, none⟩) j j, .int .i64 0]) ?_ rfl ⟨_, _, rfl, HUU.out, HTT.out, HB0.out.trans ((HBG.out _ hbr).mono HB0.out.size)⟩
      simp [results, Tryz.results5, go_sem]

set_option maxRecDepth 100000 in
set_option maxHeartbeats 4000000 in
theorem mfold_bad (c : Cf) (A : Option Addr) (os : List O) (d : Nat) (hc : ¬ Ok c) (w : World) :
    Calls Tryz.prog 5 #[cfv c, .slice A os.length d] w (FoldD ([], []) 40 w) := by
  have HO := Lib.hid (objectOf_bad c hc)
  clear hc
  generalize os.length = N
  unfold cfv at *
  go_enter Tryz.func5, Tryz.ntmps5
  go_wp2_with (go_at_call 11; refine (HO.out _).mono ?_; rintro e w1 ⟨rfl, hb1⟩; obtain ⟨hc1, hf1⟩ := bcell hb1)
  refine bodyPost_ret (v := .tuple #[.slice none 0 0, .slice none 0 0, .int .i64 40]) ?_ rfl ⟨_, _, rfl, isrv_none _, isav_none _, below_then (below_one w _) hb1⟩
  simp [results, Tryz.results5, go_sem]

set_option maxRecDepth 100000 in
set_option maxHeartbeats 4000000 in
theorem mfold_long (c : Cf) (T : Nat) (A : Option Addr) (os : List O) (d : Nat) (hn : 1024 < os.length)
    (hob : ∀ W, Calls Tryz.prog 11 #[cfv c] W (Ret2 (.iface T (cfv c)) (.int .i64 0) W)) (w : World) :
    Calls Tryz.prog 5 #[cfv c, .slice A os.length d] w (FoldD ([], []) 4 w) := by
  have HO := Lib.hid hob
  generalize os.length = N at *
  have i1 : (N : Int) > 1024 := by omega
  clear hob
  unfold cfv at *
  go_enter Tryz.func5, Tryz.ntmps5
  go_wp2_with (go_at_call 11; refine (HO.out _).mono ?_; rintro e w1 ⟨rfl, hb1⟩; obtain ⟨hc1, hf1⟩ := bcell hb1)
  refine bodyPost_ret (v := .tuple #[.slice none 0 0, .slice none 0 0, .int .i64 4]) ?_ rfl ⟨_, _, rfl, isrv_none _, isav_none _, below_then (below_one w _) hb1⟩
  simp [results, Tryz.results5, go_sem]
end Go.Proofs.YtnepdbfnbikplaaGreatDoor
