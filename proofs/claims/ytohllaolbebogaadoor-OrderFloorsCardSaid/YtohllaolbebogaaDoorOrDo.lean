/- The document's own answers on an index: Do, of whatever config, rows and operation. -/
import Derived.Test.YtohllaolbebogaaDoorOrDone
namespace Go.Proofs.YtohllaolbebogaaDoor
open Go.RowKit Tb Pt Opn

/-- Three answers: rows, an answer with rows, an error. -/
def Did6 (s : List R × Int × Int × List R) (err : Int) (w : World) (e : Ending) (w' : World) : Prop := ∃ u r, e = .returned (.tuple #[u, .agg #[.int .i64 s.2.1, .int .u32 s.2.2.1, r], .int .i64 err]) ∧ IsRV w' u s.1 ∧ IsRV w' r s.2.2.2 ∧ NewV w.heap.size r ∧ Below w.heap.size w w'
def doOR (c : Cf) (l : List R) (o : O) : List R × Int × Int × List R :=
  if ¬ (Ok c ∧ c.obj = 2) then ([], 0, 0, []) else if ¬ IsOr c l then ([], 0, 0, []) else if chk c o ≠ 0 then (l, chk c o, 0, []) else doneO c.cap.toNat l o.k o.a o.b
def doOE (c : Cf) (l : List R) : Int := if ¬ (Ok c ∧ c.obj = 2) then 40 else if ¬ IsOr c l then 2 else 0
theorem index_kind {k : Nat} (h : (objAt k : Int) = 2) : 4 ≤ k ∧ k ≤ 8 := by
  unfold objAt at h
  (repeat' split at h) <;> omega
theorem doneO_len {cap : Nat} {l : List R} (k a b : Nat) (hu : Up l) : (doneO cap l k a b).1.length ≤ l.length + 1 := by
  have h1 := len_put a b hu
  have h2 := cut_length l a
  unfold doneO
  (repeat' split) <;> simp only <;> (try (split at h1)) <;> omega

set_option maxRecDepth 20000 in
set_option maxHeartbeats 4000000 in
theorem rODo_conf (c : Cf) (A : Option Addr) (l : List R) (d : Nat) (o : O) (_ : l.length ≤ 1000000) (hno : ¬ (Ok c ∧ c.obj = 2)) (w : World) (_ : IsR w A l) :
    Calls Tryd.prog 16 #[cfv c, .slice A l.length d, opv o] w (Did6 ([], 0, 0, []) 40 w) := by
  have HM := Lib.hid (rMayBe_any c)
  generalize l.length = N at *
  cases hok : okB c with
  | false =>
    rw [hok] at HM
    clear hno hok
    unfold cfv opv at *
    go_enter Tryd.func16, Tryd.ntmps16
    go_wp2_with (go_at_call 30; refine (HM.out _).mono ?_; rintro e w1 ⟨rfl, hb1⟩; obtain ⟨hc1, hf1⟩ := bcell hb1)
    refine bodyPost_ret (v := .tuple #[.slice none 0 0, .agg #[.int .i64 0, .int .u32 0, .slice none 0 0], .int .i64 40]) ?_ rfl ⟨_, _, rfl, ?_, isrv_nil _, newv_nil _, ?_⟩
    · simp [results, Tryd.results16, go_sem, hc1]
    · exact ⟨none, 0, rfl, ⟨by simp, by simp⟩, fun _ => ⟨rfl, rfl⟩, IsL.nil _ _ _ _⟩
    · exact ((((below_then (below_three _ _ _ _) hb1).setCell (by simp; omega) _).setCell (by simp; omega) _).setCell (by simp; omega) _)
  | true =>
    have ho : c.obj ≠ 2 := fun e => hno ⟨ok_of hok, e⟩
    have ho2 : (c.obj != 2) = true := bne_iff_ne.2 ho
    rw [hok] at HM
    clear hno hok
    unfold cfv opv at *
    go_enter Tryd.func16, Tryd.ntmps16
    go_wp2_with (go_at_call 30; refine (HM.out _).mono ?_; rintro e w1 ⟨rfl, hb1⟩; obtain ⟨hc1, hf1⟩ := bcell hb1)
    refine bodyPost_ret (v := .tuple #[.slice none 0 0, .agg #[.int .i64 0, .int .u32 0, .slice none 0 0], .int .i64 40]) ?_ rfl ⟨_, _, rfl, ?_, isrv_nil _, newv_nil _, ?_⟩
    · simp [results, Tryd.results16, go_sem, hc1]
    · exact ⟨none, 0, rfl, ⟨by simp, by simp⟩, fun _ => ⟨rfl, rfl⟩, IsL.nil _ _ _ _⟩
    · exact ((((below_then (below_three _ _ _ _) hb1).setCell (by simp; omega) _).setCell (by simp; omega) _).setCell (by simp; omega) _)

set_option maxRecDepth 20000 in
set_option maxHeartbeats 4000000 in
theorem rODo_arg (c : Cf) (A : Option Addr) (l : List R) (d : Nat) (o : O) (hl : l.length ≤ 1000000) (hok : Ok c) (hob : c.obj = 2) (hno : ¬ IsOr c l) (w : World) (h : IsR w A l) :
    Calls Tryd.prog 16 #[cfv c, .slice A l.length d, opv o] w (Did6 ([], 0, 0, []) 2 w) := by
  have HM := Lib.hid (rMayBe_any c)
  have HI := Lib.hid (fun W hA => rOrIs_any c A l d hl W hA)
  have HA := Lib.hid h
  rw [orB_false hno] at HI
  rw [ok_bit hok] at HM
  generalize l.length = N at *
  clear h hno hok
  unfold cfv opv at *
  rw [hob] at HM HI ⊢
  clear hob
  go_enter Tryd.func16, Tryd.ntmps16
  go_wp2_with (first
    | (go_at_call 30; refine (HM.out _).mono ?_; rintro e w1 ⟨rfl, hb1⟩; obtain ⟨hc1, hf1⟩ := bcell hb1)
    | (go_at_call 17; refine (HI.out _ (HA.out.below (below_then (below_three _ _ _ _) hb1))).mono ?_; rintro e w2 ⟨rfl, hb2⟩; replace hb1 := below_then hb1 hb2; clear hc1 hf1 hb2; obtain ⟨hc1, hf1⟩ := bcell hb1))
  refine bodyPost_ret (v := .tuple #[.slice none 0 0, .agg #[.int .i64 0, .int .u32 0, .slice none 0 0], .int .i64 2]) ?_ rfl ⟨_, _, rfl, ?_, isrv_nil _, newv_nil _, ?_⟩
  · simp [results, Tryd.results16, go_sem, hc1]
  · exact ⟨none, 0, rfl, ⟨by simp, by simp⟩, fun _ => ⟨rfl, rfl⟩, IsL.nil _ _ _ _⟩
  · exact ((((below_then (below_three _ _ _ _) hb1).setCell (by simp; omega) _).setCell (by simp; omega) _).setCell (by simp; omega) _)

set_option maxRecDepth 20000 in
set_option maxHeartbeats 4000000 in
theorem rODo_bad (c : Cf) (A : Option Addr) (l : List R) (d : Nat) (o : O) (ho : Wf o) (hAn : A = none → l.length = 0 ∧ d = 0) (hl : l.length ≤ 1000000) (ht : IsOr c l) (hbad : chk c o ≠ 0) (w : World) (h : IsR w A l) :
    Calls Tryd.prog 16 #[cfv c, .slice A l.length d, opv o] w (Did6 (l, chk c o, 0, []) 0 w) := by
  have HM := Lib.hid (rMayBe_any c)
  have HI := Lib.hid (fun W hA => rOrIs_any c A l d hl W hA)
  have HC := Lib.hid (rCheck_op c o ho)
  have HCp := Lib.hid (fun W hA => rCopy_any A l d hl hAn W hA)
  have HA := Lib.hid h
  rw [orB_true ht] at HI
  rw [ok_bit ht.1] at HM
  have hob := ht.2.1
  generalize l.length = N at *
  generalize chk c o = x at *
  have hbad2 : (x != 0) = true := bne_iff_ne.2 hbad
  clear h ht hAn ho
  unfold cfv opv at *
  rw [hob] at HM HI HC ⊢
  clear hob
  go_enter Tryd.func16, Tryd.ntmps16
  go_wp2_with (first
    | (go_at_call 30; refine (HM.out _).mono ?_; rintro e w1 ⟨rfl, hb1⟩; obtain ⟨hc1, hf1⟩ := bcell hb1)
    | (go_at_call 17; refine (HI.out _ (HA.out.below (below_then (below_three _ _ _ _) hb1))).mono ?_; rintro e w2 ⟨rfl, hb2⟩; replace hb1 := below_then hb1 hb2; clear hc1 hf1 hb2; obtain ⟨hc1, hf1⟩ := bcell hb1)
    | (go_at_call 31; refine (HC.out _).mono ?_; rintro e w2 ⟨rfl, hb2⟩; replace hb1 := below_then hb1 hb2; clear hc1 hf1 hb2; obtain ⟨hc1, hf1⟩ := bcell hb1))
  refine (HCp.out _ (HA.out.below (below_then (below_three _ _ _ _) hb1))).mono ?_
  rintro e w5 ⟨u, rfl, hM5, hb5⟩
  have hs : w.heap.size + 1 + 1 < w2.heap.size := Nat.lt_of_lt_of_le (by simp) hb1.size
  have z0 : w5.cell? ⟨w.heap.size + 1 + 1, 0, none⟩ = some (.int .i64 0) := (hb5.cell hs).trans ((hc1 _ _ (by simp)).trans (by simp [go_sem]))
  have z1 : w5.cell? ⟨w.heap.size + 1 + 1, 1, none⟩ = some (.int .u32 0) := (hb5.cell hs).trans ((hc1 _ _ (by simp)).trans (by simp [go_sem]))
  have z2 : w5.cell? ⟨w.heap.size + 1 + 1, 2, none⟩ = some (.slice none 0 0) := (hb5.cell hs).trans ((hc1 _ _ (by simp)).trans (by simp [go_sem]))
  have f0 : w5.frozen? ⟨w.heap.size + 1 + 1, 0, none⟩ = false := (hb5.frozen hs).trans ((hf1 _ _ (by simp)).trans (by simp [go_sem]))
  have f1 : w5.frozen? ⟨w.heap.size + 1 + 1, 1, none⟩ = false := (hb5.frozen hs).trans ((hf1 _ _ (by simp)).trans (by simp [go_sem]))
  have f2 : w5.frozen? ⟨w.heap.size + 1 + 1, 2, none⟩ = false := (hb5.frozen hs).trans ((hf1 _ _ (by simp)).trans (by simp [go_sem]))
  have HM5 := Lib.hid hM5
  clear hM5 hc1 hf1
  go_wp2
  refine bodyPost_ret (v := .tuple #[u, .agg #[.int .i64 x, .int .u32 0, .slice none 0 0], .int .i64 0]) ?_ rfl ⟨_, _, rfl, ?_, isrv_nil _, newv_nil _, ?_⟩
  · simp [results, Tryd.results16, go_sem, z0, z1, z2]
  · exact IsRV.turned HM5.out (Below.refl _ _) hs _ _ _
  · exact ((((below_then (below_then (below_three _ _ _ _) hb1) hb5).setCell (by simp; omega) _).setCell (by simp; omega) _).setCell (by simp; omega) _)

set_option maxRecDepth 20000 in
set_option maxHeartbeats 4000000 in
theorem rODo_good (c : Cf) (A : Option Addr) (l : List R) (d : Nat) (o : O) (ho : Wf o) (hd : l.length ≤ d ∧ d ≤ 9223372036854775807) (hAn : A = none → l.length = 0 ∧ d = 0) (hl : l.length ≤ 100000) (ht : IsOr c l) (hk : 4 ≤ o.k ∧ o.k ≤ 8) (hgood : chk c o = 0) (w : World) (h : IsR w A l) :
    Calls Tryd.prog 16 #[cfv c, .slice A l.length d, opv o] w (Did6 (doneO c.cap.toNat l o.k o.a o.b) 0 w) := by
  have HM := Lib.hid (rMayBe_any c)
  have HI := Lib.hid (fun W hA => rOrIs_any c A l d (by omega) W hA)
  have HC := Lib.hid (rCheck_op c o ho)
  have hcap : c.cap = (c.cap.toNat : Nat) := by have := ht.2.2.1; omega
  have HD := Lib.hid (fun W hA => rODone_any c c.cap.toNat hcap A l d o ho hk hd hAn (by omega) ht.2.2.2.1 ht.2.2.2.2 W hA)
  have hlen := doneO_len (cap := c.cap.toNat) o.k o.a o.b ht.2.2.2.1
  generalize doneO c.cap.toNat l o.k o.a o.b = s at *
  obtain ⟨rows, x, y, ρ⟩ := s
  simp only at hlen
  have hl2 : rows.length ≤ 1000000 := by omega
  have HA := Lib.hid h
  rw [orB_true ht] at HI
  rw [ok_bit ht.1] at HM
  rw [hgood] at HC
  have hob := ht.2.1
  clear hlen hcap
  generalize l.length = N at *
  clear h ht hAn ho hk hgood hd hl
  unfold cfv opv at *
  rw [hob] at HM HI HC HD ⊢
  clear hob
  go_enter Tryd.func16, Tryd.ntmps16
  go_wp2_with (first
    | (go_at_call 30; refine (HM.out _).mono ?_; rintro e w1 ⟨rfl, hb1⟩; obtain ⟨hc1, hf1⟩ := bcell hb1)
    | (go_at_call 17; refine (HI.out _ (HA.out.below (below_then (below_three _ _ _ _) hb1))).mono ?_; rintro e w2 ⟨rfl, hb2⟩; replace hb1 := below_then hb1 hb2; clear hc1 hf1 hb2; obtain ⟨hc1, hf1⟩ := bcell hb1)
    | (go_at_call 31; refine (HC.out _).mono ?_; rintro e w2 ⟨rfl, hb2⟩; replace hb1 := below_then hb1 hb2; clear hc1 hf1 hb2; obtain ⟨hc1, hf1⟩ := bcell hb1))
  refine (HD.out _ (HA.out.below (below_then (below_three _ _ _ _) hb1))).mono ?_
  rintro e w3 ⟨u3, r3, rfl, hR3, hQ3, hN3, hb3⟩
  have HNV := Lib.hid (show NewV w.heap.size r3 from fun b hb => Nat.le_trans (by have := hb1.size; simp at this; omega) (hN3 b hb))
  clear hN3
  obtain ⟨A3, c3, rfl, h31, h32, h33⟩ := hR3
  obtain ⟨Aq, cq, rfl, h41, h42, h43⟩ := hQ3
  simp only at h31 h32 h33 h41 h42 h43
  have HCp := Lib.hid (fun W hA => rCopy_any A3 rows c3 hl2 h32 W hA)
  have hs : w.heap.size + 1 + 1 < w2.heap.size := Nat.lt_of_lt_of_le (by simp) hb1.size
  have hs3 : w.heap.size + 1 + 1 < w3.heap.size := Nat.lt_of_lt_of_le hs hb3.size
  have z0 : w3.cell? ⟨w.heap.size + 1 + 1, 0, none⟩ = some (.int .i64 0) := (hb3.cell hs).trans ((hc1 _ _ (by simp)).trans (by simp [go_sem]))
  have z1 : w3.cell? ⟨w.heap.size + 1 + 1, 1, none⟩ = some (.int .u32 0) := (hb3.cell hs).trans ((hc1 _ _ (by simp)).trans (by simp [go_sem]))
  have z2 : w3.cell? ⟨w.heap.size + 1 + 1, 2, none⟩ = some (.slice none 0 0) := (hb3.cell hs).trans ((hc1 _ _ (by simp)).trans (by simp [go_sem]))
  have f0 : w3.frozen? ⟨w.heap.size + 1 + 1, 0, none⟩ = false := (hb3.frozen hs).trans ((hf1 _ _ (by simp)).trans (by simp [go_sem]))
  have f1 : w3.frozen? ⟨w.heap.size + 1 + 1, 1, none⟩ = false := (hb3.frozen hs).trans ((hf1 _ _ (by simp)).trans (by simp [go_sem]))
  have f2 : w3.frozen? ⟨w.heap.size + 1 + 1, 2, none⟩ = false := (hb3.frozen hs).trans ((hf1 _ _ (by simp)).trans (by simp [go_sem]))
  have HB := Lib.hid (below_then (below_then (below_three _ _ _ _) hb1) hb3)
  have HR := Lib.hid h33
  have HQ := Lib.hid h43
  have HQQ := Lib.hid (And.intro h41 h42)
  clear hc1 hf1 h31 h32 h33 h41 h42 h43 HM HI HC HD HA
  simp only
  obtain ⟨M, hM⟩ : ∃ M, ρ.length = M := ⟨_, rfl⟩
  rw [hM]
  have HMM := Lib.hid hM
  clear hM
  go_wp2_with fail
  obtain ⟨W, hW⟩ : ∃ W, W = w3.alloc (.cells #[.int .i64 x, .int .u32 y, .slice Aq M cq] 27) := ⟨_, rfl⟩
  have hbW : Below w3.heap.size w3 W := by rw [hW]; exact below_one _ _
  rw [← hW]
  have r0 : W.cell? ⟨w3.heap.size, 0, none⟩ = some (.int .i64 x) := by rw [hW]; simp [go_sem]
  have r1 : W.cell? ⟨w3.heap.size, 1, none⟩ = some (.int .u32 y) := by rw [hW]; simp [go_sem]
  have r2 : W.cell? ⟨w3.heap.size, 2, none⟩ = some (.slice Aq M cq) := by rw [hW]; simp [go_sem]
  have hsr : w3.heap.size < W.heap.size := by rw [hW]; simp
  clear hW
  replace z0 := (hbW.cell hs3).trans z0
  replace f0 := (hbW.frozen hs3).trans f0
  replace z1 := (hbW.cell hs3).trans z1
  replace f1 := (hbW.frozen hs3).trans f1
  replace z2 := (hbW.cell hs3).trans z2
  replace f2 := (hbW.frozen hs3).trans f2
  have hs4 : w.heap.size + 1 + 1 < W.heap.size := by omega
  have HRW := Lib.hid (HR.out.below hbW)
  have HQW := Lib.hid (HQ.out.below hbW)
  have HTT := Lib.hid (show Three W (w.heap.size + 1 + 1) (.int .i64 0) (.int .u32 0) (.slice none 0 0) from ⟨z0, f0, z1, f1, z2, f2⟩)
  have HBW := Lib.hid (show Below w.heap.size w W.drew from (below_then HB.out hbW).trans ⟨rfl, rfl, rfl, Nat.le_refl _, fun _ _ => rfl⟩)
  clear HR HQ HB hs hs3 hb1 hb3 hbW
  obtain ⟨q, hq⟩ : ∃ q, w3.heap.size = q := ⟨_, rfl⟩
  rw [hq] at r0 r1 r2 hsr ⊢
  clear hq
  go_cut [6, 8] (fun s6 s8 wx => ∃ u, s6 = u ∧ s8 = .int .i64 0 ∧ Hid (IsRV wx u rows ∧ IsL wx Aq 2 rowL ρ ∧ Below w.heap.size w wx ∧ wx.cell? ⟨w.heap.size + 1 + 1, 0, none⟩ = some (.int .i64 x) ∧ wx.cell? ⟨w.heap.size + 1 + 1, 1, none⟩ = some (.int .u32 y) ∧ wx.cell? ⟨w.heap.size + 1 + 1, 2, none⟩ = some (.slice Aq M cq)))
  case first =>
    go_region_with (first
      | (go_at_call 32; refine (HCp.out _ (HRW.out.keep ?_)).mono ?_; (with_reducible exact keep0 W); rintro e w5 ⟨u, rfl, hM5, hb5⟩; obtain ⟨hz5, hc5⟩ := keep_below hb5 (keep0 W); obtain ⟨_, hf5⟩ := fkeep_below hb5 (fkeep0 W); have HM5 := Lib.hid hM5; clear hM5)
      | fail)
    all_goals
      go_wp2_with fail
      go_meet
      refine ⟨_, rfl, rfl, Lib.hid ⟨IsRV.turned HM5.out (Below.refl _ _) hs4 _ _ _, isr_set3 (HQW.out.below (below_then (below_drew W) hb5)) (three_below HTT.out (below_then (below_drew W) hb5) hs4) _ _ _, ?_, ?_, ?_, ?_⟩⟩
      · exact below_set3 (below_then HBW.out hb5) (by omega) _ _ _
      · simp [go_sem, hc5, hs4, z0]
      · simp [go_sem, hc5, hs4, z1]
      · simp [go_sem, hc5, hs4, z2]
  case rest =>
    obtain ⟨u, hu6, rfl, HX⟩ := hcut
    obtain ⟨e1, e6, e2, e3, e4, e5⟩ := HX.out
    have HE := Lib.hid (And.intro e1 (And.intro e6 e2))
    clear e1 e2 e6
    subst hu6
    go_wp2
    refine bodyPost_ret (v := .tuple #[u6, .agg #[.int .i64 x, .int .u32 y, .slice Aq M cq], .int .i64 0]) ?_ rfl ⟨u6, _, rfl, HE.out.1, ?_, newv_len HNV.out, HE.out.2.2⟩
    · simp [results, Tryd.results16, go_sem, e3, e4, e5]
    · exact ⟨Aq, cq, by rw [HMM.out], HQQ.out.1, HQQ.out.2, HE.out.2.1⟩

theorem rODo_any (c : Cf) (A : Option Addr) (l : List R) (d : Nat) (o : O) (ho : Wf o) (hd : l.length ≤ d ∧ d ≤ 9223372036854775807) (hAn : A = none → l.length = 0 ∧ d = 0) (hl : l.length ≤ 100000) (w : World) (h : IsR w A l) :
    Calls Tryd.prog 16 #[cfv c, .slice A l.length d, opv o] w (Did6 (doOR c l o) (doOE c l) w) := by
  by_cases h1 : Ok c ∧ c.obj = 2
  · by_cases h2 : IsOr c l
    · have e2 : doOE c l = 0 := by unfold doOE; rw [if_neg (not_not_intro h1), if_neg (not_not_intro h2)]
      by_cases h3 : chk c o = 0
      · have e : doOR c l o = doneO c.cap.toNat l o.k o.a o.b := by unfold doOR; rw [if_neg (not_not_intro h1), if_neg (not_not_intro h2), if_neg (not_not_intro h3)]
        rw [e, e2]
        obtain ⟨_, g2, _⟩ := chk_zero h3
        exact rODo_good c A l d o ho hd hAn hl h2 (index_kind (by rw [g2]; exact h1.2)) h3 w h
      · have e : doOR c l o = (l, chk c o, 0, []) := by unfold doOR; rw [if_neg (not_not_intro h1), if_neg (not_not_intro h2), if_pos h3]
        rw [e, e2]
        exact rODo_bad c A l d o ho hAn (by omega) h2 h3 w h
    · have e : doOR c l o = ([], 0, 0, []) := by unfold doOR; rw [if_neg (not_not_intro h1), if_pos h2]
      have e2 : doOE c l = 2 := by unfold doOE; rw [if_neg (not_not_intro h1), if_pos h2]
      rw [e, e2]
      exact rODo_arg c A l d o (by omega) h1.1 h1.2 h2 w h
  · have e : doOR c l o = ([], 0, 0, []) := by unfold doOR; rw [if_pos h1]
    have e2 : doOE c l = 40 := by unfold doOE; rw [if_pos h1]
    rw [e, e2]
    exact rODo_conf c A l d o (by omega) h1 w h
end Go.Proofs.YtohllaolbebogaaDoor
