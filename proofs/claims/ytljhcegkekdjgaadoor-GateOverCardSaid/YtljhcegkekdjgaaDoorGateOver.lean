/- For any config, cells, place, who and what: the first cell that denies ends a check, wherever it stands, and whatever the others say. -/
import Derived.Test.YtljhcegkekdjgaaDoorGtAlive
import Derived.Test.YtljhcegkekdjgaaDoorGTab
import Derived.Test.YtljhcegkekdjgaaDoorGOpen
import Derived.Test.YtljhcegkekdjgaaDoorOpenCells
namespace Go.Proofs.YtljhcegkekdjgaaDoor.gateOver
open Go.ChangeShapes Go.WideShapes Go.ChangeAt Go.RowKit Go.Lib Pt Opn

theorem over_go {c : Cf} {o : O} (hok : Ok c) (ho : c.obj = 3) (hb : chk c o = 0) (hk : o.k = 11) {cs : List Q4} (hl : (cs.length : Int) = c.cap) {m : Nat} (hm : m < cs.length) (hq : cs[m]? = some (0, 2, o.a, 0)) :
    ∃ j, j ≤ m ∧ goG c 80 cs (startF o) (0, 0) = (cs, (0, 2), (j + 1, 0), true) := by
  have hc32 : 1 ≤ c.cap ∧ c.cap ≤ 32 := by have := hok.2.2; unfold RestOk at this; omega
  obtain ⟨j, hj, ⟨p, hp1, hp2, hp3⟩, hlst⟩ := least (P := fun m => ∃ p, cs[m]? = some p ∧ spO o p ∧ p.2.1 = 2) (m + 1) ⟨m, Nat.lt_succ_self m, _, hq, by unfold spO; simp, rfl⟩
  have := hear_deny hok ho hb hk hl hp1 hp2 hp3 (fun i p hi hpi hh => hlst i hi ⟨p, hpi, hh.1, hh.2⟩) (78 - j)
  rw [show j + (78 - j + 2) = 80 by omega] at this
  exact ⟨j, by omega, this⟩

theorem entw {P : Program} {code : Code} {Q : Exit → Act → World → Prop} {x : Act} {w : World} (h : ∀ W, W = w → code.wp P Q x W) : code.wp P Q x w := h w rfl
/-- Behind the check that is done alone: the answer, and the count. -/
def LfO (W X : World) (g q n : Nat) : Prop := Below W.heap.size W X ∧ Cx X g (.int .i64 0) (.int .u32 2) (.slice none 0 0) ∧ Cx X q (.int .i64 (n : Nat)) (.int .i64 0) (.int .i64 0)

set_option maxRecDepth 100000 in
set_option maxHeartbeats 16000000 in
theorem walk (c : Cf) (A : Option Addr) (d : Nat) (l : List Q4) (hAn : A = none → l.length = 0 ∧ d = 0) (hq : ∀ x ∈ l, QWf x) (at' : Int) (who what : Nat) (hwho : who < 4294967296) (hwhat : what < 4294967296) (w : World) (hO : Obs w) (h : IsL w A 4 q4L l) :
    Calls Tryd.prog 8 #[cfv c, .slice A l.length d, .int .i64 at', .int .u32 (who : Nat), .int .u32 (what : Nat)] w (Ret (.bool true) w) := by
  have HOb := Lib.hid hO
  obtain ⟨o, ho⟩ : ∃ o : O, o = ⟨11, who, what, 0⟩ := ⟨_, rfl⟩
  have hwf : Wf o := by rw [ho]; unfold Wf; simp; omega
  obtain ⟨N, hN⟩ : ∃ N, l.length = N := ⟨_, rfl⟩
  have HS := Lib.hid (fun W => gStart_any o hwf W)
  have hdw : DWf (startF o) := by unfold Wf at hwf; unfold DWf startF; simp only; omega
  have HN := Lib.hid (fun W hO => pNextG_any c (startF o) hdw W hO)
  have hst : (nextG c (startF o)).2 = 0 → Ok c ∧ c.obj = 3 ∧ chk c o = 0 := fun h => by
    unfold nextG at h
    split at h
    · simp at h
    · rename_i h1
      split at h
      · simp at h
      · rename_i h2
        have h3 := (Classical.not_not.1 h2).1
        rw [show frG (startF o) = o by rw [ho]; rfl] at h3
        exact ⟨(Classical.not_not.1 h1).1, (Classical.not_not.1 h1).2, h3⟩
  have HDN := Lib.hid (fun B e cs h1 h2 h3 W hW hI => doneG_any c B e cs o hwf h1 h2 h3 W hW hI)
  have hov := fun hok hob hb cs hl m hm hq => over_go (c := c) (o := o) hok hob hb (by rw [ho]) (cs := cs) hl (m := m) hm hq
  have hoa : o.a = who := by rw [ho]
  rw [hoa] at hov
  obtain ⟨f0, hf0⟩ : ∃ f, startF o = f := ⟨_, rfl⟩
  obtain ⟨gg, hgg⟩ : ∃ gg, (fun cs => goG c 80 cs f0 (0, 0)) = gg := ⟨_, rfl⟩
  have hgg' : ∀ cs, goG c 80 cs f0 (0, 0) = gg cs := fun cs => by rw [← hgg]
  rw [hf0] at HS HN hst
  simp only [hf0, hgg'] at HDN hov
  obtain ⟨⟨X0, e0⟩, hX0⟩ : ∃ z, nextG c f0 = z := ⟨_, rfl⟩
  rw [hX0] at HN hst
  simp only at hst
  have HST := Lib.hid (And.intro hst hov)
  have HI := Lib.hid (And.intro hN (And.intro hAn (And.intro hq h)))
  rw [ho] at HS HDN
  unfold opv at HS HDN
  simp only [show ((11 : Nat) : Int) = 11 from rfl, show ((0 : Nat) : Int) = 0 from rfl] at HS HDN
  rw [hN] at hAn ⊢
  clear hO hq h hX0 hf0 hst hov hdw hwf ho hgg hgg' hoa
  unfold cfv frv acv at *
  simp only at HN
  go_enter Tryd.func8, Tryd.ntmps8
  go_wp2_with fail
  refine (galive_any _ (HOb.out.alloc' _)).mono ?_
  rintro e w1 ⟨rfl, hb1⟩
  have hr0 := (hb1.block w.heap.size (by simp)).trans (heap_alloc_new w _)
  have hB1 := below_then (below_one w _) hb1
  clear hb1
  go_upto_region 3 with fail
  refine enter1 fun W3 hb3 g3 q3 => ?_
  have g0 := blk_below hr0 hb3
  have hB3 := below_then hB1 hb3
  have q0 := (Array.getElem?_eq_some_iff.1 g0).1
  obtain ⟨r0, r1, r2, r3, r4, r5, r6, r7, r8, r9, r10, r11⟩ := cl12 g0
  obtain ⟨o0, o1, o2, o3⟩ := cells4p g3
  have HO3 := HOb.out.below hB3
  go_cut [14] (fun s14 wx => s14 = .int .i64 e0 ∧ Hid (Below W3.heap.size W3 wx))
  case first =>
    go_region_held3 (fun X => W3.heap.size ≤ X.heap.size ∧ ∀ b o, b < W3.heap.size → X.cell? ⟨b, o, none⟩ = W3.cell? ⟨b, o, none⟩)
      (first
        | ((repeat' (first
            | with_reducible refine keep_drew ?_
            | with_reducible refine keep_set7 ?_ _ ?_ _ _ _ _ _ _ _
            | with_reducible refine keep_alloc ?_ _
            | with_reducible refine keep_below hb5 ?_
            | with_reducible refine keep_below hb4 ?_
            | with_reducible exact keep_refl _
            | (first | with_reducible exact Nat.le_refl _ | omega | (simp; omega) | (simp; done))));
           done)
        | fail)
      (first
        | ((with_reducible refine (HS.out _).mono ?_); rintro e w4 ⟨rfl, hb4⟩; obtain ⟨hc4, hf4⟩ := bcell hb4; have hs4 := hb4.size; (try simp at hs4); (try have qa0 : W3.heap.size < w4.heap.size := by omega))
        | ((with_reducible refine (HN.out _ (by
              repeat' (first
                | with_reducible exact HO3
                | with_reducible refine Obs.drew' ?_
                | with_reducible refine Obs.alloc' ?_ _
                | with_reducible refine obsB hb4 ?_))).mono ?_); rintro e w5 ⟨rfl, hb5⟩; obtain ⟨hc5, hf5⟩ := bcell hb5; have hs5 := hb5.size; (try simp at hs5); (try have qa1 : W3.heap.size < w5.heap.size := by omega); (try have qa2 : w4.heap.size < w5.heap.size := by omega)))
    all_goals
      (try clear hc4 hf4)
      (try clear hc5 hf5)
      go_wp2_with fail
      go_meet
      refine ⟨rfl, Lib.hid ?_⟩
      repeat' (first
        | with_reducible refine bw_drew ?_
        | with_reducible refine bw_set7 ?_ ?_
        | with_reducible refine bw_alloc ?_
        | with_reducible refine bw_below hb5 ?_
        | with_reducible refine bw_below hb4 ?_
        | with_reducible exact Below.refl _ _
        | omega
        | (simp; omega)
        | (simp; done))
  case rest =>
    obtain ⟨rfl, HC⟩ := hcut
    obtain ⟨W5, hW5⟩ : ∃ Z, Z = wc := ⟨_, rfl⟩
    subst hW5
    have hb5 := HC.out
    have g0' := blk_below g0 hb5
    have g3' := blk_below g3 hb5
    have hB5 := below_then hB3 hb5
    have HB5 := Lib.hid hB5
    clear r0 r1 r2 r3 r4 r5 r6 r7 r8 r9 r10 r11 o0 o1 o2 o3 HC hb5 g0 g3 hB3 hB1 hr0 hb3 q0 q3 HO3 HS HN hB5
    have q0 := (Array.getElem?_eq_some_iff.1 g0').1
    have q3 := (Array.getElem?_eq_some_iff.1 g3').1
    obtain ⟨r0, r1, r2, r3, r4, r5, r6, r7, r8, r9, r10, r11⟩ := cl12 g0'
    obtain ⟨o0, o1, o2, o3⟩ := cells4p g3'
    by_cases hn : 100 < N
    · have n1 : (100 : Int) < (N : Int) := by omega
      go_wp2_with fail
      go_ret
      exact Ret.mk rfl HB5.out
    have n1 : ¬ (100 : Int) < (N : Int) := by omega
    by_cases hcap : (N : Int) = c.cap
    case neg =>
      have n2 : ((N : Int) != c.cap) = true := by simpa using hcap
      go_wp2_with fail
      go_ret
      exact Ret.mk rfl HB5.out
    have n2 : ((N : Int) != c.cap) = false := by simpa using hcap
    by_cases ha : at' < 0
    · go_wp2_with fail
      go_ret
      exact Ret.mk rfl HB5.out
    by_cases ha2 : (N : Int) ≤ at'
    · go_wp2_with fail
      go_ret
      exact Ret.mk rfl HB5.out
    by_cases he : e0 = 0
    case neg =>
      have n3 : (e0 != 0) = true := by simpa using he
      go_wp2_with fail
      go_ret
      exact Ret.mk rfl HB5.out
    subst he
    obtain ⟨m, rfl⟩ : ∃ m : Nat, at' = m := ⟨at'.toNat, by omega⟩
    have hm : m < N := by omega
    have hml : m < l.length := by rw [HI.out.1]; exact hm
    obtain ⟨hok, hob, hchk⟩ := HST.out.1 rfl
    have hcl : ((l.set m (0, 2, who, 0)).length : Int) = c.cap := by rw [List.length_set, HI.out.1]; exact hcap
    obtain ⟨j, hj, hgo⟩ := HST.out.2 hok hob hchk (l.set m (0, 2, who, 0)) hcl m (by rw [List.length_set]; exact hml) (List.getElem?_set_self hml)
    have hqs : ∀ x ∈ l.set m (0, 2, who, 0), QWf x := fun x hx => by
      rcases List.mem_or_eq_of_mem_set hx with h | rfl
      · exact HI.out.2.2.1 x h
      · unfold QWf; simp; omega
    have hls : (l.set m (0, 2, who, 0)).length = N := by rw [List.length_set]; exact HI.out.1
    have HF := Lib.hid (And.intro hgo (And.intro hqs (And.intro hls (And.intro hml hj))))
    have i1 : (0 : Int) ≤ (m : Int) := by omega
    have i2 : (m : Int) < (N : Int) := by omega
    have u1 := wrap64u (a := who) (by omega)
    have HJ := Lib.hid (fun o1 => (HI.out.2.2.2.below HB5.out).below (below_one W5 o1))
    have hN100 : N ≤ 1000 := by omega
    have v1 := HI.out.1
    clear hok hob hchk hcl hgo hqs hls hj HST hn hcap ha2
    go_upto_region 6 with fail
    clear r0 r1 r2 r3 r4 r5 r6 r7 r8 r9 r10 r11 o0 o1 o2 o3
    go_cut [15] (fun s15 wx => ∃ gq cap, s15 = .slice (some ⟨gq, 0, none⟩) N cap ∧ Hid (W5.heap.size ≤ gq ∧ (∀ o, wx.frozen? ⟨gq, o, none⟩ = false) ∧ IsL wx (some ⟨gq, 0, none⟩) 4 q4L l ∧ Below W5.heap.size W5 wx ∧ gq < wx.heap.size))
    case first =>
      go_wp2_with (at_builtin
                   refine wpList_joinX (w0 := W5.alloc _) rfl (.tmp 60) (.tmp 61) _ rfl Tryd.underlying47 cellQ_info rfl (by decide) (B := W5.heap.size) (l := []) (m := l) (A := A) (c := d) q4L_len rfl (World.ownsRow_lit W5 #[] 0 (Nat.le_refl _) (by unfold maxLen; omega) rfl) (hx_len v1 A d) (hA_len v1 hAn) (HJ.out _) q4_one (len_le1 v1 hN100) (len_le2 v1 hN100) (by simp) (Below.refl _ _) ?_
                   intro v6' w6 hM6 hb6 hg6
                   obtain ⟨gq, cap, hv6, hgB, hgl, hfr, hIS⟩ := own_q4 (l := l) hM6.out (by omega)
                   rw [v1] at hv6
                   subst hv6
                   have H6 := Lib.hid (And.intro hgB (And.intro hfr (And.intro hIS (And.intro (Below.trans (below_one W5 _) hb6) hgl))))
                   clear hgB hIS hb6 hM6 hg6 hfr hgl)
      go_meet
      exact ⟨gq, cap, rfl, H6⟩
    case rest =>
    obtain ⟨gq, cap, rfl, H6⟩ := hcut
    obtain ⟨W6, hW6⟩ : ∃ X, X = wc := ⟨_, rfl⟩
    subst hW6
    obtain ⟨hgB, hfr, hIS, b5, hgl⟩ := H6.out
    have e0' := isl_at hIS (List.getElem?_eq_getElem hml) 0 _ rfl
    rw [Nat.add_zero] at e0'
    have e1' := isl_at hIS (List.getElem?_eq_getElem hml) 1 _ rfl
    have e2' := isl_at hIS (List.getElem?_eq_getElem hml) 2 _ rfl
    have e3' := isl_at hIS (List.getElem?_eq_getElem hml) 3 _ rfl
    have H66 := Lib.hid (And.intro (show gq ≠ w.heap.size by omega) (And.intro (show gq ≠ w1.heap.size by omega) (And.intro (show w.heap.size ≤ gq by omega) (And.intro (blk_below g0' b5) (blk_below g3' b5)))))
    have HG0 := Lib.hid (And.intro g0' g3')
    clear hgB hIS b5 hgl g0' g3'
    go_upto_region 7 with fail
    go_cut [15] (fun s15 wx => s15 = .slice (some ⟨gq, 0, none⟩) N cap ∧ Hid (IsL wx (some ⟨gq, 0, none⟩) 4 q4L (l.set m (0, 2, who, 0)) ∧ Below w.heap.size w wx ∧ wx.heap[w.heap.size]? = W5.heap[w.heap.size]? ∧ wx.heap[w1.heap.size]? = W5.heap[w1.heap.size]?))
    case first =>
      go_wp2_with fail
      go_meet
      obtain ⟨hne0, hne3, hwg, g06, g36⟩ := H66.out
      obtain ⟨hgB, hfr', hIS, b5, hgl⟩ := H6.out
      obtain ⟨g0', g3'⟩ := HG0.out
      refine ⟨rfl, Lib.hid ⟨set4z hml hIS 2 who 0, Below.setCell (Below.setCell (Below.setCell (Below.setCell (below_then HB5.out b5) hwg _) hwg _) hwg _) hwg _, ?_, ?_⟩⟩
      · exact (bk_other hne0 (bk_other hne0 (bk_other hne0 (bk_other hne0 g06)))).trans g0'.symm
      · exact (bk_other hne3 (bk_other hne3 (bk_other hne3 (bk_other hne3 g36)))).trans g3'.symm
    case rest =>
    obtain ⟨rfl, H7⟩ := hcut
    obtain ⟨W7, hW7⟩ : ∃ X, X = wc := ⟨_, rfl⟩
    subst hW7
    obtain ⟨h7, hb7, g07, g37⟩ := H7.out
    replace g07 := g07.trans HG0.out.1
    replace g37 := g37.trans HG0.out.2
    obtain ⟨hgo, hqs, hls, -, hj⟩ := HF.out
    have HD := Lib.hid (fun X (kp : W7.heap.size ≤ X.heap.size ∧ ∀ b o, b < W7.heap.size → X.cell? ⟨b, o, none⟩ = W7.cell? ⟨b, o, none⟩) => HDN.out (some ⟨gq, 0, none⟩) cap (l.set m (0, 2, who, 0)) (by rw [hls]; exact hN100) nofun hqs X ((HOb.out.below hb7).keep kp) (h7.keep kp))
    rw [hgo] at HD
    unfold DoneG at HD
    simp only at HD
    rw [hls] at HD
    simp only [show ((2 : Nat) : Int) = 2 from rfl, show ((0 : Nat) : Int) = 0 from rfl] at HD
    obtain ⟨J, hJ⟩ : ∃ J : Nat, j + 1 = J := ⟨_, rfl⟩
    rw [hJ] at HD
    have j1 : (1 : Int) ≤ (J : Int) := by omega
    have j2 : (J : Int) ≤ (m : Int) + 1 := by omega
    have HB7 := Lib.hid hb7
    clear hgo hqs hls hj hJ hb7 h7 H6 H66 H7 HG0 HF HJ e0' e1' e2' e3' hfr HI HDN hml
    have q0 := (Array.getElem?_eq_some_iff.1 g07).1
    have q3 := (Array.getElem?_eq_some_iff.1 g37).1
    obtain ⟨r0, r1, r2, r3, r4, r5, r6, r7, r8, r9, r10, r11⟩ := cl12 g07
    obtain ⟨o0, o1, o2, o3⟩ := cells4p g37
    clear g07 g37
    go_upto_region 8 with fail
    go_cut [17, 18, 19] (fun s17 s18 s19 wx => ∃ g q, s17 = .pointer (some ⟨g, 0, none⟩) ∧ s18 = .pointer (some ⟨q, 0, none⟩) ∧ s19 = .bool true ∧ Hid (LfO W7 wx g q J))
    case first =>
      go_wp2_with (go_at_call 19; refine (HD.out _ ⟨Nat.le_refl _, fun _ _ _ => rfl⟩).mono ?_; rintro e' w8 ⟨A3, d3, rfl, -, -, hb3⟩)
      go_meet
      all_goals
        refine ⟨_, _, rfl, rfl, rfl, Lib.hid ⟨?_, ?_, ?_⟩⟩
        · repeat' (first
            | with_reducible refine bw_drew ?_
            | (with_reducible refine Below.setCell ?_ ?_ _)
            | with_reducible refine bw_alloc ?_
            | with_reducible refine bw_below hb3 ?_
            | with_reducible exact Below.refl _ _
            | omega
            | (simp; done)
            | (simp; omega))
        all_goals
          repeat' (first
            | with_reducible refine Cx.drew ?_
            | with_reducible refine Cx.set ?_
            | (with_reducible refine Cx.new ?_; first | rfl | (simp; done))
            | with_reducible refine Cx.alloc ?_
            | with_reducible refine Cx.other ?_ ?_
            | with_reducible refine BkR.drew ?_
            | with_reducible refine BkR.other ?_ ?_
            | (with_reducible refine BkR.newR ?_; first | rfl | (simp; done))
            | (with_reducible refine BkR.newT ?_; first | rfl | (simp; done))
            | with_reducible refine BkR.below hb3 ?_
            | with_reducible refine BkR.alloc ?_
            | omega
            | (simp; done)
            | (simp; omega))
    case rest =>
      obtain ⟨g9, q9, rfl, rfl, rfl, HL⟩ := hcut
      obtain ⟨W9, hW9⟩ : ∃ X, X = wc := ⟨_, rfl⟩
      subst hW9
      obtain ⟨hby, ⟨t1, hx⟩, ⟨t2, hy⟩⟩ := HL.out
      obtain ⟨s0, -, s1, -, s2, -⟩ := cells3 hx
      obtain ⟨y0, -, y1, -, y2, -⟩ := cells3 hy
      have HB9 := Lib.hid (below_then HB7.out hby)
      have m1 : (m : Int) ≤ 100 := by omega
      clear hby hx hy HL HB7 HB5 HD r0 r1 r2 r3 r4 r5 r6 r7 r8 r9 r10 r11 o0 o1 o2 o3
      go_wp2_with fail
      go_ret
      exact Ret.mk rfl HB9.out

set_option maxRecDepth 100000 in
theorem lifted (os : Os) (started : os.Started) (H : Type) (enc : TypeId × Value → H) :
    ReturnsInHanded {} Tryd.checked os 8 .any (fun w args => (Rows.gateOverSpec.pre enc Tryd.prog Tryd.f8 [] false w args ∧ laidMetH Tryd.prog laidL w) ∧ sizedMet enc Tryd.prog Tryd.f8 (OpenSpec.ofChange Rows.gateOverSpec) false w args)
      (Rows.gateOverSpec.post enc Tryd.prog Tryd.f8 false true false false) := by
  refine returnsInHanded_of_change_and (C := Tryd.checked) (X := fun w _ => laidMetH Tryd.prog laidL w) (fun _ _ _ hh h => h.of_heap hh) own started (by kernel_rfl) Tryd.func8
    (ChangeSpec.witness_shaped (enc := enc) (C := Tryd.checked) (os := os) (X := fun w _ => laidMetH Tryd.prog laidL w) false (World.doorLaid Tryd.prog 400 os) #[.agg #[.int .u8 0, .int .i64 0, .int .i64 0, .int .u8 0, .int .i64 0, .int .i64 0, .int .i64 0, .int .i64 0, .int .i64 0, .int .i64 0, .int .u64 0, .int .u64 0], .slice none 0 0, .int .i64 0, .int .u32 0, .int .u32 0] 8 rfl (World.shaped_of_RefB (by kernel_rfl) (by kernel_rfl)) (by kernel_rfl) (by kernel_rfl) (by kernel_rfl) (door_met os _)) ?_
  intro W base args ds gs before hval0 hW _ _ hL _
  refine law_of laidOut (by kernel_rfl) (by kernel_rfl) Tryd.underlying4 rfl ?_ hW fun p hA => ?_
  · intro ds hd
    match ds, hd with
    | [_, _, _, _, _], _ => rfl
  have hval' : ∀ (j : Nat) t v, Tryd.f8.params[j]? = some t → args[j]? = some v → Value.okWide Tryd.prog W .any base t v := hval0
  rw [Tryd.params8] at hA hval'
  obtain ⟨v0, vs0, d0, ds0, p0, q0, hargs, rfl, rfl, h0, r0⟩ := trodAll_cons hA
  obtain ⟨v1, vs1, d1, ds1, p1, q1, rfl, rfl, rfl, h1, r1⟩ := trodAll_cons r0
  obtain ⟨v2, vs2, d2, ds2, p2, q2, rfl, rfl, rfl, h2, r2⟩ := trodAll_cons r1
  obtain ⟨v3, vs3, d3, ds3, p3, q3, rfl, rfl, rfl, h3, r3⟩ := trodAll_cons r2
  obtain ⟨v4, vs4, d4, ds4, p4, q4, rfl, rfl, rfl, h4, r4⟩ := trodAll_cons r3
  obtain ⟨rfl, rfl, rfl⟩ := trodAll_nil r4
  obtain rfl : args = #[v0, v1, v2, v3, v4] := by cases args; simp_all
  obtain ⟨c, rfl⟩ := open_cfg (hval' 0 _ v0 rfl rfl) h0
  obtain ⟨A, d, l, rfl, hAn, hq, hl⟩ := open_cells (hval' 1 _ v1 rfl rfl) h1
  obtain ⟨at', rfl, _, _, _⟩ := open_int (k := .i64) Tryd.underlying3 (hval' 2 _ v2 rfl rfl) h2
  obtain ⟨z3, rfl, _, _, w3⟩ := open_int (k := .u32) Tryd.underlying24 (hval' 3 _ v3 rfl rfl) h3
  obtain ⟨who, rfl, hwho⟩ := u32_nat w3
  obtain ⟨z4, rfl, _, _, w4⟩ := open_int (k := .u32) Tryd.underlying24 (hval' 4 _ v4 rfl rfl) h4
  obtain ⟨what, rfl, hwhat⟩ := u32_nat w4
  exact walk c A d l hAn hq at' who what hwho hwhat W (of_laid hL) hl

theorem row : Rows.GateOverSaid :=
  OpenClaim.holds_of_wide 8 Tryd.f8 rfl rfl rfl rfl rfl rfl rfl ⟨rfl, rfl, rfl, rfl, rfl⟩ rfl rfl rfl rfl rfl (by kernel_rfl) Tryd.func8 (by kernel_rfl)
    (of_decide_eq_true (by kernel_rfl)) (by unfold Func.isWrapper; first | (rw [if_pos (by decide +kernel)]; kernel_rfl) | (rw [if_neg (by decide +kernel)]; exact ⟨rfl, rfl⟩))
    (fun os started H enc _ => lifted os started H enc)

theorem card : Rows.GateOverCardSaid :=
  Claim7.holds_tied_plain_at .later [] [.data] true Rows.gateOverCard.stood.harness false
    row (fun _ h => by cases h) (by kernel_rfl) (fun _ h => by cases h) gateOver_row_tie rfl ⟨rfl, rfl⟩ (by kernel_rfl) rfl
    (fun f fn hf hfn => by
      obtain rfl : f = 8 := Option.some.inj ((show Tryd.prog.funcNamed "bascule/basculelaw14.GateOver" = some 8 by kernel_rfl).symm.trans hf) |>.symm
      obtain rfl : fn = Tryd.f8 := (Option.some.inj (Tryd.func8.symm.trans hfn)).symm
      exact ⟨by kernel_rfl, fun j t ht => by
        rw [Tryd.params8] at ht
        have hm : t ∈ [30, 47, 3, 24] := by simpa using Array.mem_of_getElem? ht
        have hall : ([30, 47, 3, 24].all fun u => !Tryd.prog.wantsStandIn u) = true := by kernel_rfl
        exact (show Tryd.prog.wantsStandIn t = false by simpa using List.all_eq_true.1 hall t hm)⟩)
    (by kernel_rfl)
#print axioms card

end Go.Proofs.YtljhcegkekdjgaaDoor.gateOver
