/- The cells behind accesses, and what each saw, or the error, are the document's; the rows that come in stay: for all cells and accesses (up to 100; beyond them the law answers true). No condition. -/
import Derived.Test.YtiaimenngmfnmaaLaw
import Derived.Test.YtiaimenngmfnmaaCeRefRun
import Derived.Test.YtiaimenngmfnmaaCeAlive
import Derived.Test.YtiaimenngmfnmaaCeOpenA
import Derived.SizedLaws
namespace Go.Proofs.Ytiaimenngmfnmaa.cellRuns
open Go.ChangeShapes Go.WideShapes Go.ChangeAt Go.RowKit Ce

theorem acc_info : (Try.prog.info? 32).map (fun i => (i.zero, i.size, i.bytes)) = some (some (.agg #[.int .u8 0, .int .i64 0, .int .u64 0, .int .u64 0, .int .u64 0, .int .u64 0, .int .u64 0, .int .u64 0, .int .u64 0, .int .u64 0]), 10, 80) := by kernel_rfl

/-- What Run hands back, whether the accesses may be or not; and the document's Run. -/
def RunA (na ms : Nat) (E : Int) (cg sc : Nat → C4) (sd : Nat → Bool) (w : World) (e : Ending) (w' : World) : Prop :=
  ∃ A c S, e = .returned (.tuple #[.slice A na c, .slice S ms ms, .int .i64 E]) ∧ Own w' w.heap.size 25 4 A na c (fun i => l4 (cg i)) ∧ IsSeen w' S ms sc sd ∧
    (∀ g o g' o', A = some ⟨g, o, none⟩ → S = some ⟨g', o', none⟩ → 0 < na → g ≠ g') ∧ Below w.heap.size w w'
def RefA (na ms : Nat) (E : Int) (cg sc : Nat → C4) (sd : Nat → Bool) (w : World) (e : Ending) (w' : World) : Prop :=
  ∃ A c S d, e = .returned (.tuple #[.slice A na c, .slice S ms d, .int .i64 E]) ∧ IsCells w' A na cg ∧ IsSeen w' S ms sc sd ∧ (∀ b o, S = some ⟨b, o, none⟩ → 0 < ms → w.heap.size ≤ b) ∧ Below w.heap.size w w'

set_option maxHeartbeats 1000000 in
theorem rRun_many (A T : Option Addr) (n c M d : Nat) (hn : 1024 < n) (w : World) : Calls Try.prog 17 #[.slice A n c, .slice T M d] w (RunBad 4 w) := by
  go_enter Try.func17, Try.ntmps17
  go_wp2
  go_ret3
  exact ⟨rfl, Below.refl _ _⟩

theorem own_none (w : World) (B : Nat) (cg : Nat → C4) : Own w B 25 4 none 0 0 (fun i => l4 (cg i)) := ⟨by omega, by omega, fun h => by omega⟩

theorem both (n M : Nat) (cf : Nat → C4) (af : Nat → Acc) (hM : M ≤ 65536) : ∃ (na ms : Nat) (E : Int), na ≤ 1024 ∧ ms ≤ M ∧
    (∀ A T c d w, (A = none → n = 0 ∧ c = 0) → (M ≤ d ∧ d ≤ 9223372036854775807) → IsCells w A n cf → IsAccs w T M af → Calls Try.prog 11 #[.slice A n c, .slice T M d] w (RunA na ms E (st n cf af M) (sawC n cf af) (sawD n cf af) w)) ∧
    (∀ A T c d w, (A = none → n = 0 ∧ c = 0) → (M ≤ d ∧ d ≤ 9223372036854775807) → IsCells w A n cf → IsAccs w T M af → Calls Try.prog 17 #[.slice A n c, .slice T M d] w (RefA na ms E (st n cf af M) (sawC n cf af) (sawD n cf af) w)) := by
  by_cases hn : 1024 < n
  · refine ⟨0, 0, 4, by omega, by omega, fun A T c d w _ _ _ _ => (run_many A T n c M d hM hn w).mono ?_, fun A T c d w _ _ _ _ => (rRun_many A T n c M d hn w).mono ?_⟩
    · rintro e w' ⟨rfl, hb⟩
      exact ⟨none, 0, none, rfl, own_none _ _ _, (fun i hi => by omega), (fun _ _ _ _ h => by cases h), hb⟩
    · rintro e w' ⟨rfl, hb⟩
      exact ⟨none, 0, none, 0, rfl, (fun i hi => by omega), (fun i hi => by omega), (fun _ _ h => by cases h), hb⟩
  · cases ho : okTo n af M with
    | false =>
      refine ⟨0, 0, 2, by omega, by omega, fun A T c d w hA hd hI hT => (run_bad A T n c M d hA hd hM (by omega) cf af w hI hT ho).mono ?_, fun A T c d w hA hd hI hT => (rRun_few A T n c M d (by omega) hM hd hA cf af w hI hT).mono ?_⟩
      · rintro e w' ⟨rfl, hb⟩
        exact ⟨none, 0, none, rfl, own_none _ _ _, (fun i hi => by omega), (fun _ _ _ _ h => by cases h), hb⟩
      · intro e w' h
        obtain ⟨rfl, hb⟩ := h.2 ho
        exact ⟨none, 0, none, 0, rfl, (fun i hi => by omega), (fun i hi => by omega), (fun _ _ h => by cases h), hb⟩
    | true =>
      refine ⟨n, M, 0, by omega, Nat.le_refl _, fun A T c d w hA hd hI hT => (run_ok A T n c M d hA hd hM (by omega) cf af w hI hT ho).mono ?_, fun A T c d w hA hd hI hT => (rRun_few A T n c M d (by omega) hM hd hA cf af w hI hT).mono ?_⟩
      · rintro e w' ⟨A', c', S', rfl, _, h1, h2, h3, h4⟩
        exact ⟨A', c', S', rfl, h1, h2, h3, h4⟩
      · intro e w' h
        obtain ⟨A', c', S', d', rfl, h1, h2, h3, h4⟩ := h.1 ho
        exact ⟨A', c', S', d', rfl, h1, h2, h3, h4⟩

/-- The blocks that are turned: that of a's row. -/
def Of (A : Option Addr) (k : Nat) : Prop := ∃ o, A = some ⟨k, o, none⟩
theorem seen_of {w w' : World} {C : Nat → Prop} {X : Option Addr} {n : Nat} {cf : Nat → C4} {df : Nat → Bool} (h : IsSeen w X n cf df) (hO : Only C w w') (hne : ∀ b o, X = some ⟨b, o, none⟩ → 0 < n → ¬ C b) : IsSeen w' X n cf df := fun i hi => by
  obtain ⟨b, o, e, h4⟩ := h i hi
  exact ⟨b, o, e, h4.same (hO.block b h4.lt (hne b o e (by omega)))⟩

set_option maxHeartbeats 1000000 in
theorem run_neq10 (a : Acc) (W : World) : (binOp .neq 32 (.agg #[.int .u8 a.k, .int .i64 a.i, .int .u64 a.o.t, .int .u64 a.o.a, .int .u64 a.o.b, .int .u64 a.o.c, .int .u64 a.n.t, .int .u64 a.n.a, .int .u64 a.n.b, .int .u64 a.n.c]) (.agg #[.int .u8 a.k, .int .i64 a.i, .int .u64 a.o.t, .int .u64 a.o.a, .int .u64 a.o.b, .int .u64 a.o.c, .int .u64 a.n.t, .int .u64 a.n.a, .int .u64 a.n.b, .int .u64 a.n.c])).run Try.prog W = .ok (.bool false) W := by
  go_simp

/-- a's row, while it is turned. -/
def RowOf (w : World) (A : Option Addr) (na : Nat) : Prop := 0 < na → ∃ g m F, A = some ⟨g, 0, none⟩ ∧ w.rowIs g 25 m F ∧ na * 4 ≤ m

set_option maxRecDepth 100000 in
set_option maxHeartbeats 4000000 in
theorem walk_few (A T : Option Addr) (n c M d : Nat) (hc : n ≤ c ∧ c ≤ 9223372036854775807) (hM : M ≤ 100) (hd : M ≤ d ∧ d ≤ 9223372036854775807) (hA : A = none → n = 0 ∧ c = 0) (hT0 : T = none → M = 0 ∧ d = 0) (hre : n * 32 ≤ 140737488351232) (cf : Nat → C4) (af : Nat → Acc) (w : World) (hI : IsCells w A n cf) (hT : IsAccs w T M af) :
    Calls Try.prog 5 #[.slice A n c, .slice T M d] w (Ret (.bool true) w) := by
  have HI := Lib.hid hI
  have HT := Lib.hid hT
  have HA := Lib.hid hA
  have HT0 := Lib.hid hT0
  clear hI hT hA hT0
  have t2 : decide ((100 : Int) < M) = false := by simp; omega
  go_enter Try.func5, Try.ntmps5
  obtain ⟨na, ms, E, hna, hms, hrun, href⟩ := both n M cf af (by omega)
  have HRun := Lib.hid hrun
  have HRef := Lib.hid href
  clear hrun href
  go_wp2_with (first
    | (at_builtin
       refine wpList_copied_any (w0 := w) rfl (.tmp 19) (.tmp 20) _ rfl Try.underlying35 cell_info rfl (by decide) rfl (World.ownsRow_lit w #[] 0 (Nat.le_refl _) (by unfold maxLen; omega) rfl) rfl HA.out (flat n fun i => l4 (cf i)) (l4_len n cf) (cells_list (HI.out.same (below_one _ _).block)) l4_one (by omega) hre (Nat.le_refl _) (below_one _ _) ?_
       intro v1 W1 HO1 hbW1 Hg1)
    | (at_builtin
       refine wpList_copied_any (w0 := W1) rfl (.tmp 22) (.tmp 23) _ rfl Try.underlying39 acc_info rfl (by decide) rfl (World.ownsRow_lit W1 #[] 0 (Nat.le_refl _) (by unfold maxLen; omega) rfl) rfl HT0.out (flat M fun i => l10 (af i)) (l10_len M af) (accs_list ((HT.out.same hbW1.block).same (below_one _ _).block)) l10_one (by omega) (by omega) (Nat.le_refl _) (below_one _ _) ?_
       intro v2 W2 HO2 hbW2 Hg2)
    | fail)
  obtain ⟨Ao, co, rfl, _, _, hAo, hbo⟩ := owns_form HO1.out
  obtain ⟨Am, cm, rfl, hm1, hm2, _, hbm⟩ := owns_form HO2.out
  have HOc := Lib.hid ((Own.of (s := 4) (f := fun i => l4 (cf i)) (fun _ => rfl) HO1.out).cells.same hbW2.block)
  have HMa := Lib.hid (Own.of (s := 10) (f := fun i => l10 (af i)) (fun _ => rfl) HO2.out).accs
  have HAo := Lib.hid hAo
  have HMd := Lib.hid (show M ≤ cm ∧ cm ≤ 9223372036854775807 from ⟨hm1, hm2⟩)
  have HB2 := Lib.hid (below_then hbW1 hbW2)
  have HI2 := Lib.hid (HI.out.same (below_then hbW1 hbW2).block)
  have HT2 := Lib.hid (HT.out.same (below_then hbW1 hbW2).block)
  clear HO1 HO2 Hg1 Hg2 hbo hbm hAo hm1 hm2 hbW1 hbW2
  refine (HRun.out Ao Am co cm W2 HAo.out HMd.out HOc.out HMa.out).mono ?_
  rintro e1 w3 ⟨Aa, ca, S3, rfl, hOa, hS3, hap, hb3⟩
  have HOa := Lib.hid hOa
  have HS3 := Lib.hid hS3
  have HAP := Lib.hid hap
  have HB3 := Lib.hid hb3
  clear hOa hS3 hap hb3
  go_wp2_with fail
  refine (HRef.out A T c d w3 HA.out hd (HI2.out.same HB3.out.block) (HT2.out.same HB3.out.block)).mono ?_
  rintro e2 w4 ⟨Ab, cb, S4, d4, rfl, hIb, hS4, hlo4, hb4⟩
  have HIb := Lib.hid hIb
  have HS4 := Lib.hid hS4
  have HLO := Lib.hid hlo4
  have HB4 := Lib.hid hb4
  clear hIb hS4 hlo4 hb4
  go_wp2_with fail
  refine (same_cells_true Aa Ab na ca cb (by omega) _ _ (HOa.out.cells.same HB4.out.block) HIb.out).mono ?_
  rintro e3 w5 ⟨rfl, hb5⟩
  have HB35 := Lib.hid (below_then HB4.out hb5)
  have HB25 := Lib.hid (below_then HB3.out (below_then HB4.out hb5))
  have HB5 := Lib.hid hb5
  clear hb5
  -- who lies where
  have hOf : ∀ b, Of Aa b → 0 < na → W2.heap.size ≤ b ∧ b < w3.heap.size := fun b hb hn0 => by
    obtain ⟨o, ho⟩ := hb
    obtain ⟨g, e, hg, m, F, hr, _⟩ := HOa.out.2.2 hn0
    have : b = g := congrArg Addr.block (Option.some.inj (ho.symm.trans e))
    have := hr.lt
    omega
  have hrow : RowOf w5 Aa na := fun hn0 => by
    obtain ⟨g, e, hg, m, F, hr, hm, _⟩ := HOa.out.2.2 hn0
    exact ⟨g, m, F, e, hr.of_block (HB35.out.block _ hr.lt), hm⟩
  have HOF := Lib.hid hOf
  have HROW := Lib.hid hrow
  clear hOf hrow
  go_wp2_with fail
  go_loopw [14] (fun i wr => ∃ k : Nat, k ≤ na ∧ i = .int .i64 k ∧ Hid (Only (fun b => Of Aa b ∧ 0 < na) w5 wr ∧ RowOf wr Aa na)) (fun i _ => na - (intOf i).toNat)
  case atStart => exact ⟨0, Nat.zero_le _, rfl, Lib.hid ⟨Only.refl _ _, HROW.out⟩⟩
  case round =>
    obtain ⟨k, hk, rfl, HR⟩ := hrel
    by_cases hlt : k < na
    · obtain ⟨hO, hR⟩ := HR.out
      obtain ⟨g, m, F, rfl, hr, hm⟩ := hR (by omega)
      have i1 : (0 : Int) ≤ (k : Int) := by omega
      have i2 : (k : Int) < (na : Int) := by omega
      have z0 := hr.cell (i := k * 4) (by omega)
      have z1 := hr.cell (i := k * 4 + 1) (by omega)
      have z2 := hr.cell (i := k * 4 + 2) (by omega)
      have z3 := hr.cell (i := k * 4 + 3) (by omega)
      have zf := hr.frozen
      have HO := Lib.hid hO
      have HRr := Lib.hid hr
      clear hO hR hr
      go_wp2
      go_roundw
      case rel =>
        refine ⟨k + 1, by omega, by go_num, Lib.hid ⟨?_, fun _ => ?_⟩⟩
        · have hg : Of (some ⟨g, 0, none⟩) g ∧ 0 < na := ⟨⟨0, rfl⟩, by omega⟩
          exact (((HO.out.setCell (p := ⟨g, k * 4, none⟩) (.inl hg) _).setCell (p := ⟨g, k * 4 + 1, none⟩) (.inl hg) _).setCell (p := ⟨g, k * 4 + 2, none⟩) (.inl hg) _).setCell (p := ⟨g, k * 4 + 3, none⟩) (.inl hg) _
        · exact ⟨g, m, _, rfl, (((HRr.out.set _ _).set _ _).set _ _).set _ _, hm⟩
      case measure => simp [intOf]; omega
    · obtain rfl : k = na := by omega
      obtain ⟨hO, _⟩ := HR.out
      have hlow : ∀ j, j < W2.heap.size → wr.heap[j]? = W2.heap[j]? := fun j hj =>
        (hO.block j (Nat.lt_of_lt_of_le hj HB25.out.size) fun h => by have := HOF.out j h.1 h.2; omega).trans (HB25.out.block j hj)
      have HOw := Lib.hid (HOc.out.same hlow)
      have HIw := Lib.hid (HI2.out.same hlow)
      have HMw := Lib.hid (HMa.out.same hlow)
      have HTw := Lib.hid (HT2.out.same hlow)
      have HSw := Lib.hid (seen_of (HS3.out.same HB35.out.block) hO fun b o hb _ h => by
        obtain ⟨⟨o', h1⟩, h2⟩ := h
        exact HAP.out b o' b o h1 hb h2 rfl)
      have HUw := Lib.hid (seen_of (HS4.out.same HB5.out.block) hO fun b o hb h0 h => by
        have h1 := HLO.out b o hb h0
        have h2 := HOF.out b h.1 h.2
        omega)
      have HBw := Lib.hid (Only.then_below (n := w.heap.size) (Nat.le_refl _) (HB2.out.trans (HB25.out.mono HB2.out.size)) hO fun b h => Nat.le_trans HB2.out.size (HOF.out b h.1 h.2).1)
      clear hO hlow HR HROW HOF HOa HAP HIb HOc HMa HI2 HT2 HS3 HS4 HLO HB4 HB35 HB25 HB5 HB3 HB2 HRun HRef
      go_wp2
      go_loopw [15] (fun i wr2 => ∃ q : Nat, q ≤ M ∧ i = .int .i64 q ∧ Below wr.heap.size wr wr2) (fun i _ => M - (intOf i).toNat)
      case atStart => exact ⟨0, Nat.zero_le _, rfl, Below.refl _ _⟩
      case round =>
        obtain ⟨q, hq, rfl, hbq⟩ := hrel
        by_cases hql : q < M
        · obtain ⟨bm, om, rfl, g10⟩ := HMw.out q hql
          obtain ⟨bt, ot, rfl, t10⟩ := HTw.out q hql
          obtain ⟨a0, a1, a2, a3, a4, a5, a6, a7, a8, a9⟩ := at10_flat (g10.same (hbq.block _ g10.lt))
          obtain ⟨c0, c1, c2, c3, c4, c5, c6, c7, c8, c9⟩ := at10_flat (t10.same (hbq.block _ t10.lt))
          have i1 : (0 : Int) ≤ (q : Int) := by omega
          have i2 : (q : Int) < (M : Int) := by omega
          have hnq := run_neq10 (af q)
          clear g10 t10
          go_wp2
          have k0 := cell_regrown a0
          have k1 := cell_regrown a1
          have k2 := cell_regrown a2
          have k3 := cell_regrown a3
          have k4 := cell_regrown a4
          have k5 := cell_regrown a5
          have k6 := cell_regrown a6
          have k7 := cell_regrown a7
          have k8 := cell_regrown a8
          have k9 := cell_regrown a9
          have l0 := cell_regrown c0
          have l1 := cell_regrown c1
          have l2 := cell_regrown c2
          have l3 := cell_regrown c3
          have l4 := cell_regrown c4
          have l5 := cell_regrown c5
          have l6 := cell_regrown c6
          have l7 := cell_regrown c7
          have l8 := cell_regrown c8
          have l9 := cell_regrown c9
          refine wp_region_quiet_below (by kernel_rfl) (by kernel_rfl) ?_
          repeat (go_big_quiet_step (fail))
          refine wpQuiet_nil ?_
          intro W8 hw'
          obtain ⟨⟨dq, osq⟩, hw''⟩ := hw'
          have hb8 := below_regrown wr dq osq
          rw [← hw''] at hb8
          clear hw'' k0 k1 k2 k3 k4 k5 k6 k7 k8 k9 l0 l1 l2 l3 l4 l5 l6 l7 l8 l9 hnq
          go_wp2
          go_roundw
          case rel => exact ⟨q + 1, by omega, by go_num, below_then hbq hb8⟩
          case measure => simp [intOf]; omega
        · obtain rfl : q = M := by omega
          go_wp2_with fail
          refine (same_seen_true S3 S4 ms ms d4 (by omega) _ _ _ (HSw.out.same hbq.block) (HUw.out.same hbq.block)).mono ?_
          rintro e7 w7 ⟨rfl, hb7⟩
          have HB7 := Lib.hid (below_then hbq hb7)
          clear hb7 hbq
          go_wp2_with fail
          refine (same_cells_true Ao A n co c (by omega) cf _ (HOw.out.same HB7.out.block) (HIw.out.same HB7.out.block)).mono ?_
          rintro e8 w8 ⟨rfl, hb8⟩
          have HB8 := Lib.hid (HBw.out.trans ((below_then HB7.out hb8).mono HBw.out.size))
          clear hb8
          go_wp2
          go_ret
          exact Ret.mk rfl HB8.out

set_option maxHeartbeats 1000000 in
theorem walk_long (A T : Option Addr) (n c M d : Nat) (hM : 100 < M) (w : World) : Calls Try.prog 5 #[.slice A n c, .slice T M d] w (Ret (.bool true) w) := by
  go_enter Try.func5, Try.ntmps5
  go_wp2
  go_ret
  exact Ret.mk rfl (Below.refl _ _)

theorem walk (A T : Option Addr) (n c M d : Nat) (hc : n ≤ c ∧ c ≤ 9223372036854775807) (hd : M ≤ d ∧ d ≤ 9223372036854775807) (hA : A = none → n = 0 ∧ c = 0) (hT0 : T = none → M = 0 ∧ d = 0) (hre : n * 32 ≤ 140737488351232) (cf : Nat → C4) (af : Nat → Acc) (w : World) (hI : IsCells w A n cf) (hT : IsAccs w T M af) :
    Calls Try.prog 5 #[.slice A n c, .slice T M d] w (Ret (.bool true) w) := by
  by_cases h1 : 100 < M
  · exact walk_long A T n c M d h1 w
  · exact walk_few A T n c M d hc (by omega) hd hA hT0 hre cf af w hI hT

set_option maxRecDepth 100000 in
theorem lifted (os : Os) (started : os.Started) (H : Type) (enc : TypeId × Value → H) :
    ReturnsInHanded {} Try.checked os 5 .any (Rows.cellRunsSpec.pre6 enc Try.prog Try.f5 Rows.cellRunsRow.domain false) (Rows.cellRunsSpec.post enc Try.prog Try.f5 false true false false) := by
  refine returnsInHanded_of_change_sized (C := Try.checked) own started (by kernel_rfl) Try.func5
    (ChangeSpec.witness6 (enc := enc) (C := Try.checked) false ⟨#[], #[.slice none 0 0, .slice none 0 0], []⟩ 8 (by kernel_rfl) (by kernel_rfl) (by kernel_rfl) (by kernel_rfl)) ?_
  intro W base args ds gs before hval hW hcnd hsz _
  refine law_of laidOut (by kernel_rfl) (by kernel_rfl) Try.underlying4 rfl ?_ hW fun p hA => ?_
  · intro ds hd
    match ds, hd with
    | [_, _], _ => rfl
  have hval' : ∀ (j : Nat) t v, Try.f5.params[j]? = some t → args[j]? = some v → Value.okWide Try.prog W .any base t v := hval
  rw [Try.params5] at hA hval' hsz
  obtain ⟨v0, vs0, d0, ds0, p0, q0, hargs, rfl, rfl, h0, r0⟩ := trodAll_cons hA
  obtain ⟨v1, vs1, d1, ds1, p1, q1, rfl, rfl, rfl, h1, r1⟩ := trodAll_cons r0
  obtain ⟨rfl, rfl, rfl⟩ := trodAll_nil r1
  obtain rfl : args = #[v0, v1] := by cases args; simp_all
  obtain ⟨A, n, c, cf, rfl, hc, hA0, hI, hD⟩ := open_cells' (hval' 0 _ v0 rfl rfl) h0
  obtain ⟨T, M, d, af, rfl, hd, hT0, hT⟩ := open_accs (hval' 1 _ v1 rfl rfl) h1
  have hre : n * 32 ≤ 140737488351232 := by
    rcases hD with rfl | ⟨E, S, rfl, hl⟩
    · omega
    · have h := sized_slice hsz (j := 0) (t := 35) (e := 25) rfl rfl Try.underlying35
      rw [show Try.checked.prog.bytesOf 25 = 32 by kernel_rfl, Nat.add_mul] at h
      unfold reachBytes at h
      omega
  exact walk A T n c M d hc hd hA0 hT0 hre cf af W hI hT

theorem proved : Rows.CellRunsSaid :=
  OpenClaim.holds_of_wide 5 Try.f5 rfl rfl rfl rfl rfl rfl rfl ⟨rfl, rfl, rfl, rfl, rfl⟩ rfl rfl rfl rfl rfl (by kernel_rfl) Try.func5 (by kernel_rfl)
    (of_decide_eq_true (by kernel_rfl)) (by unfold Func.isWrapper; rw [if_neg (by decide +kernel)]; exact ⟨rfl, rfl⟩)
    (fun os started H enc _ => lifted os started H enc)
#print axioms proved
end Go.Proofs.Ytiaimenngmfnmaa.cellRuns
