/- What is joined is split as it was, for every list of fields (up to 100; beyond them the law answers true). No condition. -/
import Derived.Test.YtcjhenfeniofiaaLaw
import Derived.Test.YtcjhenfeniofiaaPkAlive
import Derived.Test.YtcjhenfeniofiaaPkOpen
import Derived.Test.YtcjhenfeniofiaaMade
namespace Go.Proofs.Ytcjhenfeniofiaa.packBack
open Go.ChangeShapes Go.WideShapes Go.ChangeAt Go.RowKit

theorem int_info : (Try.prog.info? 3).map (fun i => (i.zero, i.size, i.bytes)) = some (some (.int .i64 0), 1, 8) := by kernel_rfl

/-- The field of the joined word is the number that was put there. -/
theorem join_field {bf : Nat → Int} {vf : Nat → Nat} : ∀ {n : Nat}, Pk.standB bf n = true → Pk.fitsAll bf vf n = true → ∀ i, i < n → Pk.field (Pk.join bf vf n) (Pk.pos bf i).toNat (bf i).toNat = vf i
  | 0, _, _, i, hi => by omega
  | n + 1, hs, hf, i, hi => by
    have hs' := Pk.standB_le (Nat.le_succ n) hs
    have h1 := Pk.inW_true (Pk.standB_at hs (Nat.lt_succ_self n))
    have h2 := Pk.fits_lt (Pk.fitsAll_at hf (Nat.lt_succ_self n))
    rw [Pk.fitsAll_succ, Bool.and_eq_true] at hf
    have hlt := Pk.join_lt hs' hf.1
    by_cases e : i = n
    · subst e; exact Pk.field_put _ _ _ _ hlt h2 (by omega)
    · have ih := join_field hs' hf.1 i (by omega)
      rw [← ih]
      refine Pk.field_apart _ _ _ _ _ _ hlt h2 (by omega) (.inl ?_)
      have h3 := Pk.pos_step hs (show i + 1 ≤ n + 1 by omega)
      have h4 := Pk.pos_mono hs (show i + 1 ≤ n by omega)
      have h5 := Pk.inW_true (Pk.standB_at hs (show i < n + 1 by omega))
      omega

set_option maxHeartbeats 2000000 in
theorem walk_many (A : Option Addr) (N c : Nat) (hN : 100 < N) (w : World) :
    Calls Try.prog 7 #[.slice A N c] w (Ret (.bool true) w) := by
  go_enter Try.func7, Try.ntmps7
  go_wp2_with (go_at_call 12; refine (alive_any _).mono ?_; rintro e w1 ⟨rfl, hb1⟩)
  go_ret
  exact Ret.mk rfl hb1

set_option maxHeartbeats 2000000 in
theorem walk_few (A : Option Addr) (N c : Nat) (hN : N ≤ 100) (hc : N ≤ c ∧ c ≤ 9223372036854775807) (bf : Nat → Int) (vf : Nat → Nat) (w : World) (hF : IsFields w A N bf vf) :
    Calls Try.prog 7 #[.slice A N c] w (Ret (.bool true) w) := by
  have HF := Lib.hid hF
  clear hF
  have t1 : decide ((100 : Int) < N) = false := by simp; omega
  go_enter Try.func7, Try.ntmps7
  go_wp2_with (go_at_call 12; refine (alive_any _).mono ?_; rintro e w1 ⟨rfl, hb1⟩)
  obtain ⟨B, hB⟩ : ∃ B, w.heap.size = B := ⟨_, rfl⟩
  have HB := Lib.hid hB
  rw [hB] at hb1
  clear hB
  go_loopw [4, 5, 6] (fun vb vw i wr => ∃ k : Nat, k ≤ N ∧ i = .int .i64 k ∧ Made wr B 3 vb k (fun j => .int .i64 (bf j)) ∧ Made wr B 22 vw k (fun j => .int .u64 (vf j : Nat)) ∧ Below B w wr) (fun _ _ i _ => N - (intOf i).toNat)
  case atStart => exact ⟨0, Nat.zero_le _, rfl, Made.nil _ _ _ _, Made.nil _ _ _ _, hb1⟩
  case round =>
    obtain ⟨k, hk, rfl, hmb, hmw, hbr⟩ := hrel
    by_cases hlt : k < N
    · obtain ⟨b, off, rfl, f1, f2⟩ := HF.out k hlt
      have hbB : b < B := by rw [← HB.out]; exact World.block_lt_of_cell? _ _ f1
      have g1 := (hbr.cell (p := ⟨b, off + k * 2, none⟩) hbB).trans f1
      have g2 := (hbr.cell (p := ⟨b, off + k * 2 + 1, none⟩) hbB).trans f2
      have hBw : B ≤ wr.heap.size := by rw [← HB.out]; exact hbr.size
      have Hmb := Lib.hid hmb
      have Hmw := Lib.hid hmw
      clear hmb hmw f1 g2
      have hBz : B ≤ w.heap.size := by rw [HB.out]; exact Nat.le_refl _
      go_wp2_with (first
        | (at_builtin
           refine wpList_pushed rfl (.tmp 26) (.tmp 32) _ rfl Try.underlying34 int_info rfl (by decide) rfl (Hmb.out.alloc _) _ rfl (by simp [go_sem]) rfl (by omega) hBz (hbr.alloc hBw _) ?_
           intro vb' W1 Hm1 hbW1 Hk1
           have g3 := (hbW1.cell (p := ⟨b, off + k * 2 + 1, none⟩) hbB).trans f2
           have hBW1 : B ≤ W1.heap.size := Nat.le_trans hBz hbW1.size)
        | (at_builtin
           refine wpList_pushed rfl (.tmp 34) (.tmp 40) _ rfl Try.underlying31 u64_info rfl (by decide) rfl ((Hk1.out _ _ _ _ (by decide) (Hmw.out.alloc _)).alloc _) _ rfl (by simp [go_sem]) rfl (by omega) hBz (hbW1.alloc hBW1 _) ?_
           intro vw' W2 Hm2 hbW2 Hk2))
      go_roundw
      case rel => exact ⟨k + 1, by omega, by go_num, Hk2.out _ _ _ _ (by decide) (Hm1.out.alloc _), Hm2.out, hbW2⟩
      case measure => simp [intOf]; omega
    · obtain rfl : k = N := by omega
      obtain ⟨Ab, cb, rfl, hnb, hcb, hcells⟩ := hmb.form
      obtain ⟨Aw, cw, rfl, hnw, hcw, hcellw⟩ := hmw.form
      have hF1 : IsFields wr A k bf vf := HF.out.same (fun j hj => hbr.block j (by rw [← HB.out]; exact hj))
      have hI1 : IsInts wr Ab k bf := fun i hi => by obtain ⟨g, e, _, h⟩ := hcells i hi; exact ⟨g, 0, e, by rw [Nat.zero_add]; exact h⟩
      have hW1 : IsWords wr Aw k vf := fun i hi => by obtain ⟨g, e, _, h⟩ := hcellw i hi; exact ⟨g, 0, e, by rw [Nat.zero_add]; exact h⟩
      have HF1 := Lib.hid hF1
      have HI1 := Lib.hid hI1
      have HW1 := Lib.hid hW1
      clear hF1 hI1 hW1 hcells hcellw hmb hmw
      cases hs : Pk.standB bf k with
      | false =>
        have ew : Pk.joinW bf vf k = 0 := by unfold Pk.joinW; rw [if_neg (by rw [hs]; simp)]
        have ee : Pk.joinE bf vf k = 2 := by unfold Pk.joinE; rw [if_neg (by rw [hs]; simp)]
        have EW := Lib.hid ew
        have EE := Lib.hid ee
        clear ew ee hs
        go_wp2_with (go_at_call 10; refine (join_any A k c hc bf vf _ HF1.out).mono ?_; rintro e w2 ⟨rfl, hb2⟩; rw [EW.out, EE.out])
        go_ret
        exact Ret.mk rfl (by rw [HB.out]; exact hbr.trans (hb2.mono (by rw [← HB.out]; exact hbr.size)))
      | true =>
        cases hf : Pk.fitsAll bf vf k with
        | false =>
          have ew : Pk.joinW bf vf k = 0 := by unfold Pk.joinW; rw [if_neg (by rw [hf]; simp)]
          have ee : Pk.joinE bf vf k = 10 := by unfold Pk.joinE; rw [if_pos hs, if_neg (by rw [hf]; simp)]
          have EW := Lib.hid ew
          have EE := Lib.hid ee
          clear ew ee hs hf
          go_wp2_with (go_at_call 10; refine (join_any A k c hc bf vf _ HF1.out).mono ?_; rintro e w2 ⟨rfl, hb2⟩; rw [EW.out, EE.out])
          go_ret
          exact Ret.mk rfl (by rw [HB.out]; exact hbr.trans (hb2.mono (by rw [← HB.out]; exact hbr.size)))
        | true =>
          have ew : Pk.joinW bf vf k = Pk.join bf vf k := by unfold Pk.joinW; rw [if_pos ⟨hs, hf⟩]
          have ee : Pk.joinE bf vf k = 0 := by unfold Pk.joinE; rw [if_pos hs, if_pos hf]
          have EW := Lib.hid ew
          have EE := Lib.hid ee
          have HS := Lib.hid hs
          have HFf := Lib.hid hf
          clear ew ee hs hf
          go_wp2_with (first
            | (go_at_call 10; refine (join_any A k c hc bf vf _ HF1.out).mono ?_; rintro e w2 ⟨rfl, hb2⟩; rw [EW.out, EE.out])
            | (go_at_call 11; refine (split_ok _ (Pk.join_lt HS.out HFf.out) Ab k cb bf _ (HI1.out.same hb2.block) HS.out).mono ?_; rintro e w3 ⟨g, rfl, hg, hrow, hb3⟩
               have Hg := Lib.hid hg
               have Hrow := Lib.hid (hrow.congr (g := fun j => .int .u64 (vf j : Nat)) fun j hj => u64_eq (congrArg (fun n : Nat => (n : Int)) (join_field HS.out HFf.out j hj)))
               clear hg hrow)
            | (go_at_call 17; refine (same_true _ Aw k k cw (by omega) vf _ (IsWords.of_row Hrow.out) (HW1.out.same fun j hj => (hb3.block j (Nat.lt_of_lt_of_le hj hb2.size)).trans (hb2.block j hj))).mono ?_; rintro e w4 ⟨rfl, hb4⟩))
          go_ret
          exact Ret.mk rfl (by
            rw [HB.out]
            exact hbr.trans ((below_then (below_then hb2 hb3) hb4).mono (by rw [← HB.out]; exact hbr.size)))

theorem walk (A : Option Addr) (N c : Nat) (hc : N ≤ c ∧ c ≤ 9223372036854775807) (bf : Nat → Int) (vf : Nat → Nat) (w : World) (hF : IsFields w A N bf vf) :
    Calls Try.prog 7 #[.slice A N c] w (Ret (.bool true) w) := by
  by_cases h : N ≤ 100
  · exact walk_few A N c h hc bf vf w hF
  · exact walk_many A N c (by omega) w

set_option maxRecDepth 100000 in
theorem lifted (os : Os) (started : os.Started) (H : Type) (enc : TypeId × Value → H) :
    ReturnsInHanded {} Try.checked os 7 .any (Rows.packBackSpec.pre6 enc Try.prog Try.f7 Rows.packBackRow.domain false) (Rows.packBackSpec.post enc Try.prog Try.f7 false true false false) := by
  refine returnsInHanded_of_change (C := Try.checked) own started (by kernel_rfl) Try.func7
    (ChangeSpec.witness6 (enc := enc) (C := Try.checked) false ⟨#[], #[.slice none 0 0], []⟩ 8 (by kernel_rfl) (by kernel_rfl) (by kernel_rfl) (by kernel_rfl)) ?_
  intro W base args ds gs before hval hW hcnd _
  refine law_of laidOut (by kernel_rfl) (by kernel_rfl) Try.underlying4 rfl ?_ hW fun p hA => ?_
  · intro ds hd
    match ds, hd with
    | [_], _ => rfl
  have hval' : ∀ (j : Nat) t v, Try.f7.params[j]? = some t → args[j]? = some v → Value.okWide Try.prog W .any base t v := hval
  rw [Try.params7] at hA hval'
  obtain ⟨v0, vs0, d0, ds0, p0, q0, hargs, rfl, rfl, h0, r0⟩ := trodAll_cons hA
  obtain ⟨rfl, rfl, rfl⟩ := trodAll_nil r0
  obtain rfl : args = #[v0] := by cases args; simp_all
  obtain ⟨A, N, c, bf, vf, rfl, hc, _, hF, _⟩ := open_fields (hval' 0 _ v0 rfl rfl) h0
  exact walk A N c hc bf vf W hF

theorem proved : Rows.PackBackSaid :=
  OpenClaim.holds_of_wide 7 Try.f7 rfl rfl rfl rfl rfl rfl rfl ⟨rfl, rfl, rfl, rfl, rfl⟩ rfl rfl rfl rfl rfl (by kernel_rfl) Try.func7 (by kernel_rfl)
    (of_decide_eq_true (by kernel_rfl)) (by unfold Func.isWrapper; rw [if_neg (by decide +kernel)]; exact ⟨rfl, rfl⟩)
    (fun os started H enc _ => lifted os started H enc)
#print axioms proved
end Go.Proofs.Ytcjhenfeniofiaa.packBack
