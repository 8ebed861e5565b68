/- The document's own answers for package pack, where lists are gone through. -/
import Derived.Test.YtcjhenfeniofiaaPkRef
import Derived.Test.YtcjhenfeniofiaaPkAlive
import Derived.Test.YtcjhenfeniofiaaPkOpen
import Derived.Test.YtcjhenfeniofiaaMade
import Derived.Test.YtcjhenfeniofiaaTail
namespace Go.Proofs.Ytcjhenfeniofiaa
open Go.RowKit

theorem rIs_at (a b : Int) (c : Bool) (h : Pk.inW a b = c) (w : World) : Calls Try.prog 26 #[.int .i64 a, .int .i64 b] w (Ret (.bool c) w) := by
  subst h; exact rIs_any a b w
theorem rFits_at (v : Nat) (b : Int) (c : Bool) (hv : v < 18446744073709551616) (hb : 0 ≤ b ∧ b ≤ 64) (h : Pk.fitsB v b.toNat = c) (w : World) : Calls Try.prog 28 #[.int .u64 v, .int .i64 b] w (Ret (.bool c) w) := by
  subst h
  obtain ⟨n, rfl⟩ := Int.eq_ofNat_of_zero_le hb.1
  exact rFits_any v n hv (by omega) w
theorem rField_at (x : Nat) (a b : Int) (hx : x < 18446744073709551616) (h : Pk.inW a b = true) (w : World) : Calls Try.prog 27 #[.int .u64 x, .int .i64 a, .int .i64 b] w (Ret (.int .u64 (Pk.field x a.toNat b.toNat : Nat)) w) := by
  obtain ⟨m, n, rfl, rfl, _, h2⟩ := Pk.inW_nat h
  exact rField_any x m n hx h2 w
theorem rWith_at (x : Nat) (a b : Int) (v : Nat) (hx : x < 18446744073709551616) (h : Pk.inW a b = true) (hv : Pk.fitsB v b.toNat = true) (w : World) : Calls Try.prog 29 #[.int .u64 x, .int .i64 a, .int .i64 b, .int .u64 v] w (Ret (.int .u64 (Pk.put x a.toNat b.toNat v : Nat)) w) := by
  obtain ⟨m, n, rfl, rfl, _, h2⟩ := Pk.inW_nat h
  exact rWith_any x m n v hx (Pk.fits_lt hv) h2 w

set_option maxHeartbeats 1000000 in
theorem rJoined_ok (A : Option Addr) (N c : Nat) (hc : N ≤ c ∧ c ≤ 9223372036854775807) (bf : Nat → Int) (vf : Nat → Nat) (w : World) (hF : IsFields w A N bf vf) (hs : Pk.standB bf N = true) (hf : Pk.fitsAll bf vf N = true) :
    Calls Try.prog 30 #[.slice A N c] w (Ret (.int .u64 (Pk.join bf vf N : Nat)) w) := by
  have HF := Lib.hid hF
  have HS := Lib.hid hs
  have HFf := Lib.hid hf
  clear hF hs hf
  go_enter Try.func30, Try.ntmps30
  go_wp2
  go_loopw [3, 4, 5] (fun x a i wr => ∃ k : Nat, k ≤ N ∧ i = .int .i64 k ∧ x = .int .u64 (Pk.join bf vf k : Nat) ∧ a = .int .i64 (Pk.pos bf k) ∧ Below w.heap.size w wr) (fun _ _ i _ => N - (intOf i).toNat)
  case atStart => exact ⟨0, Nat.zero_le _, rfl, rfl, rfl, Below.refl _ _⟩
  case round =>
    obtain ⟨k, hk, rfl, rfl, rfl, hbr⟩ := hrel
    by_cases hlt : k < N
    · obtain ⟨b, off, rfl, f1, f2⟩ := HF.out k hlt
      have g1 := (hbr.cell (World.block_lt_of_cell? _ _ f1)).trans f1
      have g2 := (hbr.cell (World.block_lt_of_cell? _ _ f2)).trans f2
      have i1 : (0 : Int) ≤ (k : Int) := by omega
      have i2 : (k : Int) < (N : Int) := by omega
      clear f1 f2
      go_wp2
      have k1 := cell_regrown g1
      have k2 := cell_regrown g2
      refine wp_region_quiet_below (by kernel_rfl) (by kernel_rfl) ?_
      repeat (go_big_quiet_step (exact Calls.regrown_of (rWith_at _ _ _ _ (Pk.join_lt (Pk.standB_le hk HS.out) (Pk.fitsAll_le hk HFf.out)) (Pk.standB_at HS.out hlt) (Pk.fitsAll_at HFf.out hlt) _)))
      refine wpQuiet_nil ?_
      intro W3 hw'
      obtain ⟨⟨dq, osq⟩, hw''⟩ := hw'
      have hb3 := below_regrown wr dq osq
      rw [← hw''] at hb3
      clear hw'' k1 k2
      have g3 := (hb3.cell (World.block_lt_of_cell? _ _ g1)).trans g1
      clear g1 g2
      go_wp2
      go_roundw
      case rel => exact ⟨k + 1, by omega, by go_num, rfl, rfl, below_then hbr hb3⟩
      case measure => simp [intOf]; omega
    · obtain rfl : k = N := by omega
      go_wp2
      go_ret
      exact Ret.mk rfl hbr

set_option maxHeartbeats 1000000 in
theorem rJoin_any (A : Option Addr) (N c : Nat) (hc : N ≤ c ∧ c ≤ 9223372036854775807) (bf : Nat → Int) (vf : Nat → Nat) (w : World) (hF : IsFields w A N bf vf) (hv : ∀ i, i < N → vf i < 18446744073709551616) :
    Calls Try.prog 15 #[.slice A N c] w (Ret2 (.int .u64 (Pk.joinW bf vf N : Nat)) (.int .i64 (Pk.joinE bf vf N)) w) := by
  have HF := Lib.hid hF
  have HV := Lib.hid hv
  clear hF hv
  go_enter Try.func15, Try.ntmps15
  go_wp2
  go_loopw [4, 5] (fun a i wr => ∃ k : Nat, k ≤ N ∧ i = .int .i64 k ∧ a = .int .i64 (Pk.pos bf k) ∧ Below w.heap.size w wr ∧ Hid (Pk.standB bf k = true)) (fun _ i _ => N - (intOf i).toNat)
  case atStart => exact ⟨0, Nat.zero_le _, rfl, rfl, Below.refl _ _, rfl⟩
  case round =>
    obtain ⟨k, hk, rfl, rfl, hbr, HS⟩ := hrel
    by_cases hlt : k < N
    · obtain ⟨b, off, rfl, f1, f2⟩ := HF.out k hlt
      have g1 := (hbr.cell (World.block_lt_of_cell? _ _ f1)).trans f1
      clear f1 f2
      cases hin : Pk.inW (Pk.pos bf k) (bf k) with
      | false =>
        have hs : Pk.standB bf N = false := Pk.standB_false (show k + 1 ≤ N by omega) (by rw [Pk.standB_succ, hin, Bool.and_false])
        have ew : Pk.joinW bf vf N = 0 := by unfold Pk.joinW; rw [if_neg (by rw [hs]; simp)]
        have ee : Pk.joinE bf vf N = 2 := by unfold Pk.joinE; rw [if_neg (by rw [hs]; simp)]
        have EW := Lib.hid ew
        have EE := Lib.hid ee
        have HIN := Lib.hid hin
        clear ew ee hs hin
        go_wp2_with (go_at_call 26; refine (rIs_at _ _ false HIN.out _).mono ?_; rintro e w2 ⟨rfl, hb2⟩)
        go_ret2
        exact Ret2.mk (u64_eq (by rw [EW.out]; rfl)) (i64_eq (by rw [EE.out])) (below_then hbr hb2)
      | true =>
        have HS2 : Hid (Pk.standB bf (k + 1) = true) := Lib.hid (by rw [Pk.standB_succ, hin, HS.out]; rfl)
        have HIN := Lib.hid hin
        clear hin
        go_wp2_with (go_at_call 26; refine (rIs_at _ _ true HIN.out _).mono ?_; rintro e w2 ⟨rfl, hb2⟩; have g2 := (hb2.cell (World.block_lt_of_cell? _ _ g1)).trans g1)
        go_roundw
        case rel => exact ⟨k + 1, by omega, by go_num, rfl, below_then hbr hb2, HS2⟩
        case measure => simp [intOf]; omega
    · obtain rfl : k = N := by omega
      go_wp2
      go_loopw [6] (fun i wr => ∃ j : Nat, j ≤ k ∧ i = .int .i64 j ∧ Below w.heap.size w wr ∧ Hid (Pk.fitsAll bf vf j = true)) (fun i _ => k - (intOf i).toNat)
      case atStart => exact ⟨0, Nat.zero_le _, rfl, hbr, rfl⟩
      case round =>
        clear hbr
        obtain ⟨j, hj, rfl, hbr, HFf⟩ := hrel
        by_cases hlt : j < k
        · obtain ⟨b, off, rfl, f1, f2⟩ := HF.out j hlt
          have g1 := (hbr.cell (World.block_lt_of_cell? _ _ f1)).trans f1
          have g2 := (hbr.cell (World.block_lt_of_cell? _ _ f2)).trans f2
          have i1 : (0 : Int) ≤ (j : Int) := by omega
          have i2 : (j : Int) < (k : Int) := by omega
          have hbit := Pk.inW_true (Pk.standB_at HS.out hlt)
          have hbd : 0 ≤ bf j ∧ bf j ≤ 64 := by omega
          have HBD := Lib.hid hbd
          clear f1 f2 hbit hbd
          go_wp2
          have k1 := cell_regrown g1
          have k2 := cell_regrown g2
          refine wp_region_quiet_below (by kernel_rfl) (by kernel_rfl) ?_
          repeat (go_big_quiet_step (exact Calls.regrown_of (rFits_at _ _ _ (HV.out _ hlt) HBD.out rfl _)))
          refine wpQuiet_nil ?_
          intro W3 hw'
          obtain ⟨⟨dq, osq⟩, hw''⟩ := hw'
          have hb3 := below_regrown wr dq osq
          rw [← hw''] at hb3
          clear hw'' k1 k2
          cases hfit : Pk.fitsB (vf j) (bf j).toNat with
          | false =>
            have hf : Pk.fitsAll bf vf k = false := Pk.fitsAll_false (show j + 1 ≤ k by omega) (by rw [Pk.fitsAll_succ, hfit, Bool.and_false])
            have ew : Pk.joinW bf vf k = 0 := by unfold Pk.joinW; rw [if_neg (by rw [hf]; simp)]
            have ee : Pk.joinE bf vf k = 10 := by unfold Pk.joinE; rw [if_pos HS.out, if_neg (by rw [hf]; simp)]
            have EW := Lib.hid ew
            have EE := Lib.hid ee
            clear ew ee hf
            go_wp2
            go_ret2
            exact Ret2.mk (u64_eq (by rw [EW.out]; rfl)) (i64_eq (by rw [EE.out])) (below_then hbr hb3)
          | true =>
            have HF2 : Hid (Pk.fitsAll bf vf (j + 1) = true) := Lib.hid (by rw [Pk.fitsAll_succ, hfit, HFf.out]; rfl)
            go_wp2
            go_roundw
            case rel => exact ⟨j + 1, by omega, by go_num, below_then hbr hb3, HF2⟩
            case measure => simp [intOf]; omega
        · obtain rfl : j = k := by omega
          have ew : Pk.joinW bf vf j = Pk.join bf vf j := by unfold Pk.joinW; rw [if_pos ⟨HS.out, HFf.out⟩]
          have ee : Pk.joinE bf vf j = 0 := by unfold Pk.joinE; rw [if_pos HS.out, if_pos HFf.out]
          have EW := Lib.hid ew
          have EE := Lib.hid ee
          clear ew ee
          go_wp2_with (go_at_call 30; refine (rJoined_ok A j c hc bf vf _ (HF.out.same hbr.block) HS.out HFf.out).mono ?_; rintro e w2 ⟨rfl, hb2⟩)
          go_ret2
          exact Ret2.mk (u64_eq (by rw [EW.out])) (i64_eq (by rw [EE.out])) (below_then hbr hb2)

/-- A new list, made by append: its numbers. -/
def RetMade (N : Nat) (f : Nat → Nat) (w : World) (e : Ending) (w' : World) : Prop :=
  ∃ v, e = .returned (.tuple #[v, .int .i64 0]) ∧ Made w' w.heap.size 22 v N (fun j => .int .u64 (f j : Nat)) ∧ Below w.heap.size w w'

/-- What Split says: nothing and ErrArg, or the fields' numbers. -/
def RetSplit (x : Nat) (bf : Nat → Int) (N : Nat) (w : World) (e : Ending) (w' : World) : Prop :=
  (Pk.standB bf N = false ∧ Ret2 (.slice none 0 0) (.int .i64 2) w e w') ∨ (Pk.standB bf N = true ∧ RetMade N (fun j => Pk.field x (Pk.pos bf j).toNat (bf j).toNat) w e w')

set_option maxHeartbeats 1000000 in
theorem rSplit_any (x : Nat) (hx : x < 18446744073709551616) (A : Option Addr) (N c : Nat) (hN : N ≤ 100000000) (bf : Nat → Int) (w : World) (hF : IsInts w A N bf) :
    Calls Try.prog 16 #[.int .u64 x, .slice A N c] w (RetSplit x bf N w) := by
  have HF := Lib.hid hF
  have HX := Lib.hid hx
  clear hF hx
  obtain ⟨B, hB⟩ : ∃ B, w.heap.size = B := ⟨_, rfl⟩
  have HB := Lib.hid hB
  have hBz : B ≤ w.heap.size := by rw [hB]; exact Nat.le_refl _
  clear hB
  go_enter Try.func16, Try.ntmps16
  go_wp2
  go_loopw [6, 7, 8] (fun v a i wr => ∃ k : Nat, k ≤ N ∧ i = .int .i64 k ∧ a = .int .i64 (Pk.pos bf k) ∧ Made wr B 22 v k (fun j => .int .u64 (Pk.field x (Pk.pos bf j).toNat (bf j).toNat : Nat)) ∧ Below B w wr ∧ Hid (Pk.standB bf k = true)) (fun _ _ i _ => N - (intOf i).toNat)
  case atStart => exact ⟨0, Nat.zero_le _, rfl, rfl, Made.nil _ _ _ _, Below.refl _ _, rfl⟩
  case round =>
    obtain ⟨k, hk, rfl, rfl, hm, hbr, HS⟩ := hrel
    have Hm := Lib.hid hm
    clear hm
    by_cases hlt : k < N
    · obtain ⟨b, off, rfl, f1⟩ := HF.out k hlt
      have hbB : b < B := by rw [← HB.out]; exact World.block_lt_of_cell? _ _ f1
      have g1 := (hbr.cell (p := ⟨b, off + k, none⟩) hbB).trans f1
      clear f1
      cases hin : Pk.inW (Pk.pos bf k) (bf k) with
      | false =>
        have hs : Pk.standB bf N = false := Pk.standB_false (show k + 1 ≤ N by omega) (by rw [Pk.standB_succ, hin, Bool.and_false])
        have HSN := Lib.hid hs
        have HIN := Lib.hid hin
        clear hs hin
        go_wp2_with (go_at_call 26; refine (rIs_at _ _ false HIN.out _).mono ?_; rintro e w2 ⟨rfl, hb2⟩)
        go_ret2
        exact .inl ⟨HSN.out, Ret2.mk rfl rfl (by rw [HB.out]; exact hbr.trans (hb2.mono (Nat.le_trans hBz hbr.size)))⟩
      | true =>
        have HS2 : Hid (Pk.standB bf (k + 1) = true) := Lib.hid (by rw [Pk.standB_succ, hin, HS.out]; rfl)
        have HIN := Lib.hid hin
        clear hin
        go_wp2_with (first
          | (go_at_call 26; refine (rIs_at _ _ true HIN.out _).mono ?_; rintro e w2 ⟨rfl, hb2⟩
             have g2 := (hb2.cell (World.block_lt_of_cell? _ _ g1)).trans g1
             have hbr2 : Below B w w2 := hbr.trans (hb2.mono (Nat.le_trans hBz hbr.size)))
          | (go_at_call 27; refine (rField_at _ _ _ HX.out HIN.out _).mono ?_; rintro e w3 ⟨rfl, hb3⟩
             have g3 := (hb3.cell (World.block_lt_of_cell? _ _ g2)).trans g2
             have hbr3 : Below B w w3 := hbr2.trans (hb3.mono (Nat.le_trans hBz hbr2.size)))
          | (at_builtin
             refine wpList_pushed rfl (.tmp 22) (.tmp 30) _ rfl Try.underlying31 u64_info rfl (by decide) rfl (((Hm.out.below hb2).below hb3).alloc _) _ rfl (by simp [go_sem]) rfl (by omega) hBz (hbr3.alloc (Nat.le_trans hBz hbr3.size) _) ?_
             intro v' W4 Hm4 hbW4 Hk4
             have g4 := (hbW4.cell (p := ⟨b, off + k, none⟩) hbB).trans ((hbr.cell (p := ⟨b, off + k, none⟩) hbB).symm.trans g1)))
        go_roundw
        case rel => exact ⟨k + 1, by omega, by go_num, rfl, Hm4.out, hbW4, HS2⟩
        case measure => simp [intOf]; omega
    · obtain rfl : k = N := by omega
      go_wp2
      go_ret2
      exact .inr ⟨HS.out, _, rfl, by rw [HB.out]; exact Hm.out, by rw [HB.out]; exact hbr⟩
end Go.Proofs.Ytcjhenfeniofiaa
