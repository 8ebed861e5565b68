/- The program's own reading of a desc's small fields out of a word: they are laid into the desc, field by field. -/
import Derived.Test.YtpepahecjkkpbaaRgWord
namespace Go.Proofs.Ytpepahecjkkpbaa
open Go.RowKit Go.Shelf Opn

/-- Where the small fields begin in their word. -/
def smP : Nat → Nat
  | 0 => 0 | 1 => 5 | 2 => 12 | 3 => 16 | 4 => 21 | 5 => 28 | 6 => 35 | 7 => 41 | 8 => 47 | _ => 50
theorem smP_succ {k : Nat} (h : k < 9) : smP k + smB k = smP (k + 1) := by
  match k, h with
  | 0, _ => rfl
  | 1, _ => rfl
  | 2, _ => rfl
  | 3, _ => rfl
  | 4, _ => rfl
  | 5, _ => rfl
  | 6, _ => rfl
  | 7, _ => rfl
  | 8, _ => rfl
theorem smP_le {k : Nat} (h : k < 9) : 1 ≤ smB k ∧ smB k ≤ 7 ∧ smP k + smB k ≤ 64 := by
  match k, h with
  | 0, _ => decide
  | 1, _ => decide
  | 2, _ => decide
  | 3, _ => decide
  | 4, _ => decide
  | 5, _ => decide
  | 6, _ => decide
  | 7, _ => decide
  | 8, _ => decide
theorem smO_ne {i k : Nat} (hi : i < k) (hk : k < 9) : smO i ≠ smO k := by
  have : ∀ k, k < 9 → ∀ i, i < k → smO i ≠ smO k := by decide
  exact this k hk i hi
/-- A small field of a word. -/
def smF (z i : Nat) : Nat := Pk.field z (smP i) (smB i)
theorem smF_lt (z : Nat) {i : Nat} (hi : i < 9) : smF z i < 128 := by
  have h1 := Pk.field_lt z (smP i) (smB i)
  have h2 : 2 ^ smB i ≤ 2 ^ 7 := Nat.pow_le_pow_right (by decide) (smP_le hi).2.1
  have h3 : (2 : Nat) ^ 7 = 128 := by decide
  unfold smF
  omega

/-- So many fields are laid into the desc at q. -/
structure RdAt (z q k : Nat) (w X : World) : Prop where
  got : ∀ i, i < k → X.cell? ⟨q, smO i, none⟩ = some (.int .u8 (smF z i : Nat))
  keep : ∀ j, (∀ i, i < k → j ≠ smO i) → X.cell? ⟨q, j, none⟩ = w.cell? ⟨q, j, none⟩
  free : ∀ j, X.frozen? ⟨q, j, none⟩ = w.frozen? ⟨q, j, none⟩
  only : Only (· = q) w X

theorem RdAt.below {z q k : Nat} {w X Y : World} (h : RdAt z q k w X) (hq : q < w.heap.size) (hb : Below X.heap.size X Y) : RdAt z q k w Y := by
  have hlt : q < X.heap.size := Nat.lt_of_lt_of_le hq h.only.size
  exact ⟨fun i hi => (hb.cell (p := ⟨q, smO i, none⟩) hlt).trans (h.got i hi), fun j hj => (hb.cell (p := ⟨q, j, none⟩) hlt).trans (h.keep j hj), fun j => (hb.frozen (p := ⟨q, j, none⟩) hlt).trans (h.free j), h.only.trans (Only.of_below _ hb)⟩
theorem RdAt.step {z q k : Nat} {w X : World} (h : RdAt z q k w X) (hk : k < 9) {u : Value} (hr : w.cell? ⟨q, smO k, none⟩ = some u) :
    RdAt z q (k + 1) w (X.setCell ⟨q, smO k, none⟩ (.int .u8 (smF z k : Nat))) := by
  have hroom : X.cell? ⟨q, smO k, none⟩ = some u := (h.keep (smO k) (fun i hi e => smO_ne hi hk e.symm)).trans hr
  refine ⟨fun i hi => ?_, fun j hj => ?_, fun j => ?_, h.only.setCell (p := ⟨q, smO k, none⟩) (.inl rfl) _⟩
  · by_cases e : i = k
    · subst e
      exact World.cell?_setCell_same' _ _ _ (by rw [hroom]; rfl)
    · rw [World.cell?_setCell_other _ _ _ _ (by intro e'; injection e' with _ e' _; exact smO_ne (show i < k by omega) hk e'.symm)]
      exact h.got i (by omega)
  · rw [World.cell?_setCell_other _ _ _ _ (by intro e'; injection e' with _ e' _; exact hj k (by omega) e'.symm)]
    exact h.keep j (fun i hi => hj i (by omega))
  · rw [World.frozen?_setCell]; exact h.free j

set_option maxRecDepth 100000 in
set_option maxHeartbeats 8000000 in
theorem readSmall_any (z q : Nat) (hz : z < 18446744073709551616) (w : World) (hroom : ∀ i, i < 9 → ∃ v, w.cell? ⟨q, smO i, none⟩ = some v) (hfree : ∀ j, w.frozen? ⟨q, j, none⟩ = false) :
    Calls Try.prog 17 #[.pointer (some ⟨q, 0, none⟩), .int .u64 z] w (fun e X => (∃ v, e = .returned v) ∧ RdAt z q 9 w X) := by
  obtain ⟨P, hP⟩ : ∃ P : Ending → World → Prop, P = (fun e X => (∃ v, e = .returned v) ∧ RdAt z q 9 w X) := ⟨_, rfl⟩
  rw [← hP]
  have HP := Lib.hid hP
  have hqw : q < w.heap.size := by
    obtain ⟨v, hv⟩ := hroom 0 (by omega)
    exact World.block_lt_of_cell? _ _ hv
  have HR := Lib.hid (And.intro hroom (And.intro hfree (And.intro hqw hz)))
  have HI := Lib.hid (fun i hi W => sm_at q i hi W)
  have HS := Lib.hid (fun W => smalls_any q W)
  generalize smc q = C at *
  clear hP hroom hfree hz hqw
  go_enter Try.func17, Try.ntmps17
  go_wp2_with fail
  refine (HS.out _).mono ?_
  rintro e w1 ⟨rfl, hb1⟩
  go_wp2
  have h0 : RdAt z q 0 w w1 := RdAt.below ⟨fun i hi => by omega, fun j _ => rfl, fun j => rfl, Only.refl _ _⟩ HR.out.2.2.1 hb1
  have H0 := Lib.hid h0
  clear h0 HS hb1
  go_loopw [4, 11] (fun u4 u11 wr => ∃ k : Nat, k ≤ 9 ∧ u4 = .int .i64 (smP k : Nat) ∧ u11 = .int .i64 k ∧ Hid (RdAt z q k w wr)) (fun _ iv _ => 9 - (RowKit.intOf iv).toNat)
  case atStart => exact ⟨0, by omega, rfl, rfl, H0⟩
  case round =>
    obtain ⟨k, hk, rfl, rfl, HK⟩ := hrel
    have i1 : (0 : Int) ≤ (k : Int) := by omega
    clear H0
    by_cases hlt : k < 9
    · have i2 : (k : Int) < 9 := by omega
      have n0 := HI.out k hlt
      have hle := smP_le hlt
      have hsu := smP_succ hlt
      have hF := smF_lt z hlt
      have HG := Lib.hid (fun W => get_ok z (smP k) (smB k) HR.out.2.2.2 hle.1 hle.2.2 W)
      obtain ⟨u, hu⟩ := HR.out.1 k hlt
      have hst := HK.out.below (Y := wr) HR.out.2.2.1 (Below.refl _ _)
      have hq1 : q < wr.heap.size := Nat.lt_of_lt_of_le HR.out.2.2.1 HK.out.only.size
      have hkk : wr.cell? ⟨q, smO k, none⟩ = some u := (HK.out.keep (smO k) (fun i hi e => smO_ne hi hlt e.symm)).trans hu
      have hfz : wr.frozen? ⟨q, smO k, none⟩ = false := (HK.out.free _).trans (HR.out.2.1 _)
      have HSTEP := Lib.hid (fun (Y : World) (hb : Below wr.heap.size wr Y) => (HK.out.below HR.out.2.2.1 hb).step hlt hu)
      clear hst hu HK HR
      show Code.wp _ _ _ _ _
      unfold smF at *
      have he : wrap64 ((smP k : Int) + (smB k : Int)) = (smP (k + 1) : Int) := by unfold wrap64; omega
      have HE := Lib.hid he
      clear he
      generalize smP k = p at *
      generalize smB k = b at *
      generalize smO k = o at *
      obtain ⟨v, hv⟩ : ∃ v, Pk.field z p b = v := ⟨_, rfl⟩
      rw [hv] at HG hF
      have e1 : IntKind.u8.wrap (v : Int) = (v : Int) := by rw [IntKind.wrap_u8]; omega
      have HV := Lib.hid hv
      clear hv hF hle hsu
      go_wp2_with fail
      refine (HG.out _).mono ?_
      rintro e w2 ⟨rfl, hb2⟩
      obtain ⟨hc2, hf2⟩ := bcell hb2
      have s1 : wr.heap.size < w2.heap.size := Nat.lt_of_lt_of_le (by simp) hb2.size
      have s2 : q < w2.heap.size := by omega
      have hk0 : w2.cell? ⟨wr.heap.size, 0, none⟩ = some (.int .i64 (b : Nat)) := (hb2.cell (p := ⟨wr.heap.size, 0, none⟩) (by simp)).trans (by simp [go_sem])
      have hk1 : w2.cell? ⟨wr.heap.size, 1, none⟩ = some (.pointer (some ⟨q, o, none⟩)) := (hb2.cell (p := ⟨wr.heap.size, 1, none⟩) (by simp)).trans (by simp [go_sem])
      have hb02 := below_then (below_one _ _) hb2
      have hk2 : w2.cell? ⟨q, o, none⟩ = some u := (hb02.cell (p := ⟨q, o, none⟩) hq1).trans hkk
      have hk3 : w2.frozen? ⟨q, o, none⟩ = false := (hb02.frozen (p := ⟨q, o, none⟩) hq1).trans hfz
      have hst := HSTEP.out w2 hb02
      have hn : wr.heap.size ≠ q := by omega
      have hk4 : (w2.setCell ⟨q, o, none⟩ (.int .u8 (v : Nat))).cell? ⟨wr.heap.size, 0, none⟩ = some (.int .i64 (b : Nat)) := by rw [World.cell?_setCell_other _ _ _ _ (by intro e'; injection e' with e' _ _; exact hn e'.symm)]; exact hk0
      rw [HV.out] at hst
      have HST := Lib.hid hst
      clear hst hb02 hb2 hkk hfz hc2 hf2
      go_wp2
      go_roundw
      case rel =>
        refine ⟨k + 1, by omega, ?_, by go_num, HST⟩
        rw [HE.out]
      case measure => simp [RowKit.intOf]; omega
    · obtain rfl : k = 9 := by omega
      go_wp2
      go_end0
      rw [HP.out]
      exact ⟨⟨_, rfl⟩, HK.out⟩
end Go.Proofs.Ytpepahecjkkpbaa
