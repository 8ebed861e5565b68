/- The search's comparison of a row with a key. slices.BinarySearchFunc over rows that rise, with the program's own comparison: the place of a key, and whether it is there; the program's seek. -/
import Derived.Test.YtljdkjjjnlcflaaDoorCmp
import Derived.Test.YtljdkjjjnlcflaaDoorOpMath
import Derived.Test.YtljdkjjjnlcflaaDoorPqNames
namespace Go.Proofs.YtljdkjjjnlcflaaDoor
open Go.RowKit Tb

set_option maxRecDepth 100000 in
set_option maxHeartbeats 1000000 in
theorem plit_any (x y k : Nat) (w : World) : Calls Tryd.prog 63 #[.agg #[.int .u64 x, .int .u64 y], .int .u64 k] w (Ret (.int .i64 (cmpI x k)) w) := by
  go_enter Tryd.func63, Tryd.ntmps63
  go_wp2_with (go_at_call 64; refine (compare_any _ _ _).mono ?_; rintro e w' ⟨rfl, hb⟩)
  go_ret
  exact Ret.mk rfl (below_b1 (by assumption))
end Go.Proofs.YtljdkjjjnlcflaaDoor

namespace Go.Proofs.YtljdkjjjnlcflaaDoor
open Go.RowKit Tb Pt Opn

set_option maxHeartbeats 4000000 in
set_option maxRecDepth 100000 in
theorem pbin_any (A : Option Addr) (l : List R) (c : Nat) (hl : l.length ≤ 1000000) (hu : Up l) (k : Nat) (w : World) (h : IsR w A l) :
    Calls Tryd.prog 62 #[.slice A l.length c, .int .u64 k, .func (.func 63) #[] #[]] w (Ret2 (.int .i64 (pos l k)) (.bool (Tb.get l k).isSome) w) := by
  have HU := Lib.hid hu
  clear hu
  have HA := Lib.hid h
  clear h
  obtain ⟨N, hN⟩ : ∃ N, l.length = N := ⟨_, rfl⟩
  have HN := Lib.hid hN
  rw [hN] at hl ⊢
  clear hN
  obtain ⟨p, hp⟩ : ∃ p, pos l k = p := ⟨_, rfl⟩
  obtain ⟨s, hs⟩ : ∃ s, (Tb.get l k).isSome = s := ⟨_, rfl⟩
  have HP := Lib.hid (And.intro hp hs)
  rw [hp, hs]
  clear hp hs
  go_enter Tryd.func62, Tryd.ntmps62
  go_wp2
  go_loopw [9, 10] (fun iv jv wr => Below w.heap.size w wr ∧ ∃ i j : Nat, iv = .int .i64 i ∧ jv = .int .i64 j ∧ i ≤ j ∧ j ≤ N ∧ Hid (Half l k i j)) (fun iv jv _ => (intOf jv - intOf iv).toNat)
  case atStart => exact ⟨Below.refl _ _, 0, N, rfl, rfl, by omega, by omega, Lib.hid (by rw [← HN.out]; exact half_zero l k)⟩
  case round =>
    obtain ⟨hb, i, j, rfl, rfl, hij, hj, HH⟩ := hrel
    by_cases hlt : i < j
    · have j1 : (i + j) / 2 < l.length := by rw [HN.out]; omega
      have i1 : (i : Int) < (j : Int) := by omega
      obtain ⟨b, off, rfl, h1, h2⟩ := HA.out.row j1
      replace h1 := (hb.cell (World.block_lt_of_cell? _ _ h1)).trans h1
      replace h2 := (hb.cell (World.block_lt_of_cell? _ _ h2)).trans h2
      obtain ⟨h, hh⟩ : ∃ h, (i + j) / 2 = h := ⟨_, rfl⟩
      have ei : ((i : Int) + (j : Int)) / 2 = (h : Nat) := by omega
      have HJ := Lib.hid j1
      obtain ⟨x, hx⟩ : ∃ x, (l[(i + j) / 2]'j1).1 = x := ⟨_, rfl⟩
      obtain ⟨y, hy⟩ : ∃ y, (l[(i + j) / 2]'j1).2 = y := ⟨_, rfl⟩
      rw [hx] at h1
      rw [hy] at h2
      rw [hh] at h1 h2
      have HX := Lib.hid hx
      clear hx hy
      by_cases hk : x < k
      · have hc := cmp_lt.2 hk
        go_wp2_with (go_at_call 63; refine (plit_any _ _ _ _).mono ?_; rintro e w2 ⟨rfl, hb2⟩)
        go_roundw
        case rel => exact ⟨below_then hb hb2, h + 1, j, by go_num, rfl, by omega, hj, Lib.hid (half_up HU.out HH.out (by omega) (hh ▸ j1) (by subst hh; rw [HX.out]; exact hk) (by omega))⟩
        case measure => simp [intOf]; omega
      · have hc : ¬ cmpI x k < 0 := fun h => hk (cmp_lt.1 h)
        go_wp2_with (go_at_call 63; refine (plit_any _ _ _ _).mono ?_; rintro e w2 ⟨rfl, hb2⟩)
        go_roundw
        case rel => exact ⟨below_then hb hb2, i, h, rfl, rfl, by omega, by omega, Lib.hid (half_down HU.out HH.out (by omega) (by omega) (hh ▸ j1) (by subst hh; rw [HX.out]; exact hk))⟩
        case measure => simp [intOf]; omega
    · obtain rfl : i = j := by omega
      have hp := half_end HH.out
      rw [HP.out.1] at hp
      subst hp
      by_cases hlt2 : p < N
      · have j1 : p < l.length := by rw [HN.out]; exact hlt2
        have i1 : (p : Int) < (N : Int) := by omega
        have i2 : (0 : Int) ≤ (p : Int) := by omega
        obtain ⟨b, off, rfl, h1, h2⟩ := HA.out.row j1
        replace h1 := (hb.cell (World.block_lt_of_cell? _ _ h1)).trans h1
        replace h2 := (hb.cell (World.block_lt_of_cell? _ _ h2)).trans h2
        have HG := pos_get HU.out k
        rw [HP.out.1] at HG
        have es : s = decide (cmpI (l[p]'j1).1 k = 0) := by
          rw [← HP.out.2]
          rcases HG with ⟨e, h3⟩ | ⟨hm, h3, e⟩
          · rw [e]; exact (decide_eq_false (fun h => h3 j1 (cmp_eq.1 h))).symm
          · rw [e]; exact (decide_eq_true (cmp_eq.2 h3)).symm
        clear HG
        obtain ⟨x, hx⟩ : ∃ x, (l[p]'j1).1 = x := ⟨_, rfl⟩
        obtain ⟨y, hy⟩ : ∃ y, (l[p]'j1).2 = y := ⟨_, rfl⟩
        rw [hx] at h1 es
        rw [hy] at h2
        have ES := Lib.hid es
        clear es hx hy
        go_wp2_with (go_at_call 63; refine (plit_any _ _ _ _).mono ?_; rintro e w2 ⟨rfl, hb2⟩)
        go_ret2
        exact Ret2.mk rfl (bool_eq (by rw [ES.out, Bool.eq_iff_iff]; simp)) (below_then hb hb2)
      · have i1 : ¬ (p : Int) < (N : Int) := by omega
        have es : s = false := by
          rw [← HP.out.2]
          rcases pos_get HU.out k with ⟨e, _⟩ | ⟨hm, _⟩
          · rw [e]; rfl
          · rw [HP.out.1, HN.out] at hm; exact absurd hm hlt2
        subst es
        go_wp2
        go_ret2
        exact Ret2.mk rfl rfl hb

set_option maxRecDepth 100000 in
set_option maxHeartbeats 2000000 in
/-- The program's own search. -/
theorem pseek_any (A : Option Addr) (l : List R) (c : Nat) (hl : l.length ≤ 1000000) (hu : Up l) (o : O) (ho : Wf o) (w : World) (h : IsR w A l) :
    Calls Tryd.prog 44 #[.slice A l.length c, opv o] w (Ret2 (.int .i64 (pos l (pth o))) (.bool (Tb.get l (pth o)).isSome) w) := by
  have HNM := Lib.hid (fun W => qNamed_any o ho W)
  have HK := Lib.hid (fun W => qKey_any (o.a % 65536) (o.a / 65536) o.b (pth o) rfl (by unfold Wf at ho; unfold pth; omega) W)
  have HB := Lib.hid (fun k W hA => pbin_any A l c hl hu k W hA)
  have HA := Lib.hid h
  generalize o.a % 65536 = na at *
  generalize o.a / 65536 = nb at *
  generalize l.length = N at *
  generalize hk : pth o = k at *
  clear h hu hk
  unfold opv at *
  go_enter Tryd.func44, Tryd.ntmps44
  go_wp2_with (first
    | (go_at_call 47; refine (HNM.out _).mono ?_; rintro e w1 ⟨rfl, hb1⟩)
    | (go_at_call 46; refine (HK.out _).mono ?_; rintro e w2 ⟨rfl, hb2⟩)
    | (go_at_call 62; refine (HB.out _ _ (HA.out.below (below_then (below_b1 hb1) hb2))).mono ?_; rintro e w3 ⟨rfl, hb3⟩))
  go_ret2
  exact Ret2.mk rfl rfl (below_then (below_then (below_b1 hb1) hb2) hb3)
end Go.Proofs.YtljdkjjjnlcflaaDoor
