/- Whether a config is of ObjAccess, whether rows may be rules: the program's own answers. -/
import Derived.Test.YtfkkeokmkhjpfaaDoorRuRef
import Derived.Test.YtfkkeokmkhjpfaaDoorTbPos
import Derived.Test.YtfkkeokmkhjpfaaDoorPtChk
namespace Go.Proofs.YtfkkeokmkhjpfaaDoor
open Go.RowKit Tb Pt Opn

set_option maxHeartbeats 1000000 in
theorem uisOf_any (c : Cf) (w : World) : Calls Tryd.prog 20 #[cfv c] w (Ret (.bool (decide (Ok c ∧ c.obj = 3))) w) := by
  have HC := Lib.hid (check_any c)
  have e : decide (Ok c ∧ c.obj = 3) = (okB c && decide (c.obj = 3)) := by unfold okB; rw [Bool.eq_iff_iff]; simp
  rw [e]
  clear e
  generalize okB c = k at *
  unfold cfv at *
  go_enter Tryd.func20, Tryd.ntmps20
  go_wp2_with (go_at_call 32; refine (HC.out _).mono ?_; rintro e w1 ⟨rfl, hb1⟩; obtain ⟨hc1, hf1⟩ := bcell hb1)
  all_goals go_ret
  all_goals refine Ret.mk (bool_eq ?_) (below_b1 hb1)
  · rename_i h
    cases k with
    | true => rw [Bool.eq_iff_iff]; simp
    | false => exact absurd h (by decide)
  · rename_i h
    cases k with
    | true => exact absurd rfl h
    | false => rfl

/-- How far rows are good: the first j, and the least key that may come next. -/
def GoodU (l : List R) (j a : Nat) : Prop := Up (l.take j) ∧ (∀ x ∈ l.take j, RuOk x ∧ x.1 < a) ∧ (a = 0 ∨ ∃ x ∈ l.take j, x.1 + 1 = a)
theorem goodU_zero (l : List R) : GoodU l 0 0 := ⟨List.Pairwise.nil, fun x hx => by simp at hx, .inl rfl⟩
theorem take_snocU {l : List R} {j : Nat} (hj : j < l.length) : l.take (j + 1) = l.take j ++ [l[j]] := by rw [List.take_succ_eq_append_getElem hj]
theorem goodU_step {l : List R} {j a : Nat} (h : GoodU l j a) (hj : j < l.length) (h1 : a ≤ l[j].1) (h2 : l[j].1 < 4294967296) (h3 : l[j].2 = 1 ∨ l[j].2 = 2) : GoodU l (j + 1) (l[j].1 + 1) := by
  obtain ⟨g1, g2, g3⟩ := h
  unfold GoodU
  rw [take_snocU hj]
  refine ⟨?_, fun x hx => ?_, .inr ⟨l[j], List.mem_append_right _ (List.mem_singleton.2 rfl), rfl⟩⟩
  · unfold Up
    rw [List.pairwise_append]
    exact ⟨g1, List.pairwise_singleton _ _, fun x hx y hy => by rw [List.mem_singleton.1 hy]; exact Nat.lt_of_lt_of_le (g2 x hx).2 h1⟩
  · rcases List.mem_append.1 hx with hx | hx
    · exact ⟨(g2 x hx).1, by have := (g2 x hx).2; omega⟩
    · rw [List.mem_singleton.1 hx]; exact ⟨⟨h2, h3⟩, Nat.lt_succ_self _⟩
theorem goodU_not {l : List R} {j a : Nat} (h : GoodU l j a) (hj : j < l.length) (h1 : ¬ (a ≤ l[j].1 ∧ l[j].1 < 4294967296 ∧ (l[j].2 = 1 ∨ l[j].2 = 2))) : ¬ (Up l ∧ ∀ x ∈ l, RuOk x) := fun ⟨hu, hr⟩ => by
  obtain ⟨g1, g2, g3⟩ := h
  obtain ⟨r1, r2⟩ := hr _ (List.getElem_mem hj)
  refine h1 ⟨?_, r1, r2⟩
  rcases g3 with rfl | ⟨x, hx, rfl⟩
  · omega
  · obtain ⟨m, hm, rfl⟩ := List.getElem_of_mem hx
    rw [List.length_take] at hm
    rw [List.getElem_take]
    exact up_lt hu (by omega) hj
theorem goodU_all {l : List R} {a : Nat} (h : GoodU l l.length a) : Up l ∧ ∀ x ∈ l, RuOk x := by
  obtain ⟨g1, g2, _⟩ := h
  rw [List.take_length] at g1 g2
  exact ⟨g1, fun x hx => (g2 x hx).1⟩

set_option maxHeartbeats 1000000 in
theorem said_any (v : Nat) (w : World) : Calls Tryd.prog 33 #[.int .u64 v] w (Ret (.bool (decide (v = 1 ∨ v = 2))) w) := by
  go_enter Tryd.func33, Tryd.ntmps33
  go_wp2
  all_goals
    go_ret
    refine Ret.mk (bool_eq ?_) (Below.refl _ _)
    rw [Bool.eq_iff_iff]
    simp only [Bool.or_eq_true, beq_iff_eq, decide_eq_true_eq]
    (first | omega | grind)

set_option maxHeartbeats 4000000 in
set_option maxRecDepth 100000 in
theorem uare_any (c : Cf) (A : Option Addr) (l : List R) (d : Nat) (hl : l.length ≤ 1000000) (w : World) (h : IsR w A l) :
    Calls Tryd.prog 21 #[cfv c, .slice A l.length d] w (Ret (.bool (decide ((l.length : Int) ≤ c.cap ∧ Up l ∧ ∀ x ∈ l, RuOk x))) w) := by
  have HA := Lib.hid h
  clear h
  obtain ⟨N, hN⟩ : ∃ N, l.length = N := ⟨_, rfl⟩
  rw [hN] at hl ⊢
  have HN := Lib.hid hN
  clear hN
  unfold cfv
  by_cases hcap : (N : Int) ≤ c.cap
  · obtain ⟨u, hu⟩ : ∃ u, decide ((N : Int) ≤ c.cap ∧ Up l ∧ ∀ x ∈ l, RuOk x) = u := ⟨_, rfl⟩
    rw [hu]
    have HU := Lib.hid hu
    clear hu
    have hc2 : ¬ c.cap < (N : Int) := by omega
    go_enter Tryd.func21, Tryd.ntmps21
    go_wp2
    obtain ⟨W, hW⟩ : ∃ W, W = w.alloc (.cells #[.int .u8 c.obj, .int .i64 c.inst, .int .i64 c.thr, .int .u8 c.kind, .int .i64 c.str, .int .i64 c.bits, .int .i64 c.cap, .int .i64 c.node, .int .i64 c.bat, .int .i64 c.chunk, .int .u64 c.lim, .int .u64 c.most] 33) := ⟨_, rfl⟩
    have hb2 : Below w.heap.size w W := by rw [hW]; exact below_one _ _
    rw [← hW]
    have HA := Lib.hid (HA.out.below hb2)
    clear hW
    go_loopw [5, 15] (fun av iv wr => Below W.heap.size W wr ∧ ∃ a j : Nat, j ≤ N ∧ a ≤ 4294967296 ∧ av = .int .u64 a ∧ iv = .int .i64 j ∧ Hid (GoodU l j a)) (fun _ i _ => N - (intOf i).toNat)
    case atStart => exact ⟨Below.refl _ _, 0, 0, Nat.zero_le _, by omega, rfl, rfl, Lib.hid (goodU_zero l)⟩
    case round =>
      obtain ⟨hbr, a, j, hj, ha, rfl, rfl, HG⟩ := hrel
      have i1 : (0 : Int) ≤ (j : Int) := by omega
      by_cases hlt : j < N
      · have j1 : j < l.length := by rw [HN.out]; exact hlt
        have i2 : (j : Int) < (N : Int) := by omega
        obtain ⟨bk, off, rfl, h1, h2⟩ := HA.out.row j1
        replace h1 := (hbr.cell (World.block_lt_of_cell? _ _ h1)).trans h1
        replace h2 := (hbr.cell (World.block_lt_of_cell? _ _ h2)).trans h2
        have hs := goodU_step HG.out j1
        have hf := goodU_not HG.out j1
        obtain ⟨x, hx⟩ : ∃ x, (l[j]'j1).1 = x := ⟨_, rfl⟩
        obtain ⟨y, hy⟩ : ∃ y, (l[j]'j1).2 = y := ⟨_, rfl⟩
        rw [hx] at h1 hs hf
        rw [hy] at h2 hs hf
        have HS := Lib.hid hs
        have HF := Lib.hid hf
        clear hs hf hx hy
        have HSD := Lib.hid (said_any y)
        obtain ⟨z, hz⟩ : ∃ z, decide (y = 1 ∨ y = 2) = z := ⟨_, rfl⟩
        rw [hz] at HSD
        have HZ := Lib.hid hz
        clear hz
        by_cases hg : a ≤ x ∧ x < 4294967296 ∧ z = true
        · obtain ⟨g1, g2, rfl⟩ := hg
          have k1 : ¬ (x : Int) < (a : Int) := by omega
          have k2 : ¬ (x : Int) ≥ 4294967296 := by omega
          have k4 : IntKind.u64.wrap ((x : Int) + 1) = ((x + 1 : Nat) : Int) := by rw [IntKind.wrap_u64]; omega
          go_wp2_with (go_at_call 33; refine (HSD.out _).mono ?_; rintro e w2 ⟨rfl, hb2⟩; obtain ⟨hc2, hf2⟩ := bcell hb2)
          go_roundw
          case rel => exact ⟨below_then (below_then hbr (below_one _ _)) hb2, x + 1, j + 1, by omega, by omega, by first | rfl | exact congrArg (Value.int .u64) k4 | exact congrArg (Value.int .u64) (by omega), by go_num, Lib.hid (HS.out g1 g2 (of_decide_eq_true HZ.out))⟩
          case measure => simp [intOf]; omega
        · have e : u = false := by
            rw [← HU.out]; exact decide_eq_false fun g => HF.out (fun g' => hg ⟨g'.1, g'.2.1, by rw [← HZ.out]; exact decide_eq_true g'.2.2⟩) g.2
          subst e
          rcases (by cases z <;> simp at hg ⊢ <;> omega : x < a ∨ (¬ x < a ∧ 4294967296 ≤ x) ∨ (¬ x < a ∧ ¬ 4294967296 ≤ x ∧ z = false)) with k1 | ⟨k1, k2⟩ | ⟨k1, k2, rfl⟩
          · have k1 : (x : Int) < (a : Int) := by omega
            go_wp2
            go_ret
            exact Ret.mk rfl (hb2.trans ((hbr.trans ((below_one _ _).mono hbr.size)).mono hb2.size))
          · have k1 : ¬ (x : Int) < (a : Int) := by omega
            have k2 : (x : Int) ≥ 4294967296 := by omega
            go_wp2
            go_ret
            exact Ret.mk rfl (hb2.trans ((hbr.trans ((below_one _ _).mono hbr.size)).mono hb2.size))
          · have k1 : ¬ (x : Int) < (a : Int) := by omega
            have k2 : ¬ (x : Int) ≥ 4294967296 := by omega
            go_wp2_with (go_at_call 33; refine (HSD.out _).mono ?_; rintro e w3 ⟨rfl, hb3⟩; obtain ⟨hc2, hf2⟩ := bcell hb3)
            go_ret
            exact Ret.mk rfl (hb2.trans ((below_then (below_then hbr (below_one _ _)) hb3).mono hb2.size))
      · obtain rfl : j = N := by omega
        have e : u = true := by
          rw [← HU.out]
          have := goodU_all (by rw [HN.out]; exact HG.out)
          exact decide_eq_true ⟨hcap, this⟩
        subst e
        go_wp2
        go_ret
        exact Ret.mk rfl (hb2.trans (hbr.mono hb2.size))
  · rw [decide_eq_false (fun g => hcap g.1)]
    have hc2 : c.cap < (N : Int) := by omega
    go_enter Tryd.func21, Tryd.ntmps21
    go_wp2
    go_ret
    exact Ret.mk rfl (below_one _ _)

set_option maxHeartbeats 1000000 in
theorem uIs_any (c : Cf) (A : Option Addr) (l : List R) (d : Nat) (hl : l.length ≤ 1000000) (_ : ∀ x ∈ l, x.1 < 18446744073709551616) (w : World) (h : IsR w A l) :
    Calls Tryd.prog 13 #[cfv c, .slice A l.length d] w (Ret (.bool (ruB c l)) w) := by
  have HI := Lib.hid (uisOf_any c)
  have HA := Lib.hid h
  by_cases hg : Ok c ∧ c.obj = 3
  · have HR := Lib.hid (fun W hA => uare_any c A l d hl W hA)
    have e : ruB c l = decide ((l.length : Int) ≤ c.cap ∧ Up l ∧ ∀ x ∈ l, RuOk x) := by
      unfold ruB; rw [Bool.eq_iff_iff, decide_eq_true_iff, decide_eq_true_iff]; unfold IsRu
      exact ⟨fun g => g.2.2, fun g => ⟨hg.1, hg.2, g⟩⟩
    rw [← e] at HR
    rw [decide_eq_true hg] at HI
    clear e hg h
    generalize ruB c l = u at *
    generalize l.length = N at *
    unfold cfv at *
    go_enter Tryd.func13, Tryd.ntmps13
    go_wp2_with (first
      | (go_at_call 20; refine (HI.out _).mono ?_; rintro e w1 ⟨rfl, hb1⟩; obtain ⟨hc1, hf1⟩ := bcell hb1)
      | (go_at_call 21; refine (HR.out _ (HA.out.below (below_b1 hb1))).mono ?_; rintro e w2 ⟨rfl, hb2⟩))
    go_ret
    exact Ret.mk rfl (below_then (below_b1 hb1) hb2)
  · have e : ruB c l = false := ruB_false fun k => hg ⟨k.1, k.2.1⟩
    rw [e]
    rw [decide_eq_false hg] at HI
    clear e hg
    generalize l.length = N at *
    unfold cfv at *
    go_enter Tryd.func13, Tryd.ntmps13
    go_wp2_with (go_at_call 20; refine (HI.out _).mono ?_; rintro e w1 ⟨rfl, hb1⟩)
    go_ret
    exact Ret.mk rfl (below_b1 hb1)
end Go.Proofs.YtfkkeokmkhjpfaaDoor
