/- sort.Search over a method value: what it is bound to stands ahead of the number. Where a key stands in an index's rows, and whether it is there: the program's own search. Whether a config is an index's, whether rows may be an index's: the program's own answers. The program's own reading of an index: a value's word, what is got, a floor. The program's own scan: rows that an iterator hands over from a key on, gathered while they are wanted. The program's own put and delete: they turn rows of their caller's own. The program's own delete: what it takes out of rows of its caller's own. The program's own Do of an index: what is refused, what does not fit, and each kind of operation; its answer's rows lie apart from the rows. -/
import Derived.Test.YtnepdbfnbikplaaGreatDoorGRow
import Derived.Deep.LoopGhost
import Derived.Shelf.Abstract
import Derived.Test.YtnepdbfnbikplaaGreatDoorGOr
import Derived.Test.YtnepdbfnbikplaaGreatDoorGOld
import Derived.Test.YtnepdbfnbikplaaGreatDoorGMath
import Derived.RangeFuncNested
import Derived.RangeFuncBound
import Derived.RangeFuncCalls
import Derived.RangeFuncLeaves
import Derived.Shelf.RegionOpen
import Derived.OwnWalkIn
import Derived.TacticsInMore
import Derived.LoopNIn
import Derived.LoopIn
import Derived.Test.YtnepdbfnbikplaaGreatDoorGKit
import Derived.Deep.DeepCutAuto
import Derived.Deep.RegionHeld3
import Derived.Test.YtnepdbfnbikplaaGreatDoorGOp
import Derived.Test.YtnepdbfnbikplaaGreatDoorGOpen
namespace Go.Proofs.YtnepdbfnbikplaaGreatDoor
open Go.RowKit Go.Shelf Tb

/-- A method value that says of each number below n whether .., and only makes memory. -/
def SaysM (f : Nat) (bd : Array Value) (n : Nat) (pr : Nat → Bool) (w : World) : Prop := ∀ (i : Nat) (A : World), i < n → Below w.heap.size w A → Calls Tryz.prog f (bd ++ #[.int .i64 i]) A (Ret (.bool (pr i)) A)

set_option maxHeartbeats 1000000 in
/-- The first number that it says yes to, of numbers that rise. -/
theorem searchM_any (f : Nat) (b : Value) (n : Nat) (hn : n ≤ 1000000) (pr : Nat → Bool) (w : World) (ef : ∀ args w, (callFunc f args).run Tryz.prog w = .ok (.enter f args) w)
    (hm : ∀ i j, i ≤ j → j < n → pr i = true → pr j = true) (hf : SaysM f #[b] n pr w) :
    Calls Tryz.prog 85 #[.int .i64 n, .func (.func f) #[b] #[]] w fun e w' => ∃ k : Nat, e = .returned (.int .i64 k) ∧ k ≤ n ∧ (∀ j, j < k → pr j = false) ∧ (k < n → pr k = true) ∧ Below w.heap.size w w' := by
  have HF := Lib.hid hf
  have HM := Lib.hid hm
  clear hf hm
  go_enter Tryz.func85, Tryz.ntmps85
  go_wp2
  go_loopg [5, 6] n (fun g lv hv wr => ∃ lo hi : Nat, g = hi - lo ∧ lv = .int .i64 lo ∧ hv = .int .i64 hi ∧ lo ≤ hi ∧ hi ≤ n ∧ Hid ((∀ j, j < lo → pr j = false) ∧ (hi < n → pr hi = true)) ∧ Below w.heap.size w wr)
  case atStart => exact ⟨0, n, by omega, rfl, rfl, by omega, Nat.le_refl _, Lib.hid ⟨fun j hj => by omega, fun h => by omega⟩, Below.refl _ _⟩
  case round =>
    obtain ⟨lo, hi, rfl, rfl, rfl, h1, h2, hI, hbr⟩ := hrel
    by_cases hlt : lo < hi
    · have hc := HF.out ((lo + hi) / 2) wr (by omega) hbr
      have ei : (((lo + hi) / 2 : Nat) : Int) = ((lo : Int) + (hi : Int)) / 2 := by omega
      cases hp : pr ((lo + hi) / 2) with
      | false =>
        have HP := Lib.hid hp
        rw [hp] at hc
        rw [ei] at hc
        have HC := Lib.hid hc
        clear hp hc
        go_wp2_with fail
        refine HC.out.mono ?_
        rintro e w2 ⟨rfl, hb2⟩
        go_wp2
        go_roundg (hi - ((lo + hi) / 2 + 1))
        case measure => omega
        case rel =>
          refine ⟨(lo + hi) / 2 + 1, hi, rfl, by go_num, rfl, by omega, h2, Lib.hid ⟨fun j hj => ?_, hI.out.2⟩, below_then hbr hb2⟩
          cases e : pr j with
          | false => rfl
          | true => exact absurd (HM.out j ((lo + hi) / 2) (by omega) (by omega) e) (by rw [HP.out]; simp)
      | true =>
        have HP := Lib.hid hp
        rw [hp] at hc
        rw [ei] at hc
        have HC := Lib.hid hc
        clear hp hc
        go_wp2_with fail
        refine HC.out.mono ?_
        rintro e w2 ⟨rfl, hb2⟩
        go_wp2
        go_roundg ((lo + hi) / 2 - lo)
        case measure => omega
        case rel =>
          exact ⟨lo, (lo + hi) / 2, rfl, rfl, by go_num, by omega, by omega, Lib.hid ⟨hI.out.1, fun _ => HP.out⟩, below_then hbr hb2⟩
    · obtain rfl : hi = lo := by omega
      go_wp2
      go_ret
      exact ⟨hi, rfl, h2, hI.out.1, hI.out.2, hbr⟩

set_option maxHeartbeats 1000000 in
/-- A key is reached. -/
theorem reached_any (A : Option Addr) (l : List R) (c i : Nat) (_ : l.length ≤ 1000000) (hi : i < l.length) (k : Nat) (w : World) (h : IsR w A l) :
    Calls Tryz.prog 86 #[.agg #[.int .u64 k, .slice A l.length c], .int .i64 i] w (Ret (.bool (decide (k ≤ l[i].1))) w) := by
  obtain ⟨b, off, rfl, h1, h2⟩ := h.row hi
  obtain ⟨x, hx⟩ : ∃ x, l[i].1 = x := ⟨_, rfl⟩
  rw [hx] at h1 ⊢
  clear h2 hx h
  have hbs : b < w.heap.size := World.block_lt_of_cell? _ _ h1
  have i1 : (0 : Int) ≤ (i : Int) := by omega
  have i2 : (i : Int) < (l.length : Int) := by omega
  generalize l.length = N at *
  clear hi
  go_enter Tryz.func86, Tryz.ntmps86
  have mixed : Tryz.prog.follows Departure.mixedOrders = true := by kernel_rfl
  go_wp2
  go_region
  go_wp2
  go_ret
  refine Ret.mk (bool_eq ?_) (below_one _ _).drew
  rw [Bool.eq_iff_iff]

theorem pos_of_search {l : List R} {k i : Nat} (hi : i ≤ l.length) (h1 : ∀ j, j < i → (if h : j < l.length then decide (k ≤ l[j].1) else true) = false) (h2 : i < l.length → (if h : i < l.length then decide (k ≤ l[i].1) else true) = true) (hu : Up l) : pos l k = i := by
  refine pos_of hi (fun m hm hmi => ?_) (fun m hm hmi => ?_)
  · have := h1 m hmi
    rw [dif_pos hm] at this
    simpa using this
  · have h3 := h2 (by omega)
    rw [dif_pos (show i < l.length by omega)] at h3
    have h4 : k ≤ l[i].1 := by simpa using h3
    by_cases e : m = i
    · subst e; exact h4
    · have := up_lt hu (i := i) (j := m) (by omega) hm; omega

set_option maxHeartbeats 4000000 in
/-- The program's own search. -/
theorem oseek_any (A : Option Addr) (l : List R) (c : Nat) (hl : l.length ≤ 1000000) (hu : Up l) (k : Nat) (hk : k < 4294967296) (w : World) (h : IsR w A l) :
    Calls Tryz.prog 80 #[.slice A l.length c, .int .u32 k] w (Ret2 (.int .i64 (pos l k)) (.bool (Tb.get l k).isSome) w) := by
  have HS := Lib.hid (show ∀ W, IsR W A l → Calls Tryz.prog 85 #[.int .i64 l.length, .func (.func 86) #[.agg #[.int .u64 k, .slice A l.length c]] #[]] W (Ret (.int .i64 (pos l k)) W) from fun W hW => by
    refine (searchM_any 86 (.agg #[.int .u64 k, .slice A l.length c]) l.length hl (fun j => if h : j < l.length then decide (k ≤ l[j].1) else true) W (enters_of Tryz.func86 (by kernel_rfl) rfl) ?_ ?_).mono ?_
    · intro i j hij hj hp
      rw [dif_pos (show i < l.length by omega)] at hp
      rw [dif_pos hj]
      have h4 : k ≤ l[i].1 := by simpa using hp
      by_cases e : j = i
      · subst e; simpa using h4
      · have := up_lt hu (i := i) (j := j) (by omega) hj
        simp; omega
    · intro i A' hi hb
      have := reached_any A l c i hl hi k A' (hW.below hb)
      show Calls _ _ _ A' (Ret (.bool (if h : i < l.length then decide (k ≤ l[i].1) else true)) A')
      rw [dif_pos hi]
      exact this
    · rintro e w' ⟨i, rfl, h1, h2, h3, hb⟩
      exact ⟨by rw [pos_of_search h1 h2 h3 hu], hb⟩)
  have HA := Lib.hid h
  have HU := Lib.hid hu
  have hp := pos_get hu k
  have hpl := pos_le l k
  clear h hu
  obtain ⟨N, hN⟩ : ∃ N, l.length = N := ⟨_, rfl⟩
  have HN := Lib.hid hN
  have hkw : IntKind.u64.wrap (k : Int) = (k : Int) := by rw [IntKind.wrap_u64]; omega
  obtain ⟨p, hpp⟩ : ∃ p, pos l k = p := ⟨_, rfl⟩
  obtain ⟨s, hs⟩ : ∃ s, (Tb.get l k).isSome = s := ⟨_, rfl⟩
  rw [hpp] at HS hpl ⊢
  rw [hs]
  rw [hN] at HS hl hpl ⊢
  have HPP := Lib.hid (And.intro hpp hs)
  have mixed : Tryz.prog.follows Departure.mixedOrders = true := by kernel_rfl
  by_cases hpN : p < N
  · have hj : p < l.length := by rw [HN.out]; exact hpN
    have i1 : (0 : Int) ≤ (p : Int) := by omega
    have i2 : (p : Int) < (N : Int) := by omega
    have HQ := Lib.hid (show decide ((l[p]'hj).1 = k) = s from by
      rcases hp with ⟨g1, g2⟩ | ⟨hm, g1, g2⟩
      · rw [← hs, g1]
        simp only [hpp] at g2
        exact decide_eq_false (g2 hj)
      · rw [← hs, g2]
        simp only [hpp] at g1
        exact decide_eq_true g1)
    obtain ⟨b, off, rfl, x1, x2⟩ := HA.out.row hj
    obtain ⟨x, hx⟩ : ∃ x, (l[p]'hj).1 = x := ⟨_, rfl⟩
    rw [hx] at x1 HQ
    clear hp hpp hs hN hpl hx x2 hj
    have hbs : b < w.heap.size := World.block_lt_of_cell? _ _ x1
    go_enter Tryz.func80, Tryz.ntmps80
    go_wp2_with (go_at_call 85; refine (HS.out _ (HA.out.below (below_one _ _))).mono ?_; rintro e w2 ⟨rfl, hb2⟩; obtain ⟨hc2, hf2⟩ := bcell hb2)
    go_region
    go_wp2
    go_ret2
    refine Ret2.mk rfl (bool_eq ?_) (below_b1 hb2).drew
    rw [← HQ.out, Bool.eq_iff_iff]; simp; omega
  · have i2 : ¬ (p : Int) < (N : Int) := by omega
    have HQ := Lib.hid (show false = s from by
      rcases hp with ⟨g1, g2⟩ | ⟨hm, g1, g2⟩
      · rw [← hs, g1]; rfl
      · exact absurd hm (by rw [hpp, HN.out]; exact hpN))
    clear hp hpp hs hN hpl
    go_enter Tryz.func80, Tryz.ntmps80
    go_wp2_with (go_at_call 85; refine (HS.out _ (HA.out.below (below_one _ _))).mono ?_; rintro e w2 ⟨rfl, hb2⟩; obtain ⟨hc2, hf2⟩ := bcell hb2)
    go_region
    go_wp2
    go_ret2
    exact Ret2.mk rfl (bool_eq HQ.out) (below_b1 hb2).drew
end Go.Proofs.YtnepdbfnbikplaaGreatDoor

namespace Go.Proofs.YtnepdbfnbikplaaGreatDoor
open Go.RowKit Tb Pt Opn

set_option maxHeartbeats 1000000 in
theorem oisOf_any (c : Cf) (w : World) : Calls Tryz.prog 73 #[cfv c] w (Ret (.bool (decide (Ok c ∧ c.obj = 2))) w) := by
  have HC := Lib.hid (check_any c)
  have e : decide (Ok c ∧ c.obj = 2) = (okB c && decide (c.obj = 2)) := by unfold okB; rw [Bool.eq_iff_iff]; simp
  rw [e]
  clear e
  generalize okB c = k at *
  unfold cfv at *
  go_enter Tryz.func73, Tryz.ntmps73
  go_wp2_with (go_at_call 12; refine (HC.out _).mono ?_; rintro e w1 ⟨rfl, hb1⟩; obtain ⟨hc1, hf1⟩ := bcell hb1)
  all_goals go_ret
  all_goals refine Ret.mk (bool_eq ?_) (below_b1 hb1)
  · rename_i h
    cases k with
    | true => rw [Bool.eq_iff_iff]; simp
    | false => exact absurd h (by decide)
  · rename_i h
    cases k with
    | true => exact absurd rfl h
    | false => rfl

/-- How far rows are good: the first j, and the least key that may come next. -/
def GoodO (l : List R) (j a : Nat) : Prop := Up (l.take j) ∧ (∀ x ∈ l.take j, OrOk x ∧ x.1 < a) ∧ (a = 0 ∨ ∃ x ∈ l.take j, x.1 + 1 = a)
theorem goodO_zero (l : List R) : GoodO l 0 0 := ⟨List.Pairwise.nil, fun x hx => by simp at hx, .inl rfl⟩
theorem take_snoc' {l : List R} {j : Nat} (hj : j < l.length) : l.take (j + 1) = l.take j ++ [l[j]] := by rw [List.take_succ_eq_append_getElem hj]
theorem goodO_step {l : List R} {j a : Nat} (h : GoodO l j a) (hj : j < l.length) (h1 : a ≤ l[j].1) (h2 : l[j].1 ≤ 2147483647) (h3 : l[j].2 ≤ 2147483647) : GoodO l (j + 1) (l[j].1 + 1) := by
  obtain ⟨g1, g2, g3⟩ := h
  unfold GoodO
  rw [take_snoc' hj]
  refine ⟨?_, fun x hx => ?_, .inr ⟨l[j], List.mem_append_right _ (List.mem_singleton.2 rfl), rfl⟩⟩
  · unfold Up
    rw [List.pairwise_append]
    exact ⟨g1, List.pairwise_singleton _ _, fun x hx y hy => by rw [List.mem_singleton.1 hy]; exact Nat.lt_of_lt_of_le (g2 x hx).2 h1⟩
  · rcases List.mem_append.1 hx with hx | hx
    · exact ⟨(g2 x hx).1, by have := (g2 x hx).2; omega⟩
    · rw [List.mem_singleton.1 hx]; exact ⟨⟨h2, h3⟩, Nat.lt_succ_self _⟩
theorem goodO_not {l : List R} {j a : Nat} (h : GoodO l j a) (hj : j < l.length) (h1 : ¬ (a ≤ l[j].1 ∧ l[j].1 ≤ 2147483647 ∧ l[j].2 ≤ 2147483647)) : ¬ (Up l ∧ ∀ x ∈ l, OrOk x) := fun ⟨hu, hr⟩ => by
  obtain ⟨g1, g2, g3⟩ := h
  obtain ⟨r1, r2⟩ := hr _ (List.getElem_mem hj)
  refine h1 ⟨?_, r1, r2⟩
  rcases g3 with rfl | ⟨x, hx, rfl⟩
  · omega
  · obtain ⟨m, hm, rfl⟩ := List.getElem_of_mem hx
    rw [List.length_take] at hm
    rw [List.getElem_take]
    exact up_lt hu (by omega) hj
theorem goodO_all {l : List R} {a : Nat} (h : GoodO l l.length a) : Up l ∧ ∀ x ∈ l, OrOk x := by
  obtain ⟨g1, g2, _⟩ := h
  rw [List.take_length] at g1 g2
  exact ⟨g1, fun x hx => (g2 x hx).1⟩

set_option maxHeartbeats 4000000 in
set_option maxRecDepth 100000 in
theorem oare_any (c : Cf) (A : Option Addr) (l : List R) (d : Nat) (hl : l.length ≤ 1000000) (w : World) (h : IsR w A l) :
    Calls Tryz.prog 74 #[cfv c, .slice A l.length d] w (Ret (.bool (decide ((l.length : Int) ≤ c.cap ∧ Up l ∧ ∀ x ∈ l, OrOk x))) w) := by
  have HA := Lib.hid h
  clear h
  obtain ⟨N, hN⟩ : ∃ N, l.length = N := ⟨_, rfl⟩
  rw [hN] at hl ⊢
  have HN := Lib.hid hN
  clear hN
  unfold cfv
  by_cases hcap : (N : Int) ≤ c.cap
  · obtain ⟨u, hu⟩ : ∃ u, decide ((N : Int) ≤ c.cap ∧ Up l ∧ ∀ x ∈ l, OrOk x) = u := ⟨_, rfl⟩
    rw [hu]
    have HU := Lib.hid hu
    clear hu
    have hc2 : ¬ c.cap < (N : Int) := by omega
    go_enter Tryz.func74, Tryz.ntmps74
    go_wp2
    obtain ⟨W, hW⟩ : ∃ W, W = w.alloc (.cells #[.int .u8 c.obj, .int .i64 c.inst, .int .i64 c.thr, .int .u8 c.kind, .int .i64 c.str, .int .i64 c.bits, .int .i64 c.cap, .int .i64 c.node, .int .i64 c.bat, .int .i64 c.chunk, .int .u64 c.lim, .int .u64 c.most] 24) := ⟨_, rfl⟩
    have hb2 : Below w.heap.size w W := by rw [hW]; exact below_one _ _
    rw [← hW]
    have HA := Lib.hid (HA.out.below hb2)
    clear hW
    go_loopw [5, 15] (fun av iv wr => Below W.heap.size W wr ∧ ∃ a j : Nat, j ≤ N ∧ a ≤ 2147483648 ∧ av = .int .u64 a ∧ iv = .int .i64 j ∧ Hid (GoodO l j a)) (fun _ i _ => N - (intOf i).toNat)
    case atStart => exact ⟨Below.refl _ _, 0, 0, Nat.zero_le _, by omega, rfl, rfl, Lib.hid (goodO_zero l)⟩
    case round =>
      obtain ⟨hbr, a, j, hj, ha, rfl, rfl, HG⟩ := hrel
      have i1 : (0 : Int) ≤ (j : Int) := by omega
      by_cases hlt : j < N
      · have j1 : j < l.length := by rw [HN.out]; exact hlt
        have i2 : (j : Int) < (N : Int) := by omega
        obtain ⟨bk, off, rfl, h1, h2⟩ := HA.out.row j1
        replace h1 := (hbr.cell (World.block_lt_of_cell? _ _ h1)).trans h1
        replace h2 := (hbr.cell (World.block_lt_of_cell? _ _ h2)).trans h2
        have hs := goodO_step HG.out j1
        have hf := goodO_not HG.out j1
        obtain ⟨x, hx⟩ : ∃ x, (l[j]'j1).1 = x := ⟨_, rfl⟩
        obtain ⟨y, hy⟩ : ∃ y, (l[j]'j1).2 = y := ⟨_, rfl⟩
        rw [hx] at h1 hs hf
        rw [hy] at h2 hs hf
        have HS := Lib.hid hs
        have HF := Lib.hid hf
        clear hs hf hx hy
        by_cases hg : a ≤ x ∧ x ≤ 2147483647 ∧ y ≤ 2147483647
        · obtain ⟨g1, g2, g3⟩ := hg
          have k1 : ¬ (x : Int) < (a : Int) := by omega
          have k2 : ¬ (2147483647 : Int) < (x : Int) := by omega
          have k3 : ¬ (2147483647 : Int) < (y : Int) := by omega
          have k4 : IntKind.u64.wrap ((x : Int) + 1) = ((x + 1 : Nat) : Int) := by rw [IntKind.wrap_u64]; omega
          go_wp2
          go_roundw
          case rel => exact ⟨below_then hbr (below_one _ _), x + 1, j + 1, by omega, by omega, by first | rfl | exact congrArg (Value.int .u64) k4 | exact congrArg (Value.int .u64) (by omega), by go_num, Lib.hid (HS.out g1 g2 g3)⟩
          case measure => simp [intOf]; omega
        · have e : u = false := by rw [← HU.out]; exact decide_eq_false fun g => HF.out hg g.2
          subst e
          rcases (by omega : x < a ∨ (¬ x < a ∧ 2147483647 < x) ∨ (¬ x < a ∧ ¬ 2147483647 < x ∧ 2147483647 < y)) with k1 | ⟨k1, k2⟩ | ⟨k1, k2, k3⟩
          · have k1 : (x : Int) < (a : Int) := by omega
            go_wp2
            go_ret
            exact Ret.mk rfl (hb2.trans ((hbr.trans ((below_one _ _).mono hbr.size)).mono hb2.size))
          · have k1 : ¬ (x : Int) < (a : Int) := by omega
            have k2 : (2147483647 : Int) < (x : Int) := by omega
            go_wp2
            go_ret
            exact Ret.mk rfl (hb2.trans ((hbr.trans ((below_one _ _).mono hbr.size)).mono hb2.size))
          · have k1 : ¬ (x : Int) < (a : Int) := by omega
            have k2 : ¬ (2147483647 : Int) < (x : Int) := by omega
            have k3 : (2147483647 : Int) < (y : Int) := by omega
            go_wp2
            go_ret
            exact Ret.mk rfl (hb2.trans ((hbr.trans ((below_one _ _).mono hbr.size)).mono hb2.size))
      · obtain rfl : j = N := by omega
        have e : u = true := by
          rw [← HU.out]
          have := goodO_all (by rw [HN.out]; exact HG.out)
          exact decide_eq_true ⟨hcap, this⟩
        subst e
        go_wp2
        go_ret
        exact Ret.mk rfl (hb2.trans (hbr.mono hb2.size))
  · rw [decide_eq_false (fun g => hcap g.1)]
    have hc2 : c.cap < (N : Int) := by omega
    go_enter Tryz.func74, Tryz.ntmps74
    go_wp2
    go_ret
    exact Ret.mk rfl (below_one _ _)

end Go.Proofs.YtnepdbfnbikplaaGreatDoor

namespace Go.Proofs.YtnepdbfnbikplaaGreatDoor
open Go.RowKit Go.Lib Tb Pt Opn

set_option maxHeartbeats 400000 in
theorem oword_any (v : Nat) (hv : v ≤ 2147483647) (w : World) : Calls Tryz.prog 81 #[.int .u64 v] w (Ret (.int .u32 ((v + 1) % 4294967296 : Nat)) w) := by
  have e : IntKind.u32.wrap ((v : Int) + 1) = (((v + 1) % 4294967296 : Nat) : Int) := by rw [IntKind.wrap_u32]; omega
  have e2 : IntKind.u32.wrap (v : Int) = (v : Int) := by rw [IntKind.wrap_u32]; omega
  generalize (v + 1) % 4294967296 = z at *
  go_enter Tryz.func81, Tryz.ntmps81
  go_wp2
  go_ret
  exact Ret.mk rfl (Below.refl _ _)

/-- What a look at a key answers. -/
def getR (l : List R) (a : Nat) : Int × Int := match Tb.get l a with | some v => (0, ((v + 1) % 4294967296 : Nat)) | none => (6, 0)
theorem getR_read (l : List R) (a b : Nat) : readR l 6 a b = ((getR l a).1, (getR l a).2, []) := by
  unfold readR getR
  rw [if_pos rfl]
  cases Tb.get l a <;> rfl

set_option maxHeartbeats 4000000 in
set_option maxRecDepth 100000 in
theorem oget_any (A : Option Addr) (l : List R) (d : Nat) (o : O) (ho : Wf o) (hl : l.length ≤ 1000000) (hu : Up l) (hv : ∀ x ∈ l, x.2 ≤ 2147483647) (w : World) (h : IsR w A l) :
    Calls Tryz.prog 77 #[.slice A l.length d, opv o] w (Ret (resv (getR l o.a).1 (getR l o.a).2 none 0 0) w) := by
  have HAA := Lib.hid h
  have HSK := Lib.hid (fun W hA => oseek_any A l d hl hu o.a ho.2.1 W hA)
  have HV := Lib.hid hv
  have HU := Lib.hid hu
  obtain ⟨s, hs⟩ : ∃ s, getR l o.a = s := ⟨_, rfl⟩
  rw [hs]
  have HS := Lib.hid hs
  obtain ⟨N, hN⟩ : ∃ N, l.length = N := ⟨_, rfl⟩
  have HNL := Lib.hid hN
  rw [hN] at hl HSK ⊢
  clear hs hu hv h hN
  unfold opv resv
  obtain ⟨W, hW⟩ : ∃ W, W = (w.alloc (.cells #[.int .u8 (o.k : Nat), .int .u32 (o.a : Nat), .int .u32 (o.b : Nat), .int .u32 (o.c : Nat)] 28)).alloc (.cells #[.int .i64 0, .int .u32 0, .slice none 0 0] 36) := ⟨_, rfl⟩
  have hbW : Below w.heap.size w W := by rw [hW]; exact below_two _ _ _
  have hww : W.heap.size = w.heap.size + 2 := by rw [hW]; simp
  have HRES : W.heap[w.heap.size + 1]? = some (.cells #[.int .i64 0, .int .u32 0, .slice none 0 0] 36 (0, 0)) := by
    rw [hW]
    exact heap_alloc_new (w.alloc (.cells #[.int .u8 (o.k : Nat), .int .u32 (o.a : Nat), .int .u32 (o.b : Nat), .int .u32 (o.c : Nat)] 28)) _ |> fun h => by simpa using h
  have HAx := Lib.hid (HAA.out.below hbW)
  have HW := Lib.hid hW
  clear hW
  go_enter Tryz.func77, Tryz.ntmps77
  go_wp2_with fail
  rw [← HW.out]
  refine (HSK.out _ HAx.out).mono ?_
  rintro e w2 ⟨rfl, hb2⟩
  have HR2 := Lib.hid ((hb2.block _ (by omega)).trans HRES)
  obtain ⟨r0, f0, r1, f1, r2, f2⟩ := res_cells HR2.out
  have hb3 := hbW.trans (hb2.mono hbW.size)
  rcases hget : Tb.get l o.a with _ | u
  · have ES := Lib.hid (show s = (6, 0) by rw [← HS.out]; unfold getR; rw [hget])
    clear hget
    simp only [Option.isSome]
    go_wp2
    refine bodyPost_ret (v := .agg #[.int .i64 6, .int .u32 0, .slice none 0 0]) ?_ rfl ⟨by rw [ES.out], ?_⟩
    · simp [results, Tryz.results77, go_sem, r0, r1, r2]
    · exact below_set3 hb3 (by omega) _ _ _
  · have HGT := Lib.hid hget
    have HIT := Lib.hid (up_there HU.out HGT.out)
    obtain ⟨hpl, hlp⟩ := there_at HIT.out.1
    have hp : pos l o.a = (lo l o.a).length := rfl
    rw [hp]
    have hhop : u ≤ 2147483647 := HV.out (o.a, u) (by rw [← hlp]; exact List.getElem_mem hpl)
    obtain ⟨p, hpp⟩ : ∃ p, (lo l o.a).length = p := ⟨_, rfl⟩
    obtain ⟨bk, off, eA, x0, x1⟩ := HAx.out.row hpl
    rw [hlp] at x0 x1
    rw [hpp] at x0 x1 ⊢
    have hpN : p < N := by rw [← hpp, ← HNL.out]; exact hpl
    replace x1 := (hb2.cell (World.block_lt_of_cell? _ _ x1)).trans x1
    clear hp hpp hpl hlp x0
    subst eA
    have i1 : (0 : Int) ≤ (p : Int) := by omega
    have i2 : (p : Int) < (N : Int) := by omega
    have HTE := Lib.hid (oword_any u hhop)
    obtain ⟨y, hy⟩ : ∃ y, (u + 1) % 4294967296 = y := ⟨_, rfl⟩
    rw [hy] at HTE
    have es : s = (0, (y : Int)) := by rw [← HS.out, ← hy]; unfold getR; rw [HGT.out]
    have ES := Lib.hid es
    simp only [Option.isSome]
    clear es hy hget
    go_wp2_with (go_at_call 81; refine (HTE.out _).mono ?_; rintro e w3 ⟨rfl, hb3⟩; have HR3 := Lib.hid ((hb3.block (w.heap.size + 1) (by have := hb2.size; omega)).trans HR2.out); obtain ⟨q0, g0, q1, g1, q2, g2⟩ := res_cells HR3.out)
    refine bodyPost_ret (v := .agg #[.int .i64 0, .int .u32 y, .slice none 0 0]) ?_ rfl ⟨by rw [ES.out], ?_⟩
    · simp [results, Tryz.results77, go_sem, q0, q1, q2]
    · exact below_set3 (below_then (hbW.trans (hb2.mono hbW.size)) hb3) (by omega) _ _ _

theorem flo_at {l : List R} (hu : Up l) (a : Nat) : (pos l (a + 1) = 0 ∧ flo l a = []) ∨ ∃ p, ∃ h : p < l.length, pos l (a + 1) = p + 1 ∧ flo l a = [l[p]] := by
  have e : (l.filter fun x => decide (x.1 ≤ a)) = lo l (a + 1) := by
    unfold lo; congr 1; funext x; exact decide_eq_decide.2 (by omega)
  have e2 : lo l (a + 1) = l.take (pos l (a + 1)) := by
    have h := split_at (a + 1) hu
    have h2 := congrArg (List.take (lo l (a + 1)).length) h
    rw [List.append_assoc, List.take_left] at h2
    exact h2.symm
  unfold flo
  rw [e, e2]
  have hle := pos_le l (a + 1)
  cases hp : pos l (a + 1) with
  | zero => left; exact ⟨rfl, by simp⟩
  | succ p =>
    right
    rw [hp] at hle
    exact ⟨p, by omega, rfl, by rw [List.take_succ_eq_append_getElem (by omega), List.getLast?_concat]⟩

set_option maxHeartbeats 4000000 in
set_option maxRecDepth 100000 in
theorem ofloor_any (A : Option Addr) (l : List R) (d : Nat) (o : O) (ha : o.a ≤ 2147483647) (hl : l.length ≤ 1000000) (hu : Up l) (w : World) (h : IsR w A l) :
    Calls Tryz.prog 78 #[.slice A l.length d, opv o] w (ResR (if flo l o.a = [] then 6 else 0, 0, flo l o.a) w) := by
  have HAA := Lib.hid h
  have HSK := Lib.hid (fun W hA => oseek_any A l d hl hu (o.a + 1) (by omega) W hA)
  have hfl := flo_at hu o.a
  obtain ⟨s, hs⟩ : ∃ s : Int × Int × List R, (if flo l o.a = [] then 6 else 0, 0, flo l o.a) = s := ⟨_, rfl⟩
  rw [hs]
  have HS := Lib.hid hs
  have hw1 : IntKind.u32.wrap ((o.a : Int) + 1) = ((o.a + 1 : Nat) : Int) := by rw [IntKind.wrap_u32]; omega
  obtain ⟨N, hN⟩ : ∃ N, l.length = N := ⟨_, rfl⟩
  have HNL := Lib.hid hN
  rw [hN] at hl HSK ⊢
  clear hu h hN hs
  unfold opv
  obtain ⟨W, hW⟩ : ∃ W, W = (w.alloc (.cells #[.int .u8 (o.k : Nat), .int .u32 (o.a : Nat), .int .u32 (o.b : Nat), .int .u32 (o.c : Nat)] 28)).alloc (.cells #[.int .i64 0, .int .u32 0, .slice none 0 0] 36) := ⟨_, rfl⟩
  have hbW : Below w.heap.size w W := by rw [hW]; exact below_two _ _ _
  have hww : W.heap.size = w.heap.size + 2 := by rw [hW]; simp
  have HRES : W.heap[w.heap.size + 1]? = some (.cells #[.int .i64 0, .int .u32 0, .slice none 0 0] 36 (0, 0)) := by
    rw [hW]
    exact heap_alloc_new (w.alloc (.cells #[.int .u8 (o.k : Nat), .int .u32 (o.a : Nat), .int .u32 (o.b : Nat), .int .u32 (o.c : Nat)] 28)) _ |> fun h => by simpa using h
  have HAx := Lib.hid (HAA.out.below hbW)
  have HW := Lib.hid hW
  clear hW
  go_enter Tryz.func78, Tryz.ntmps78
  go_wp2_with fail
  rw [← HW.out]
  refine (HSK.out _ HAx.out).mono ?_
  rintro e w2 ⟨rfl, hb2⟩
  have HR2 := Lib.hid ((hb2.block _ (by omega)).trans HRES)
  obtain ⟨r0, f0, r1, f1, r2, f2⟩ := res_cells HR2.out
  have hb3 := hbW.trans (hb2.mono hbW.size)
  rcases hfl with ⟨hp, hf⟩ | ⟨p, hpl, hp, hf⟩
  · rw [hp]
    have ES := Lib.hid (show s = (6, 0, []) by rw [← HS.out, hf]; rfl)
    clear hp hf
    go_wp2
    refine bodyPost_ret (v := .agg #[.int .i64 6, .int .u32 0, .slice none 0 0]) ?_ rfl ⟨.slice none 0 0, by rw [ES.out], by rw [ES.out]; exact MadeX.nil _ _ _ _ _, ?_⟩
    · simp [results, Tryz.results78, go_sem, r0, r1, r2]
    · exact below_set3 hb3 (by omega) _ _ _
  · rw [hp]
    obtain ⟨bk, off, rfl, x0, x1⟩ := HAx.out.row hpl
    obtain ⟨q1, e1⟩ : ∃ q, l[p].1 = q := ⟨_, rfl⟩
    obtain ⟨q2, e2⟩ : ∃ q, l[p].2 = q := ⟨_, rfl⟩
    have hpN : p < N := by rw [← HNL.out]; exact hpl
    have E := Lib.hid (Prod.ext e1 e2 : l[p] = (q1, q2))
    rw [e1] at x0
    rw [e2] at x1
    have ES := Lib.hid (show s = (0, 0, [(q1, q2)]) by rw [← HS.out, hf, E.out]; rfl)
    replace x0 := (hb2.cell (World.block_lt_of_cell? _ _ x0)).trans x0
    replace x1 := (hb2.cell (World.block_lt_of_cell? _ _ x1)).trans x1
    clear hp hf e1 e2 E
    have i0 : ¬ ((p + 1 : Nat) : Int) = 0 := by omega
    have i1 : (0 : Int) ≤ (p : Int) := by omega
    have i2 : (p : Int) < (N : Int) := by omega
    have i3 : IntKind.i64.wrap (((p + 1 : Nat) : Int) - 1) = (p : Int) := by rw [IntKind.wrap_i64]; omega
    have hs2 := hb2.size
    have n1 : w.heap.size + 1 < w2.heap.size := by omega
    obtain ⟨z, hz⟩ : ∃ z : Int, ((p + 1 : Nat) : Int) = z := ⟨_, rfl⟩
    rw [hz] at i0 i3 ⊢
    clear hz
    have HM := Lib.hid (show ∀ x y z, MadeX ((((w2.setCell ⟨w.heap.size + 1, 0, none⟩ x).setCell ⟨w.heap.size + 1, 1, none⟩ y).setCell ⟨w.heap.size + 1, 2, none⟩ z).alloc (.cells #[.int .u64 q1, .int .u64 q2] 44)) w.heap.size 44 2 rowL (.slice (some ⟨w2.heap.size, 0, none⟩) 1 1) [(q1, q2)] from fun x y z => by
      have e0 : (((w2.setCell ⟨w.heap.size + 1, 0, none⟩ x).setCell ⟨w.heap.size + 1, 1, none⟩ y).setCell ⟨w.heap.size + 1, 2, none⟩ z).heap.size = w2.heap.size := by simp [World.setCell]
      have h := World.ownsRow_lit (((w2.setCell ⟨w.heap.size + 1, 0, none⟩ x).setCell ⟨w.heap.size + 1, 1, none⟩ y).setCell ⟨w.heap.size + 1, 2, none⟩ z) (e := 44) (base := w.heap.size) (size := 2) #[.int .u64 q1, .int .u64 q2] 1 (by rw [e0]; omega) (by unfold maxLen; omega) rfl
      rw [e0] at h
      exact h)
    go_wp2
    refine bodyPost_ret (v := .agg #[.int .i64 0, .int .u32 0, .slice (some ⟨w2.heap.size, 0, none⟩) 1 1]) ?_ rfl ⟨.slice (some ⟨w2.heap.size, 0, none⟩) 1 1, by rw [ES.out], ?_, ?_⟩
    · simp [results, Tryz.results78, go_sem, r0, r1, r2, n1]
    · rw [ES.out]; exact HM.out _ _ _
    · exact (below_set3 hb3 (g := w.heap.size + 1) (by omega) _ _ _).alloc (below_set3 hb3 (g := w.heap.size + 1) (by omega) _ _ _).size _
end Go.Proofs.YtnepdbfnbikplaaGreatDoor

namespace Go.Proofs.YtnepdbfnbikplaaGreatDoor
open Go.RowKit Go.Shelf Tb Pt Opn
attribute [local go_sem] Oper.semAt_some

set_option maxHeartbeats 400000 in
theorem rowsFrom_any (A : Option Addr) (N d k : Nat) (w : World) :
    Calls Tryz.prog 83 #[.slice A N d, .int .u32 k] w fun e w' => e = .returned (.func (.func 87) #[] #[.pointer (some ⟨w.heap.size, 0, none⟩), .pointer (some ⟨w.heap.size + 1, 0, none⟩)]) ∧
      w' = (w.alloc (.cells #[.slice A N d] 30)).alloc (.cells #[.int .u32 k] 26) := by
  go_enter Tryz.func83, Tryz.ntmps83
  go_wp2
  go_ret
  exact ⟨rfl, rfl⟩

set_option maxHeartbeats 400000 in
/-- The closure that says of a row whether its key is b at most. -/
theorem upto_any (x : R) (b q : Nat) (w : World) (h : w.cell? ⟨q, 0, none⟩ = some (.int .u64 b)) :
    Calls Tryz.prog 84 #[.agg #[.int .u64 x.1, .int .u64 x.2], .pointer (some ⟨q, 0, none⟩)] w (Ret (.bool (decide (x.1 ≤ b))) w) := by
  have hq : q < w.heap.size := World.block_lt_of_cell? _ _ h
  go_enter Tryz.func84, Tryz.ntmps84
  go_wp2
  go_ret
  refine Ret.mk (bool_eq ?_) (below_one _ _)
  rw [Bool.eq_iff_iff]

/-- A row as a value. -/
def rowV (x : R) : Value := .agg #[.int .u64 x.1, .int .u64 x.2]

set_option maxHeartbeats 2000000 in
theorem rows_iter (n : Nat) (hn : 3 ≤ n) (A : Option Addr) (l : List R) (d : Nat) (hd : l.length ≤ d ∧ d ≤ 9223372036854775807) (_ : A = none → l.length = 0 ∧ d = 0) (hl : l.length ≤ 1000000) (hu : Up l) (k : Nat) (hk : k < 4294967296) (b0 b1 : Nat) (cap : Nat → Prop) (w0 : World) (hc0 : cap b0) (hc1 : cap b1) (hcA : ∀ ad, A = some ad → cap ad.block)
    (h0 : w0.cell? ⟨b0, 0, none⟩ = some (.slice A l.length d)) (h1 : w0.cell? ⟨b1, 0, none⟩ = some (.int .u32 k)) (h2 : IsR w0 A l) :
    IterS n Tryz.prog 87 #[.pointer (some ⟨b0, 0, none⟩), .pointer (some ⟨b1, 0, none⟩)] cap w0 (l.drop (pos l k)).length (fun _ i args _ => ∃ h : i < (l.drop (pos l k)).length, args = #[rowV (l.drop (pos l k))[i]]) := by
  intro lp J Jx C W hcap hC hJ hJx hY hJ0
  refine callsIn_of_wp Tryz.func87 rfl trivial ?_ rfl
  simp only [Tryz.ntmps87, List.size_toArray, List.length_cons, List.length_nil, Nat.reduceAdd, Nat.reduceSub, Array.replicate_succ, Array.replicate_zero, List.push_toArray, List.append_toArray, List.nil_append, List.cons_append]
  have hfw : ∀ f, Fence.wide.fn f := fun _ => trivial
  have hn1 : 1 ≤ n := by omega
  have HY := Lib.hid hY
  have HJ := Lib.hid hJ
  have HC := Lib.hid hC
  have g0 : W.cell? ⟨b0, 0, none⟩ = some (.slice A l.length d) := (World.cell?_of_block (hcap b0 hc0).2).trans h0
  have g1 : W.cell? ⟨b1, 0, none⟩ = some (.int .u32 k) := (World.cell?_of_block (hcap b1 hc1).2).trans h1
  have KA : ∀ X : World, (∀ q, cap q → q < X.heap.size ∧ X.heap[q]? = w0.heap[q]?) → IsR X A l := fun X hX i x hx => by
    obtain ⟨b, off, e, hz⟩ := h2 i x hx
    exact ⟨b, off, e, fun j u hj => (World.cell?_of_block (hX b (hcA _ e)).2).trans (hz j u hj)⟩
  have HKA := Lib.hid KA
  have Hcap := Lib.hid hcap
  have HJ0 := Lib.hid hJ0
  have HSK := Lib.hid (fun W hA => oseek_any A l d hl hu k hk W hA)
  have hpl := pos_le l k
  obtain ⟨p, hp⟩ : ∃ p, pos l k = p := ⟨_, rfl⟩
  obtain ⟨N, hN⟩ : ∃ N, l.length = N := ⟨_, rfl⟩
  obtain ⟨M, hM⟩ : ∃ M, (l.drop p).length = M := ⟨_, rfl⟩
  have hMN : M = N - p := by rw [← hM, ← hN, List.length_drop]
  have hM6 : M ≤ 1000000 := by omega
  rw [hp] at hpl HSK HY ⊢
  rw [hN] at hpl HSK hl hd g0
  rw [hM]
  have HNN := Lib.hid hN
  have HMM := Lib.hid hM
  clear hY hJ hC hcap hJx h0 h1 hJ0 KA h2 hp hN hM
  gi_wp2_with fail
  refine (callsIn_wide.2 (HSK.out W (HKA.out W Hcap.out))).mono ?_
  rintro e A0 ⟨rfl, hb0⟩
  have g2 := (hb0.cell (World.block_lt_of_cell? _ _ g0)).trans g0
  have i1 : ¬ (p : Int) < 0 := by omega
  have i2 : ¬ (d : Int) < (p : Int) := by omega
  have i3 : (p : Int) ≤ (N : Int) := by omega
  have i4 : ¬ (N : Int) < (p : Int) := by omega
  have cap0 : Hid (∀ q, cap q → q < A0.heap.size ∧ A0.heap[q]? = w0.heap[q]?) := Lib.hid fun q hq => by
    have := Hcap.out q hq
    exact ⟨Nat.lt_of_lt_of_le this.1 hb0.size, (hb0.block q this.1).trans this.2⟩
  have j0 := Lib.hid (HJ.out _ _ _ HJ0.out hb0)
  clear hb0 Hcap HJ0 g0 g1
  by_cases hdp : d = p
  · have HK2 := Lib.hid (show ∀ X : World, (∀ q, cap q → q < X.heap.size ∧ X.heap[q]? = w0.heap[q]?) → IsR X A (l.drop p) from fun X _ => by
      rw [List.eq_nil_of_length_eq_zero (l := l.drop p) (by rw [HMM.out]; omega)]; exact IsL.nil _ _ _ _)
    gi_wp2
    rw [← hMN]
    have hM0 : M = 0 := by omega
    subst hM0
    clear HKA hdp i1 i2 i3 i4 hMN HK2
    gi_loopw [18] (fun i wr => i = .int .i64 0 ∧ Hid (J 0 wr)) (fun _ _ => 0)
    case atStart => exact ⟨rfl, j0⟩
    case round =>
      obtain ⟨rfl, HJk⟩ := hrel
      gi_wp2
      go_end0
      exact ⟨⟨_, rfl⟩, .inl HJk.out⟩
  · have HK2 := Lib.hid (show ∀ X : World, (∀ q, cap q → q < X.heap.size ∧ X.heap[q]? = w0.heap[q]?) → IsR X (A.map fun x => x.add (p * 2)) (l.drop p) from fun X hX => isr_drop (HKA.out X hX) p)
    gi_wp2
    rw [← hMN]
    generalize (d - p) = c2 at *
    generalize (A.map fun x => x.add (p * 2)) = A2 at *
    clear HKA hdp i1 i2 i3 i4 hMN
    gi_loopw [18] (fun i wr => ∃ j : Nat, j ≤ M ∧ i = .int .i64 j ∧ Hid (J j wr) ∧ Hid (∀ q, cap q → q < wr.heap.size ∧ wr.heap[q]? = w0.heap[q]?)) (fun i _ => M - (intOf i).toNat)
    case atStart => exact ⟨0, Nat.zero_le _, rfl, j0, cap0⟩
    case round =>
      obtain ⟨j, hj, rfl, HJk, hck⟩ := hrel
      have k1 : (0 : Int) ≤ (j : Int) := by omega
      by_cases hlt : j < M
      · have k2 : (j : Int) < (M : Int) := by omega
        have hj1 : j < (l.drop p).length := by rw [HMM.out]; exact hlt
        obtain ⟨bk, off, rfl, x0, x1⟩ := (HK2.out wr hck.out).row hj1
        have HY1 := Lib.hid (HY.out j)
        have HLT := Lib.hid hlt
        obtain ⟨q1, e1⟩ : ∃ q, (l.drop p)[j].1 = q := ⟨_, rfl⟩
        obtain ⟨q2, e2⟩ : ∃ q, (l.drop p)[j].2 = q := ⟨_, rfl⟩
        have E := Lib.hid (Prod.ext e1 e2 : (l.drop p)[j] = (q1, q2))
        rw [e1] at x0
        rw [e2] at x1
        clear e1 e2
        obtain ⟨W1, hW1⟩ : ∃ W1, W1 = wr.alloc (.cells #[.int .u64 q1, .int .u64 q2] 44) := ⟨_, rfl⟩
        have b1 : Below wr.heap.size wr W1 := by rw [hW1]; exact below_one _ _
        obtain ⟨fn, tmps, assign, body, hy, hR⟩ := HY1.out #[.agg #[.int .u64 q1, .int .u64 q2]] W1 (by rw [HMM.out]; exact hlt) (HJ.out _ _ _ HJk.out b1) ⟨hj1, by unfold rowV; rw [E.out]⟩
        have cap1 : Hid (∀ q, cap q → q < W1.heap.size ∧ W1.heap[q]? = w0.heap[q]?) := Lib.hid fun q hq => by
          have := hck.out q hq
          exact ⟨Nat.lt_of_lt_of_le this.1 b1.size, (b1.block q this.1).trans this.2⟩
        rw [hW1] at hy
        clear b1 HY1 E HJk hck
        gi_wp2
        rw [← hW1]
        refine hR.mono ?_
        rintro e A3 (⟨rfl, hJ3, ho3⟩ | ⟨rfl, hJx3⟩)
        · have cap3 : Hid (∀ q, cap q → q < A3.heap.size ∧ A3.heap[q]? = w0.heap[q]?) := Lib.hid fun q hq => by
            have h := cap1.out q hq
            exact ⟨Nat.lt_of_lt_of_le h.1 ho3.size, (ho3.block q h.1 (fun hc => HC.out q hc hq)).trans h.2⟩
          gi_wp2
          go_roundw
          case rel => exact ⟨j + 1, HLT.out, by go_num, Lib.hid hJ3, cap3⟩
          case measure => simp [intOf]; omega
        · gi_wp2
          refine bodyPost_ret (results_none rfl _ _ _) rfl ?_
          exact ⟨⟨_, rfl⟩, .inr ⟨j, HLT.out, hJx3⟩⟩
      · obtain rfl : j = M := by omega
        gi_wp2
        go_end0
        exact ⟨⟨_, rfl⟩, .inl HJk.out⟩

theorem madeX_only {w w' : World} {B : Nat} {v : Value} {l : List R} {C : Nat → Prop} (h : MadeX w B 44 2 rowL v l) (ho : Only C w w') (hC : ∀ k, C k → k < B) : MadeX w' B 44 2 rowL v l := by
  refine ⟨h.1, ?_⟩
  rcases h.2 with h | ⟨g, cap, cur, h1, h2, h3, h4⟩
  · exact .inl h
  · exact .inr ⟨g, cap, cur, h1, h2, (ho.block g (Array.getElem?_eq_some_iff.1 h3).1 (fun hc => by have := hC _ hc; omega)).trans h3, h4⟩

/-- The first i are wanted. -/
def AllTo (L : List R) (b i : Nat) : Prop := ∀ x ∈ L.take i, x.1 ≤ b
/-- How many rows are wanted: the first m, and not the next. -/
def Upto (L : List R) (b m : Nat) : Prop := m ≤ L.length ∧ (∀ x ∈ L.take m, x.1 ≤ b) ∧ ∀ h : m < L.length, ¬ L[m].1 ≤ b

set_option maxRecDepth 100000 in
set_option maxHeartbeats 2000000 in
theorem gather_any (A : Option Addr) (l : List R) (d : Nat) (hd : l.length ≤ d ∧ d ≤ 9223372036854775807) (hAn : A = none → l.length = 0 ∧ d = 0) (hl : l.length ≤ 1000000) (hu : Up l) (k b : Nat) (hk : k < 4294967296) (b0 b1 b2 : Nat) (w : World)
    (h0 : w.cell? ⟨b0, 0, none⟩ = some (.slice A l.length d)) (h1 : w.cell? ⟨b1, 0, none⟩ = some (.int .u32 k)) (h2 : IsR w A l) (h3 : w.cell? ⟨b2, 0, none⟩ = some (.int .u64 b)) (hA : ∀ ad, A = some ad → ad.block < w.heap.size) :
    Calls Tryz.prog 82 #[.func (.func 87) #[] #[.pointer (some ⟨b0, 0, none⟩), .pointer (some ⟨b1, 0, none⟩)], .func (.func 84) #[] #[.pointer (some ⟨b2, 0, none⟩)]] w
      fun e w' => ∃ v m, e = .returned v ∧ Upto (l.drop (pos l k)) b m ∧ MadeX w' w.heap.size 44 2 rowL v ((l.drop (pos l k)).take m) ∧ Below w.heap.size w w' := by
  obtain ⟨L, hL⟩ : ∃ L, L = l.drop (pos l k) := ⟨_, rfl⟩
  have hLn : L.length ≤ 1000000 := by rw [hL, List.length_drop]; omega
  rw [← hL]
  refine (callsIn_wide (n := 9)).1 ?_
  refine callsIn_of_wp_marks Tryz.func82 rfl trivial ?_ rfl
  simp only [Tryz.ntmps82, List.size_toArray, List.length_cons, List.length_nil, Nat.reduceAdd, Nat.reduceSub, Array.replicate_succ, Array.replicate_zero, List.push_toArray, List.append_toArray, List.nil_append, List.cons_append]
  have hfw : ∀ f, Fence.wide.fn f := fun _ => trivial
  have L0 := World.block_lt_of_cell? _ _ h0
  have L1 := World.block_lt_of_cell? _ _ h1
  have L2 := World.block_lt_of_cell? _ _ h3
  gi_wp2_with fail
  obtain ⟨r, hr⟩ : ∃ r, w.heap.size = r := ⟨_, rfl⟩
  obtain ⟨W, hW⟩ : ∃ W, W = (w.alloc (.cells #[.func (.func 84) #[] #[.pointer (some ⟨b2, 0, none⟩)]] 115)).alloc (.cells #[.slice none 0 0] 30) := ⟨_, rfl⟩
  rw [← hW]
  have hz : W.heap.size = r + 2 := by rw [hW, ← hr]; simp
  have hbW : Below r w W := by rw [hW, ← hr]; exact below_two _ _ _
  have c0 : W.cell? ⟨r, 0, none⟩ = some (.func (.func 84) #[] #[.pointer (some ⟨b2, 0, none⟩)]) := by rw [hW, ← hr]; simp [go_sem]
  have c1 : W.cell? ⟨r + 1, 0, none⟩ = some (.slice none 0 0) := by rw [hW, ← hr]; simp [go_sem]
  have z1 : W.frozen? ⟨r + 1, 0, none⟩ = false := by rw [hW, ← hr]; simp [go_sem]
  rw [hr] at L0 L1 L2 hA ⊢
  have g0 : W.cell? ⟨b0, 0, none⟩ = some (.slice A l.length d) := (hbW.cell L0).trans h0
  have g1 : W.cell? ⟨b1, 0, none⟩ = some (.int .u32 k) := (hbW.cell L1).trans h1
  have g2 : IsR W A l := h2.below (by rw [hr]; exact hbW)
  have H3 := Lib.hid h3
  have HR := Lib.hid hr
  have hrw : r ≤ w.heap.size := by omega
  have hit := rows_iter 8 (by omega) A l d hd hAn hl hu k hk b0 b1 (fun k => k = b0 ∨ k = b1 ∨ ∃ ad, A = some ad ∧ k = ad.block) W (.inl rfl) (.inr (.inl rfl)) (fun ad e => .inr (.inr ⟨ad, e, rfl⟩)) g0 g1 g2
  rw [← hL] at hit
  clear h0 h1 h2 h3 hW hr hL g0 g1 g2
  refine wpIn_rangeS (gf := 87) (lb := #[.pointer (some ⟨b0, 0, none⟩), .pointer (some ⟨b1, 0, none⟩)]) rfl (enters_of Tryz.func87 (by kernel_rfl) rfl)
    hit ?hcap ?hps (fun k => k = r + 1 ∨ r + 4 ≤ k) ?hC
    (fun i X => Hid (AllTo L b i) ∧ ∃ v, X.cell? ⟨r + 1, 0, none⟩ = some v ∧ X.frozen? ⟨r + 1, 0, none⟩ = false ∧ Hid (MadeX X (r + 4) 44 2 rowL v (L.take i)) ∧ Below r w X ∧ X.cell? ⟨r, 0, none⟩ = some (.func (.func 84) #[] #[.pointer (some ⟨b2, 0, none⟩)]))
    (fun c i X => c = .exit 0 ∧ Hid (Upto L b i) ∧ ∃ v, X.cell? ⟨r + 1, 0, none⟩ = some v ∧ X.frozen? ⟨r + 1, 0, none⟩ = false ∧ Hid (MadeX X (r + 4) 44 2 rowL v (L.take i)) ∧ Below r w X) ?hI ?hIx ?h0 ?round ?done ?stop
  case hcap =>
    rintro k (rfl | rfl | ⟨ad, e, rfl⟩)
    · exact ⟨by omega, rfl⟩
    · exact ⟨by omega, rfl⟩
    · exact ⟨by have := hA ad e; omega, rfl⟩
  case hps => rintro B i args X ⟨_, rfl⟩; rfl
  case hC =>
    intro k hk
    refine ⟨?_, by omega, by omega⟩
    rintro (rfl | rfl | ⟨ad, e, rfl⟩)
    · omega
    · omega
    · have := hA ad e; omega
  case hI =>
    rintro i X X' ⟨h1, v, h2, h3, h4, h5, h6⟩ ho
    refine ⟨h1, v, ho.cell h2 (by show ¬ (_ ∧ _); simp only; omega), (ho.frozen (World.block_lt_of_cell? _ _ h2) (by show ¬ (_ ∧ _); simp only; omega)).trans h3, Lib.hid (madeX_only h4.out ho (by rintro k ⟨_, hk⟩; omega)), Only.then_below (by omega) h5 ho (by omega), ho.cell h6 (by show ¬ (_ ∧ _); simp only; omega)⟩
  case hIx =>
    rintro c i X X' ⟨h0, h1, v, h2, h3, h4, h5⟩ ho
    refine ⟨h0, h1, v, ho.cell h2 (by show ¬ (_ ∧ _); simp only; omega), (ho.frozen (World.block_lt_of_cell? _ _ h2) (by show ¬ (_ ∧ _); simp only; omega)).trans h3, Lib.hid (madeX_only h4.out ho (by rintro k ⟨_, hk⟩; omega)), Only.then_below (by omega) h5 ho (by omega)⟩
  case h0 => exact ⟨Lib.hid (fun x hx => by simp at hx), _, c1, z1, Lib.hid (by rw [List.take_zero]; exact MadeX.nil _ _ _ _ _), hbW, c0⟩
  case round =>
    rintro lp i args X hi ⟨H1, v, hv, hz1, HM, hbX, hc⟩ ⟨hiL, rfl⟩ hlt
    obtain ⟨q1, e1⟩ : ∃ q, L[i].1 = q := ⟨_, rfl⟩
    obtain ⟨q2, e2⟩ : ∃ q, L[i].2 = q := ⟨_, rfl⟩
    have E := Lib.hid (Prod.ext e1 e2 : L[i] = (q1, q2))
    have hrow : rowV L[i] = .agg #[.int .u64 q1, .int .u64 q2] := by rw [E.out]; rfl
    rw [hrow]
    have hX := World.block_lt_of_cell? _ _ hv
    have HHI := Lib.hid hi
    clear c0 c1 z1 hit e1 e2 hrow
    gi_wp2
    refine ⟨(Only.refl _ X).alloc _, fun W₂ ho => ?_⟩
    have b1 : Below X.heap.size X (X.alloc (.cells #[.int .u64 q1, .int .u64 q2] 44)) := below_one _ _
    obtain ⟨X1, hX1⟩ : ∃ X1, X1 = X.alloc (.cells #[.int .u64 q1, .int .u64 q2] 44) := ⟨_, rfl⟩
    have y0 : X1.cell? ⟨X.heap.size, 0, none⟩ = some (.int .u64 q1) := by rw [hX1]; simp [go_sem]
    have y1 : X1.cell? ⟨X.heap.size, 1, none⟩ = some (.int .u64 q2) := by rw [hX1]; simp [go_sem]
    rw [← hX1] at ho b1
    clear hX1
    have HX0 := Lib.hid (show ∀ j u, X1.cell? ⟨X.heap.size, j, none⟩ = some u → W₂.cell? ⟨X.heap.size, j, none⟩ = some u from fun j u h => ho.cell h (by simp only; omega))
    have k0 := HX0.out _ _ y0
    have k1 := HX0.out _ _ y1
    have k2 : W₂.cell? ⟨r + 1, 0, none⟩ = some v := ho.cell ((b1.cell hX).trans hv) (by simp only; omega)
    have k3 : W₂.frozen? ⟨r + 1, 0, none⟩ = false := (ho.frozen (Nat.lt_of_lt_of_le hX b1.size) (by simp only; omega)).trans ((b1.frozen hX).trans hz1)
    have HM2 := Lib.hid (madeX_only (MadeX.below HM.out b1) ho (by rintro k rfl; omega))
    have hb2 : Below r w W₂ := Only.then_below (by omega) (hbX.trans (b1.mono (by omega))) ho (by omega)
    have k4 : W₂.cell? ⟨r, 0, none⟩ = some (.func (.func 84) #[] #[.pointer (some ⟨b2, 0, none⟩)]) := ho.cell ((b1.cell (World.block_lt_of_cell? _ _ hc)).trans hc) (by simp only; omega)
    have k5 : W₂.cell? ⟨b2, 0, none⟩ = some (.int .u64 b) := (hb2.cell L2).trans H3.out
    have hsk := upto_any (q1, q2) b b2 W₂ k5
    clear y0 y1 hv hz1 HM hbX hc HX0 ho b1 hX k5
    gi_wp2_with fail
    refine (CallsIn.inRound lp (callsIn_wide.2 hsk)).mono ?_
    rintro e W3 ⟨rfl, hb3⟩
    have HB3 := Lib.hid hb3
    obtain ⟨hc3, hf3⟩ := bcell hb3
    have hs3 := hb3.size
    have hXl : X.heap.size < W₂.heap.size := World.block_lt_of_cell? _ _ k0
    have hrl : r + 1 < W₂.heap.size := World.block_lt_of_cell? _ _ k2
    replace k0 := (hc3 _ _ hXl).trans k0
    replace k1 := (hc3 _ _ hXl).trans k1
    replace k2 := (hc3 _ _ hrl).trans k2
    replace k3 := (hf3 _ _ hrl).trans k3
    replace k4 := (hc3 _ _ (by omega)).trans k4
    have HM3 := Lib.hid (MadeX.below HM2.out hb3)
    have hbb3 : Below r w W3 := hb2.trans (hb3.mono (by omega))
    clear hc3 hf3 hb3 HM2
    by_cases hq : q1 ≤ b
    · rw [decide_eq_true hq]
      obtain ⟨i0, hi0, hz0, hz1, hz2⟩ := info_parts row_info
      have hlt3 := fun k hk => MadeX.lt HM3.out k hk
      have HLT := Lib.hid hlt3
      have hti : (L.take i).length ≤ 1000000 := by rw [List.length_take]; omega
      have hn3 : r + 1 < W3.heap.size := by omega
      clear hlt3
      gi_wp2_with (gi_at_builtin
                   refine wpListIn_append_own _ rfl _ _ 30 rfl (r + 4) 44 i0 (.agg #[.int .u64 0, .int .u64 0]) 2 16 Tryz.underlying30 hi0 hz0 hz1 hz2 rfl (by decide) _ (L.take i).length _ rfl (MadeX.alloc HM3.out _) ⟨W3.heap.size, 0, none⟩ 1 1 (rowL (q1, q2)) rfl rfl ?_ (row_one _) (by unfold maxLen; omega) (by omega) (by simp; omega) ?_
                   · exact fun j u h => by
                       have := rowBoxed W3 q1 q2 j u h
                       rw [addrAdd]; exact this
                   intro v' W4 hm4 hg4 _
                   have HG4 := Lib.hid hg4
                   have hm5 : MadeX W4 (r + 4) 44 2 rowL v' (L.take (i + 1)) := by
                     rw [List.take_succ_eq_append_getElem hiL, E.out]
                     unfold MadeX
                     rw [flatL_snoc, List.length_append]
                     exact hm4
                   have HM4 := Lib.hid hm5
                   obtain ⟨A4, c4, e4, _⟩ := MadeX.form rowL_len hm5
                   rw [show (L.take (i + 1)).length = i + 1 by rw [List.length_take]; omega] at e4
                   subst e4
                   have hn4 : r + 1 < W4.heap.size := by have := hg4.size; simp at this; omega
                   have k2' : W4.cell? ⟨r + 1, 0, none⟩ = some v := (World.cell?_of_block (hg4.block (r + 1) (by simp; omega) (fun e => by have := (HLT.out _ e.symm).1; omega))).trans ((World.cell?_alloc_lt _ _ _ (by simp; omega)).trans k2)
                   have k3' : W4.frozen? ⟨r + 1, 0, none⟩ = false := (World.frozen?_of_block (hg4.block (r + 1) (by simp; omega) (fun e => by have := (HLT.out _ e.symm).1; omega))).trans (((below_one W3 _).frozen hn3).trans k3)
                   have k4' : W4.cell? ⟨r, 0, none⟩ = some (.func (.func 84) #[] #[.pointer (some ⟨b2, 0, none⟩)]) := (World.cell?_of_block (hg4.block r (by simp; omega) (fun e => by have := (HLT.out _ e.symm).1; omega))).trans ((World.cell?_alloc_lt _ _ _ (by simp; omega)).trans k4)
                   clear hg4 hm4 hm5 k2 k3 k4)
      refine ⟨?_, Lib.hid fun x hx => ?_, .slice A4 (i + 1) c4, ?_, ?_, Lib.hid ?_, ?_, ?_⟩
      · have h1 : Only (fun k => k = r + 1 ∨ r + 4 ≤ k) W₂ W4 := ((Only.of_below _ HB3.out).alloc _).trans ⟨HG4.out.os, HG4.out.tape, HG4.out.output, HG4.out.size, fun k hk hc => HG4.out.block k hk (fun e => hc (.inr (HLT.out k e.symm).1))⟩
        exact h1.setCell (p := ⟨r + 1, 0, none⟩) (.inl (.inl rfl)) _
      · rw [List.take_succ_eq_append_getElem hiL, E.out] at hx
        rcases List.mem_append.1 hx with hx | hx
        · exact H1.out x hx
        · rw [List.mem_singleton.1 hx]; exact hq
      · exact World.cell?_setCell_same' _ _ _ (by rw [k2']; rfl)
      · simp [go_sem, k3']
      · exact madeX_only HM4.out ((Only.refl (fun k => k = r + 1) W4).setCell (p := ⟨r + 1, 0, none⟩) (.inl rfl) _) (by rintro k rfl; omega)
      · exact Below.setCell ((hbb3.alloc (by omega) _).grown HG4.out (by simp; omega) (fun k hk => by have := (HLT.out k hk).1; omega)) (by simp) _
      · rw [World.cell?_of_block (w := W4) (Below.heap_setCell _ ⟨r + 1, 0, none⟩ _ r (by simp))]; exact k4'
    · rw [decide_eq_false hq]
      gi_wp2
      refine ⟨Only.of_below _ HB3.out, rfl, Lib.hid ⟨by omega, H1.out, fun _ => by rw [E.out]; exact hq⟩, v, k2, k3, HM3, hbb3⟩
  case done =>
    rintro X ⟨H1, v, hv, hz1, HM, hbX, hc⟩ hK
    have HK := Lib.hid hK
    clear hK c0 c1 z1
    gi_wp2
    refine marks_ret (v := v) HK.out ?_ ⟨v, L.length, rfl, ⟨Nat.le_refl _, H1.out, fun h => absurd h (Nat.lt_irrefl _)⟩, ?_, ?_⟩
    · simp [results, Tryz.results82, go_sem]
    · rw [HR.out]; exact MadeX.down' (madeX_only HM.out (Only.putObj (C := fun k => k = W.heap.size) _ rfl _) (by rintro k rfl; omega)) (by omega)
    · rw [HR.out]; exact below_putObj hbX (by omega) _
  case stop =>
    rintro c i X hi ⟨rfl, H1, v, hv, hz1, HM, hbX⟩ hK
    have HK := Lib.hid hK
    clear hK c0 c1 z1
    gi_wp2
    refine marks_ret (v := v) HK.out ?_ ⟨v, i, rfl, H1.out, ?_, ?_⟩
    · simp [results, Tryz.results82, go_sem]
    · rw [HR.out]; exact MadeX.down' (madeX_only HM.out (Only.putObj (C := fun k => k = W.heap.size) _ rfl _) (by rintro k rfl; omega)) (by omega)
    · rw [HR.out]; exact below_putObj hbX (by omega) _

theorem drop_from {l : List R} (hu : Up l) (k : Nat) : ∀ x ∈ l.drop (pos l k), k ≤ x.1 := fun x hx => by
  have h2 := congrArg (List.drop (lo l k).length) (split_at k hu)
  rw [List.append_assoc, List.drop_left] at h2
  unfold pos at hx
  rw [h2] at hx
  rcases List.mem_append.1 hx with hx | hx
  · cases hg : Tb.get l k with
    | none => rw [hg] at hx; simp at hx
    | some v => rw [hg] at hx; rw [List.mem_singleton.1 hx]; exact Nat.le_refl _
  · unfold hi at hx
    have := (List.mem_filter.1 hx).2
    simp at this; omega
theorem take_to {l : List R} (hu : Up l) (k : Nat) : ∀ x ∈ l.take (pos l k), x.1 < k := fun x hx => by
  have h2 := congrArg (List.take (lo l k).length) (split_at k hu)
  rw [List.append_assoc, List.take_left] at h2
  unfold pos at hx
  rw [h2] at hx
  unfold lo at hx
  simpa using (List.mem_filter.1 hx).2
theorem scan_at {l : List R} (hu : Up l) {a b m : Nat} (h : Upto (l.drop (pos l a)) b m) : scan l a b = (l.drop (pos l a)).take m := by
  obtain ⟨_, h2, h3⟩ := h
  have e : l = l.take (pos l a) ++ ((l.drop (pos l a)).take m ++ (l.drop (pos l a)).drop m) := by rw [List.take_append_drop, List.take_append_drop]
  unfold scan
  conv => lhs; rw [e]
  have huL : Up (l.drop (pos l a)) := List.Pairwise.sublist (List.drop_sublist _ _) hu
  have hd := drop_from hu a
  rw [List.filter_append, List.filter_append, List.filter_eq_nil_iff.2, List.filter_eq_self.2, List.filter_eq_nil_iff.2, List.nil_append, List.append_nil]
  · intro x hx
    obtain ⟨j, hj, rfl⟩ := List.getElem_of_mem hx
    rw [List.length_drop] at hj
    rw [List.getElem_drop]
    have h4 := h3 (by omega)
    by_cases e0 : j = 0
    · subst e0; simp only [Nat.add_zero]; simp only [Bool.and_eq_true, decide_eq_true_eq]; omega
    · have := up_lt huL (i := m) (j := m + j) (by omega) (by omega)
      simp only [Bool.and_eq_true, decide_eq_true_eq]; omega
  · intro x hx
    have h4 := h2 x hx
    have h5 := hd x (List.mem_of_mem_take hx)
    simp only [Bool.and_eq_true, decide_eq_true_eq]; omega
  · intro x hx
    have h4 := take_to hu a x hx
    simp only [Bool.and_eq_true, decide_eq_true_eq]; omega

set_option maxHeartbeats 4000000 in
set_option maxRecDepth 100000 in
theorem oscan_any (A : Option Addr) (l : List R) (d : Nat) (hd : l.length ≤ d ∧ d ≤ 9223372036854775807) (hAn : A = none → l.length = 0 ∧ d = 0) (o : O) (ho : Wf o) (hl : l.length ≤ 1000000) (hu : Up l) (w : World) (h : IsR w A l) (hAd : ∀ ad, A = some ad → ad.block < w.heap.size) :
    Calls Tryz.prog 79 #[.slice A l.length d, opv o] w (ResR (0, 0, scan l o.a o.b) w) := by
  obtain ⟨s, hs⟩ : ∃ s, scan l o.a o.b = s := ⟨_, rfl⟩
  rw [hs]
  have HS := Lib.hid hs
  have HU := Lib.hid hu
  have HAA := Lib.hid h
  have hwb : IntKind.u64.wrap (o.b : Int) = (o.b : Int) := by have := ho.2.2.1; rw [IntKind.wrap_u64]; omega
  have HF := Lib.hid (fun W => rowsFrom_any A l.length d o.a W)
  have HG := Lib.hid (fun b0 b1 b2 W h0 h1 h2 h3 hA => gather_any A l d hd hAn hl hu o.a o.b ho.2.1 b0 b1 b2 W h0 h1 h2 h3 hA)
  obtain ⟨N, hN⟩ : ∃ N, l.length = N := ⟨_, rfl⟩
  rw [hN] at HF HG ⊢
  clear hs hu h hd hl hN
  unfold opv
  obtain ⟨W, hW⟩ : ∃ W, W = ((w.alloc (.cells #[.int .u8 (o.k : Nat), .int .u32 (o.a : Nat), .int .u32 (o.b : Nat), .int .u32 (o.c : Nat)] 28)).alloc (.cells #[.int .i64 0, .int .u32 0, .slice none 0 0] 36)).alloc (.cells #[.int .u64 (o.b : Nat)] 22) := ⟨_, rfl⟩
  have hbW : Below w.heap.size w W := by rw [hW]; exact below_three _ _ _ _
  have hww : W.heap.size = w.heap.size + 3 := by rw [hW]; simp
  have k1 : W.cell? ⟨w.heap.size, 1, none⟩ = some (.int .u32 (o.a : Nat)) := by rw [hW]; simp [go_sem]
  have k2 : W.cell? ⟨w.heap.size + 2, 0, none⟩ = some (.int .u64 (o.b : Nat)) := by rw [hW]; simp [go_sem]
  have HRES : W.heap[w.heap.size + 1]? = some (.cells #[.int .i64 0, .int .u32 0, .slice none 0 0] 36 (0, 0)) := by
    rw [hW]
    refine (Below.heap_alloc _ _ _ (by simp)).trans ?_
    exact heap_alloc_new (w.alloc (.cells #[.int .u8 (o.k : Nat), .int .u32 (o.a : Nat), .int .u32 (o.b : Nat), .int .u32 (o.c : Nat)] 28)) _ |> fun h => by simpa using h
  have HW := Lib.hid hW
  have HAx := Lib.hid (HAA.out.below hbW)
  clear hW
  go_enter Tryz.func79, Tryz.ntmps79
  go_wp2_with fail
  rw [← HW.out]
  refine (HF.out W).mono ?_
  rintro e w2 ⟨rfl, hw2⟩
  have hb2 : Below W.heap.size W w2 := by rw [hw2]; exact below_two _ _ _
  have hs2 : w2.heap.size = W.heap.size + 2 := by rw [hw2]; simp
  have g0 : w2.cell? ⟨W.heap.size, 0, none⟩ = some (.slice A N d) := by rw [hw2]; simp [go_sem]
  have g1 : w2.cell? ⟨W.heap.size + 1, 0, none⟩ = some (.int .u32 (o.a : Nat)) := by rw [hw2]; simp [go_sem]
  have g3 : w2.cell? ⟨w.heap.size + 1 + 1, 0, none⟩ = some (.int .u64 (o.b : Nat)) := (hb2.cell (World.block_lt_of_cell? _ _ k2)).trans k2
  have HG2 := Lib.hid (HG.out W.heap.size (W.heap.size + 1) (w.heap.size + 1 + 1) w2 g0 g1 (HAx.out.below hb2) g3 (fun ad e => by have := hAd ad e; omega))
  have HR2 := Lib.hid ((hb2.block _ (by omega)).trans HRES)
  clear hw2 g0 g1 g3 k1 k2 hAd HG HF
  have HWW := Lib.hid (And.intro hww hs2)
  clear hww hs2
  go_wp2_with fail
  refine HG2.out.mono ?_
  rintro e w3 ⟨v, m, rfl, hup, hm, hb3⟩
  obtain ⟨hww, hs2⟩ := HWW.out
  have HR3 := Lib.hid ((hb3.block (w.heap.size + 1) (by omega)).trans HR2.out)
  obtain ⟨r0, f0, r1, f1, r2, f2⟩ := res_cells HR3.out
  have es := scan_at HU.out hup
  rw [HS.out] at es
  rw [← es] at hm
  have HMM := Lib.hid (fun x y z => MadeX.down' (made_stored3 hm (g := w.heap.size + 1) (fun e => by have := (MadeX.lt hm _ e).1; omega) x y z) (show w.heap.size ≤ w2.heap.size by omega))
  obtain ⟨A3, c3, rfl, _⟩ := MadeX.form rowL_len hm
  have hb4 := hbW.trans ((hb2.trans (hb3.mono (by omega))).mono (show w.heap.size ≤ W.heap.size by omega))
  obtain ⟨M, hM⟩ : ∃ M, s.length = M := ⟨_, rfl⟩
  rw [hM] at HMM ⊢
  clear hup hm es hM hb2 hb3 hww hs2
  go_wp2
  refine bodyPost_ret (v := .agg #[.int .i64 0, .int .u32 0, .slice A3 M c3]) ?_ rfl ⟨_, rfl, HMM.out _ _ _, below_set3 hb4 (g := w.heap.size + 1) (by omega) _ _ _⟩
  simp [results, Tryz.results79, go_sem, r0, r1, r2]
end Go.Proofs.YtnepdbfnbikplaaGreatDoor

namespace Go.Proofs.YtnepdbfnbikplaaGreatDoor
open Go.RowKit Go.Lib Tb Pt Opn

/-- What a put does. -/
def putR (cap : Nat) (l : List R) (k v : Nat) : List R × Int × Int := match Tb.get l k with
  | some u => (put l k v, 0, (((u + 1) % 4294967296 : Nat) : Int))
  | none => if cap ≤ l.length then (l, 9, 0) else (put l k v, 0, 0)

set_option maxHeartbeats 4000000 in
set_option maxRecDepth 100000 in
theorem oput_any (c : Cf) (cap : Nat) (hcc : c.cap = cap) (o : O) (ho : Wf o) (w : World) (B : Nat) (hB : B ≤ w.heap.size) (v : Value) (l : List R) (hl : l.length ≤ 100000) (hlc : l.length ≤ cap) (hu : Up l) (hhop : ∀ x ∈ l, x.2 ≤ 2147483647) (hm : MadeX w B 44 2 rowL v l) :
    Calls Tryz.prog 75 #[cfv c, v, opv o] w (Own4 (putR cap l o.a o.b) B w v) := by
  obtain ⟨K, hK⟩ : ∃ K, o.a = K := ⟨_, rfl⟩
  obtain ⟨V, hV⟩ : ∃ V, o.b = V := ⟨_, rfl⟩
  have hK32 : K < 4294967296 := by rw [← hK]; exact ho.2.1
  have hV32 : V < 4294967296 := by rw [← hV]; exact ho.2.2.1
  have hKw : IntKind.u64.wrap (K : Int) = (K : Int) := by rw [IntKind.wrap_u64]; omega
  have hVw : IntKind.u64.wrap (V : Int) = (V : Int) := by rw [IntKind.wrap_u64]; omega
  have HM := Lib.hid hm
  obtain ⟨A, d, rfl, ⟨hd1, hd2⟩, hAn, hA⟩ := hm.form rowL_len
  unfold cfv opv
  rw [hK, hV, hcc]
  obtain ⟨s, hs⟩ : ∃ s, putR cap l K V = s := ⟨_, rfl⟩
  rw [hs]
  have HS := Lib.hid hs
  have HC := Lib.hid (And.intro hu hhop)
  have HAA := Lib.hid hA
  obtain ⟨N, hN⟩ : ∃ N, l.length = N := ⟨_, rfl⟩
  have HNL := Lib.hid hN
  have HSK := Lib.hid (fun W hA => oseek_any A l d (by omega) hu K hK32 W hA)
  rw [hN] at hl hlc hd1 HM HSK ⊢
  have hov : ∀ b, (Value.slice A N d).ownBlock = some b → b < w.heap.size := fun b hb => (MadeX.lt HM.out b (by rw [hN] at *; exact hb)).2
  have HOV := Lib.hid hov
  clear hs hu hhop hAn hA hm hN hov hV hcc hK
  go_enter Tryz.func75, Tryz.ntmps75
  go_wp2_with fail
  obtain ⟨W, hW⟩ : ∃ W, W = ((w.alloc (.cells #[.int .u8 c.obj, .int .i64 c.inst, .int .i64 c.thr, .int .u8 c.kind, .int .i64 c.str, .int .i64 c.bits, .int .i64 (cap : Nat), .int .i64 c.node, .int .i64 c.bat, .int .i64 c.chunk, .int .u64 c.lim, .int .u64 c.most] 24)).alloc (.cells #[.int .u8 (o.k : Nat), .int .u32 (K : Nat), .int .u32 (V : Nat), .int .u32 (o.c : Nat)] 28)).alloc (.cells #[.int .i64 0, .int .u32 0, .slice none 0 0] 36) := ⟨_, rfl⟩
  have hb2 : Below w.heap.size w W := by rw [hW]; exact below_three _ _ _ _
  rw [← hW]
  have hcap : W.cell? ⟨w.heap.size, 6, none⟩ = some (.int .i64 (cap : Nat)) := by rw [hW]; simp [go_sem]
  have a1 : W.cell? ⟨w.heap.size + 1, 1, none⟩ = some (.int .u32 (K : Nat)) := by rw [hW]; simp [go_sem]
  have a2 : W.cell? ⟨w.heap.size + 1, 2, none⟩ = some (.int .u32 (V : Nat)) := by rw [hW]; simp [go_sem]
  have HRES : W.heap[w.heap.size + 1 + 1]? = some (.cells #[.int .i64 0, .int .u32 0, .slice none 0 0] 36 (0, 0)) := by
    rw [hW]
    exact heap_alloc_new ((w.alloc (.cells #[.int .u8 c.obj, .int .i64 c.inst, .int .i64 c.thr, .int .u8 c.kind, .int .i64 c.str, .int .i64 c.bits, .int .i64 (cap : Nat), .int .i64 c.node, .int .i64 c.bat, .int .i64 c.chunk, .int .u64 c.lim, .int .u64 c.most] 24)).alloc (.cells #[.int .u8 (o.k : Nat), .int .u32 (K : Nat), .int .u32 (V : Nat), .int .u32 (o.c : Nat)] 28)) _ |> fun h => by simpa using h
  have hww : W.heap.size = w.heap.size + 3 := by rw [hW]; simp
  obtain ⟨q, hq⟩ : ∃ q, w.heap.size = q := ⟨_, rfl⟩
  have HB2 := Lib.hid hb2
  have HQ := Lib.hid hq
  rw [hq] at a1 a2 hcap hww HRES ⊢
  have hAx := Lib.hid (HAA.out.below hb2)
  have hMx := Lib.hid (MadeX.below HM.out hb2)
  clear hW hb2 hq
  refine (HSK.out W hAx.out).mono ?_
  rintro e w2 ⟨rfl, hb2⟩
  have HR2 := Lib.hid ((hb2.block _ (by omega)).trans HRES)
  have HB3 := Lib.hid (HB2.out.trans (hb2.mono HB2.out.size))
  replace a1 := (hb2.cell (World.block_lt_of_cell? _ _ a1)).trans a1
  replace a2 := (hb2.cell (World.block_lt_of_cell? _ _ a2)).trans a2
  replace hcap := (hb2.cell (World.block_lt_of_cell? _ _ hcap)).trans hcap
  have hs2 : q + 3 ≤ w2.heap.size := by have := hb2.size; omega
  have hM2 := Lib.hid (MadeX.below hMx.out hb2)
  have hA2 := Lib.hid (hAx.out.below hb2)
  clear hb2 HSK hww hAx hMx HRES
  rcases hget : Tb.get l K with _ | u
  · have HGT := Lib.hid hget
    clear hget
    simp only [Option.isSome]
    obtain ⟨p, hp⟩ : ∃ p, pos l K = p := ⟨_, rfl⟩
    rw [hp]
    have HPP := Lib.hid (show (lo l K).length = p from hp)
    clear hp
    by_cases hfull : cap ≤ N
    · have hcn : (N : Int) = (cap : Int) := by omega
      obtain ⟨r0, f0, r1, f1, r2, f2⟩ := res_cells HR2.out
      go_wp2
      have es : s = (l, 9, 0) := by rw [← HS.out]; unfold putR; rw [HGT.out, if_pos (by rw [HNL.out]; exact hfull)]
      refine bodyPost_ret (v := .tuple #[.slice A N d, .agg #[.int .i64 9, .int .u32 0, .slice none 0 0]]) ?_ rfl ⟨.slice A N d, ?_, ?_, ?_⟩
      · simp [results, Tryz.results75, go_sem, r0, r1, r2]
      · rw [es]; rfl
      · rw [es]; exact made_stored3 hM2.out (made_ne hM2.out HR2.out (by decide)) _ _ _
      · have hq := HQ.out
        exact grown_set (grown_set (grown_set (grown_below HB3.out _) (by omega) _ _) (by omega) _ _) (by omega) _ _
    · have hcn : ¬ (N : Int) = (cap : Int) := by omega
      have HEL := Lib.hid (up_miss HC.out.1 HGT.out)
      go_wp2_with (go_at_call 53
                   have hins := insert_any _ B (by have := HQ.out; simp; omega) _ (lo l K) (hi l K) (K, V) (by rw [← HEL.out, HNL.out]; omega) (by rw [← HEL.out]; exact hM2.out.alloc (.cells #[.int .u64 (K : Nat), .int .u64 (V : Nat)] 44)) w2.heap.size (fun e => by have := HOV.out _ e; have := HQ.out; omega) (heap_alloc_new _ _)
                   rw [HPP.out] at hins
                   refine hins.mono ?_
                   rintro e w4 ⟨u, rfl, hM4, hg4⟩
                   have HR4 := Lib.hid ((hg4.block (q + 1 + 1) (by simp; omega) (fun e => by have := HOV.out _ e.symm; have := HQ.out; omega)).trans ((heap_alloc_old w2 _ (by omega)).trans HR2.out))
                   obtain ⟨r0, f0, r1, f1, r2, f2⟩ := res_cells HR4.out
                   have HM4 := Lib.hid hM4
                   clear hM4)
      have es : s = (put l K V, 0, 0) := by rw [← HS.out]; unfold putR; rw [HGT.out, if_neg (by rw [HNL.out]; exact hfull)]
      have hb3 := (grown_trans (grown_below (HB3.out.trans ((below_one w2 _).mono HB3.out.size)) _) hg4)
      refine bodyPost_ret (v := .tuple #[u, .agg #[.int .i64 0, .int .u32 0, .slice none 0 0]]) ?_ rfl ⟨u, ?_, ?_, ?_⟩
      · simp [results, Tryz.results75, go_sem, r0, r1, r2]
      · rw [es]; rfl
      · rw [es]; exact made_stored3 HM4.out (made_ne HM4.out HR4.out (by decide)) _ _ _
      · have hq := HQ.out
        exact grown_set (grown_set (grown_set hb3 (by omega) _ _) (by omega) _ _) (by omega) _ _
  · have HGT := Lib.hid hget
    clear hget
    simp only [Option.isSome]
    have HIT := Lib.hid (up_there HC.out.1 HGT.out)
    obtain ⟨hpl, hlp⟩ := there_at HIT.out.1
    have hp : pos l K = (lo l K).length := rfl
    rw [hp]
    have hhop : u ≤ 2147483647 := HC.out.2 (K, u) (by rw [← hlp]; exact List.getElem_mem hpl)
    obtain ⟨p, hpp⟩ : ∃ p, (lo l K).length = p := ⟨_, rfl⟩
    obtain ⟨bk, off, eA, x0, x1⟩ := hA2.out.row hpl
    rw [hlp] at x0 x1
    rw [hpp] at x0 x1 ⊢
    have hpN : p < N := by rw [← hpp, ← HNL.out]; exact hpl
    have HPP := Lib.hid hpp
    obtain ⟨gA, rfl, hgA, hgB⟩ : ∃ gA, A = some ⟨gA, 0, none⟩ ∧ (∀ o, w2.frozen? ⟨gA, o, none⟩ = false) ∧ gA < q := by
      rcases (show _ from hM2.out).2 with ⟨h, _⟩ | ⟨g', cap', cur', h, _, h3, _⟩
      · injection h with h; rw [eA] at h; cases h
      · injection h with h
        exact ⟨g', h, (alloc_shape h3).2, by rw [← HQ.out]; exact HOV.out g' (by rw [h]; rfl)⟩
    injection eA with eA
    injection eA with e1 e2 _
    subst e1 e2
    clear hp hpp hpl hlp
    have i1 : (0 : Int) ≤ (p : Int) := by omega
    have i2 : (p : Int) < (N : Int) := by omega
    have HTE := Lib.hid (oword_any u hhop)
    obtain ⟨y, hy⟩ : ∃ y, (u + 1) % 4294967296 = y := ⟨_, rfl⟩
    rw [hy] at HTE
    have es : s = (put l K V, 0, (y : Int)) := by rw [← HS.out, ← hy]; unfold putR; rw [HGT.out]
    have ES := Lib.hid es
    clear es hy
    rw [Nat.zero_add] at x0 x1
    have fz1 := hgA (p * 2 + 1)
    have hgq : gA < w2.heap.size := by omega
    have hq2 : q + 1 + 1 < w2.heap.size := by omega
    go_wp2_with (go_at_call 81; refine (HTE.out _).mono ?_; rintro e w3 ⟨rfl, hb3⟩; have HR3 := Lib.hid ((hb3.block (q + 1 + 1) (by simp [World.setCell]; omega)).trans ((Below.heap_setCell _ ⟨gA, _, none⟩ _ _ (by simp; omega)).trans HR2.out)); obtain ⟨r0, f0, r1, f1, r2, f2⟩ := res_cells HR3.out)
    have hb4 := grown_below HB3.out (some gA)
    have hm2 : MadeX w2 B 44 2 rowL (.slice (some ⟨gA, 0, none⟩) N d) (lo l K ++ (K, u) :: hi l K) := by rw [← HIT.out.1]; exact hM2.out
    have hmt := made_turned1 (v := V) (by rw [← HIT.out.1]; exact HNL.out) hm2
    rw [HPP.out] at hmt
    have hm3 := MadeX.below hmt hb3
    refine bodyPost_ret (v := .tuple #[.slice (some ⟨gA, 0, none⟩) N d, .agg #[.int .i64 0, .int .u32 y, .slice none 0 0]]) ?_ rfl ⟨.slice (some ⟨gA, 0, none⟩) N d, ?_, ?_, ?_⟩
    · simp [results, Tryz.results75, go_sem, r0, r1, r2]
    · rw [ES.out]; rfl
    · rw [ES.out]; exact made_stored3 hm3 (made_ne hm3 HR3.out (by decide)) _ _ _
    · have hq := HQ.out
      refine grown_set (grown_set (grown_set ?_ (by omega) _ _) (by omega) _ _) (by omega) _ _
      have h5 : w2.grownBy (w2.setCell ⟨gA, p * 2 + 1, none⟩ (.int .u64 (V : Nat))) (some gA) := ⟨rfl, rfl, rfl, by simp [World.setCell], fun i hi hne => Below.heap_setCell _ ⟨gA, _, none⟩ _ i (fun e => hne (by rw [e]))⟩
      exact grown_trans (grown_trans hb4 h5) (grown_below hb3 _)
end Go.Proofs.YtnepdbfnbikplaaGreatDoor

namespace Go.Proofs.YtnepdbfnbikplaaGreatDoor
open Go.RowKit Go.Lib Tb Pt Opn

/-- What a delete does. -/
def takeR (l : List R) (k : Nat) : List R × Int × Int := match Tb.get l k with
  | some u => (cut l k, 0, (((u + 1) % 4294967296 : Nat) : Int))
  | none => (l, 6, 0)

set_option maxHeartbeats 4000000 in
set_option maxRecDepth 100000 in
theorem otake_any (o : O) (ho : Wf o) (w : World) (B : Nat) (v : Value) (l : List R) (hl : l.length ≤ 100000) (hu : Up l) (hhop : ∀ x ∈ l, x.2 ≤ 2147483647) (hm : MadeX w B 44 2 rowL v l) :
    Calls Tryz.prog 76 #[v, opv o] w (Own4 (takeR l o.a) B w v) := by
  have HM := Lib.hid hm
  obtain ⟨A, d, rfl, ⟨hd1, hd2⟩, hAn, hA⟩ := hm.form rowL_len
  have HGE := Lib.hid (fun W hA => oget_any A l d o ho (by omega) hu hhop W hA)
  obtain ⟨K, hK⟩ : ∃ K, o.a = K := ⟨_, rfl⟩
  have hK32 : K < 4294967296 := by rw [← hK]; exact ho.2.1
  unfold opv at HGE ⊢
  rw [hK] at HGE ⊢
  obtain ⟨s, hs⟩ : ∃ s, takeR l K = s := ⟨_, rfl⟩
  rw [hs]
  have HS := Lib.hid hs
  have HC := Lib.hid (And.intro hu hhop)
  have HAA := Lib.hid hA
  obtain ⟨N, hN⟩ : ∃ N, l.length = N := ⟨_, rfl⟩
  have HNL := Lib.hid hN
  have HSK := Lib.hid (fun W hA => oseek_any A l d (by omega) hu K hK32 W hA)
  rw [hN] at hl hd1 HM HSK HGE ⊢
  have hov : ∀ b, (Value.slice A N d).ownBlock = some b → b < w.heap.size := fun b hb => (MadeX.lt HM.out b (by rw [hN] at *; exact hb)).2
  have HOV := Lib.hid hov
  clear hs hu hhop hAn hA hm hN hov hK
  obtain ⟨W, hW⟩ : ∃ W, W = (w.alloc (.cells #[.int .u8 (o.k : Nat), .int .u32 (K : Nat), .int .u32 (o.b : Nat), .int .u32 (o.c : Nat)] 28)).alloc (.cells #[.int .i64 0, .int .u32 0, .slice none 0 0] 36) := ⟨_, rfl⟩
  have HRES : W.heap[w.heap.size + 1]? = some (.cells #[.int .i64 0, .int .u32 0, .slice none 0 0] 36 (0, 0)) := by
    rw [hW]
    exact heap_alloc_new (w.alloc (.cells #[.int .u8 (o.k : Nat), .int .u32 (K : Nat), .int .u32 (o.b : Nat), .int .u32 (o.c : Nat)] 28)) _ |> fun h => by simpa using h
  have hbW : Below w.heap.size w W := by rw [hW]; exact below_two _ _ _
  have hww : W.heap.size = w.heap.size + 2 := by rw [hW]; simp
  have a1 : W.cell? ⟨w.heap.size, 1, none⟩ = some (.int .u32 (K : Nat)) := by rw [hW]; simp [go_sem]
  have HW := Lib.hid hW
  have mixed : Tryz.prog.follows Departure.mixedOrders = true := by kernel_rfl
  go_enter Tryz.func76, Tryz.ntmps76
  go_wp2_with fail
  rw [← HW.out]
  obtain ⟨q, hq⟩ : ∃ q, w.heap.size = q := ⟨_, rfl⟩
  have HQ := Lib.hid hq
  rw [hq] at HRES hww a1 ⊢
  obtain ⟨x, hx⟩ : ∃ x, (getR l K).1 = x := ⟨_, rfl⟩
  obtain ⟨y, hy⟩ : ∃ y, (getR l K).2 = y := ⟨_, rfl⟩
  rw [hx, hy] at HGE
  have HXY := Lib.hid (And.intro hx hy)
  unfold resv at HGE
  have hAx := Lib.hid (HAA.out.below hbW)
  have hMx := Lib.hid (MadeX.below HM.out hbW)
  have HBW := Lib.hid hbW
  clear hW hq hx hy hbW
  refine (HGE.out W hAx.out).mono ?_
  rintro e w2 ⟨rfl, hb2⟩
  have hs2 : q + 2 ≤ w2.heap.size := by have := hb2.size; omega
  obtain ⟨W3, hW3⟩ : ∃ W3, W3 = w2.alloc (.cells #[.int .i64 x, .int .u32 y, .slice none 0 0] 36) := ⟨_, rfl⟩
  obtain ⟨g6, hg6⟩ : ∃ g, w2.heap.size = g := ⟨_, rfl⟩
  have hs3 : W3.heap.size = g6 + 1 := by rw [hW3, ← hg6]; simp
  have hb3 : Below w2.heap.size w2 W3 := by rw [hW3]; exact below_one _ _
  have HR3 := Lib.hid ((hb3.block (q + 1) (by omega)).trans ((hb2.block _ (by omega)).trans HRES))
  have HX3 := Lib.hid (show W3.heap[g6]? = some (.cells #[.int .i64 x, .int .u32 y, .slice none 0 0] 36 (0, 0)) by rw [hW3, ← hg6]; exact heap_alloc_new w2 _)
  have HB3 := Lib.hid (HBW.out.trans ((hb2.trans (hb3.mono hb2.size)).mono HBW.out.size))
  have hM3 := Lib.hid (MadeX.below (MadeX.below hMx.out hb2) hb3)
  have hA3 := Lib.hid ((hAx.out.below hb2).below hb3)
  have a3 : W3.cell? ⟨q, 1, none⟩ = some (.int .u32 (K : Nat)) := (hb3.cell (by show q < _; omega)).trans ((hb2.cell (World.block_lt_of_cell? _ _ a1)).trans a1)
  have n1 : q + 1 < g6 := by omega
  have a2 : w2.cell? ⟨q, 1, none⟩ = some (.int .u32 (K : Nat)) := (hb2.cell (World.block_lt_of_cell? _ _ a1)).trans a1
  have n2 : q < w2.heap.size := by omega
  have HG6 := Lib.hid hg6
  obtain ⟨x0, z0, x1, z1, x2, z2⟩ := res_cells HX3.out
  obtain ⟨r0, f0, r1, f1, r2, f2⟩ := res_cells HR3.out
  rcases hget : Tb.get l K with _ | u
  · have hx : x = 6 := by rw [← HXY.out.1]; unfold getR; rw [hget]
    have hy : y = 0 := by rw [← HXY.out.2]; unfold getR; rw [hget]
    have ES := Lib.hid (show s = (l, 6, 0) by rw [← HS.out]; unfold takeR; rw [hget])
    subst hx hy
    have HS3 := Lib.hid hs3
    clear hget hb2 hb3 a1 hww hs2 hs3
    go_wp2_with fail
    try rw [hg6]
    rw [← hW3]
    clear hW3 hg6
    go_region
    go_wp2
    have hq := HQ.out
    have hB := HB3.out.drew
    refine bodyPost_ret (v := .tuple #[.slice A N d, .agg #[.int .i64 6, .int .u32 0, .slice none 0 0]]) ?_ rfl ⟨.slice A N d, ?_, ?_, ?_⟩
    · simp [results, Tryz.results76, go_sem, r0, r1, r2]
    · rw [ES.out]; rfl
    · rw [ES.out]; exact made_stored3 (MadeX.below hM3.out (below_drew _)) (made_ne hM3.out HR3.out (by decide)) _ _ _
    · exact grown_set (grown_set (grown_set (grown_below hB _) (by omega) _ _) (by omega) _ _) (by omega) _ _
  · have hx : x = 0 := by rw [← HXY.out.1]; unfold getR; rw [hget]
    have hy : y = (((u + 1) % 4294967296 : Nat) : Int) := by rw [← HXY.out.2]; unfold getR; rw [hget]
    have ES := Lib.hid (show s = (cut l K, 0, (((u + 1) % 4294967296 : Nat) : Int)) by rw [← HS.out]; unfold takeR; rw [hget])
    have HGT := Lib.hid hget
    obtain ⟨t, ht⟩ : ∃ t : Nat, (u + 1) % 4294967296 = t := ⟨_, rfl⟩
    rw [ht] at hy ES
    subst hx hy
    have HIT := Lib.hid (up_there HC.out.1 HGT.out)
    obtain ⟨hpl, hlp⟩ := there_at HIT.out.1
    have hp : pos l K = (lo l K).length := rfl
    rw [hp] at HSK
    obtain ⟨p, hpp⟩ : ∃ p, (lo l K).length = p := ⟨_, rfl⟩
    rw [hpp] at HSK
    have hpN : p < N := by rw [← hpp, ← HNL.out]; exact hpl
    have HPP := Lib.hid hpp
    obtain ⟨bk, off, eA, y1, y2⟩ := hA3.out.row hpl
    obtain ⟨gA, rfl, hgB⟩ : ∃ gA, A = some ⟨gA, 0, none⟩ ∧ gA < q := by
      rcases (show _ from hM3.out).2 with ⟨h, _⟩ | ⟨g', cap', cur', h, _, h3, _⟩
      · injection h with h; rw [eA] at h; cases h
      · injection h with h
        exact ⟨g', h, by rw [← HQ.out]; exact HOV.out g' (by rw [h]; rfl)⟩
    have HD := Lib.hid (show ∀ X, MadeX X B 44 2 rowL (.slice (some ⟨gA, 0, none⟩) N d) l → Calls Tryz.prog 54 #[.slice (some ⟨gA, 0, none⟩) N d, .int .i64 p, .int .i64 ((p : Int) + 1)] X (RetI (cut l K) B X (.slice (some ⟨gA, 0, none⟩) N d)) from fun X hX => by
      have h := delete_any X B (.slice (some ⟨gA, 0, none⟩) N d) (lo l K) (hi l K) (K, u) (by rw [← HIT.out.1, HNL.out]; omega) (by rw [← HIT.out.1]; exact hX) ((p : Int) + 1) (by rw [HPP.out])
      rw [HPP.out, ← cut_eq K HC.out.1] at h
      exact h)
    have hw : IntKind.i64.wrap ((p : Int) + 1) = (p : Int) + 1 := by rw [IntKind.wrap_i64]; omega
    have HS3 := Lib.hid hs3
    clear hget hb2 hb3 a1 hww hs2 hs3 hp hpp y1 y2 hlp hpl eA ht
    rw [HGT.out] at HSK
    have HW3 := Lib.hid hW3
    clear hW3 hg6 a3 x0 x1 x2 z0 z1 z2 r0 r1 r2 f0 f1 f2
    go_wp2_with fail
    rw [← HW3.out]
    try rw [HG6.out]
    refine (HSK.out W3 hA3.out).mono ?_
    rintro e w4 ⟨rfl, hb4⟩
    have hM4 := Lib.hid (MadeX.below hM3.out hb4)
    have HB4 := Lib.hid (HB3.out.trans (hb4.mono HB3.out.size))
    have HX4 := Lib.hid ((hb4.block g6 (by have := HS3.out; omega)).trans HX3.out)
    have HR4 := Lib.hid ((hb4.block (q + 1) (by have := HS3.out; omega)).trans HR3.out)
    have hs4 : g6 < w4.heap.size := by have := HS3.out; have := hb4.size; omega
    simp only [Option.isSome]
    clear hb4 a2 n2
    go_wp2_with fail
    refine (HD.out w4 hM4.out).mono ?_
    rintro e w5 ⟨v5, rfl, hM5, hg5⟩
    have HX5 := Lib.hid ((hg5.block g6 hs4 (own_ne (by omega))).trans HX4.out)
    have HR5 := Lib.hid ((hg5.block (q + 1) (by omega) (own_ne (by omega))).trans HR4.out)
    obtain ⟨x0, z0, x1, z1, x2, z2⟩ := res_cells HX5.out
    obtain ⟨r0, f0, r1, f1, r2, f2⟩ := res_cells HR5.out
    have HG5 := Lib.hid (grown_trans (grown_below HB4.out _) hg5)
    have HM5 := Lib.hid hM5
    obtain ⟨A5, c5, rfl, _⟩ := MadeX.form rowL_len hM5
    obtain ⟨M, hM⟩ : ∃ M, (cut l K).length = M := ⟨_, rfl⟩
    rw [hM] at HM5 ⊢
    clear hg5 hM5 hM
    go_wp2_with fail
    go_region
    go_wp2
    have hq := HQ.out
    refine bodyPost_ret (v := .tuple #[.slice A5 M c5, .agg #[.int .i64 0, .int .u32 t, .slice none 0 0]]) ?_ rfl ⟨.slice A5 M c5, ?_, ?_, ?_⟩
    · simp [results, Tryz.results76, go_sem, r0, r1, r2]
    · rw [ES.out]; rfl
    · rw [ES.out]; exact made_stored3 (MadeX.below HM5.out (below_drew _)) (made_ne HM5.out HR5.out (by decide)) _ _ _
    · exact grown_set (grown_set (grown_set (grown_trans HG5.out (grown_below (below_drew _) _)) (by omega) _ _) (by omega) _ _) (by omega) _ _
end Go.Proofs.YtnepdbfnbikplaaGreatDoor

namespace Go.Proofs.YtnepdbfnbikplaaGreatDoor
open Go.RowKit Go.Lib Tb Pt Opn

/-- What Do leaves: rows in memory of its own, and an answer whose rows lie apart from them. -/
def Did7 (s : List R × Int × Int × List R) (err : Int) (w : World) (e : Ending) (w' : World) : Prop := ∃ u r, e = .returned (.tuple #[u, .agg #[.int .i64 s.2.1, .int .u32 s.2.2.1, r], .int .i64 err]) ∧
  MadeX w' w.heap.size 44 2 rowL u s.1 ∧ MadeX w' w.heap.size 44 2 rowL r s.2.2.2 ∧ (u.ownBlock = none ∨ u.ownBlock ≠ r.ownBlock) ∧ Below w.heap.size w w'
set_option maxRecDepth 100000 in
set_option maxHeartbeats 4000000 in
theorem odo_conf (c : Cf) (A : Option Addr) (N d : Nat) (o : O) (hno : ¬ (Ok c ∧ c.obj = 2)) (w : World) :
    Calls Tryz.prog 72 #[cfv c, .slice A N d, opv o] w (Did7 ([], 0, 0, []) 40 w) := by
  have HM := Lib.hid (oisOf_any c)
  rw [decide_eq_false hno] at HM
  clear hno
  unfold cfv opv at *
  go_enter Tryz.func72, Tryz.ntmps72
  go_wp2_with (go_at_call 73; refine (HM.out _).mono ?_; rintro e w1 ⟨rfl, hb1⟩; obtain ⟨hc1, hf1⟩ := bcell hb1)
  refine bodyPost_ret (v := .tuple #[.slice none 0 0, .agg #[.int .i64 0, .int .u32 0, .slice none 0 0], .int .i64 40]) ?_ rfl ⟨_, _, rfl, MadeX.nil _ _ _ _ _, MadeX.nil _ _ _ _ _, own_apart _, ?_⟩
  · simp [results, Tryz.results72, go_sem, hc1]
  · exact (((below_then (below_three _ _ _ _) hb1).setCell (by simp; omega) _).setCell (by simp; omega) _).setCell (by simp; omega) _

set_option maxRecDepth 100000 in
set_option maxHeartbeats 4000000 in
theorem odo_arg (c : Cf) (A : Option Addr) (l : List R) (d : Nat) (o : O) (hl : l.length ≤ 1000000) (hg : Ok c ∧ c.obj = 2) (hno : ¬ IsOr c l) (w : World) (h : IsR w A l) :
    Calls Tryz.prog 72 #[cfv c, .slice A l.length d, opv o] w (Did7 ([], 0, 0, []) 2 w) := by
  have HM := Lib.hid (oisOf_any c)
  rw [decide_eq_true hg] at HM
  have HR := Lib.hid (fun W hA => oare_any c A l d hl W hA)
  have e : decide ((l.length : Int) ≤ c.cap ∧ Up l ∧ ∀ x ∈ l, OrOk x) = false := decide_eq_false fun g => hno ⟨hg.1, hg.2, g.1, g.2.1, g.2.2⟩
  rw [e] at HR
  have HA := Lib.hid h
  clear e hg hno h
  generalize l.length = N at *
  unfold cfv opv at *
  go_enter Tryz.func72, Tryz.ntmps72
  go_wp2_with (first
    | (go_at_call 73; refine (HM.out _).mono ?_; rintro e w1 ⟨rfl, hb1⟩; obtain ⟨hc1, hf1⟩ := bcell hb1)
    | (go_at_call 74; refine (HR.out _ (HA.out.below (below_then (below_three _ _ _ _) hb1))).mono ?_; rintro e w2 ⟨rfl, hb2⟩; replace hb1 := below_then hb1 hb2; clear hc1 hf1 hb2; obtain ⟨hc1, hf1⟩ := bcell hb1))
  refine bodyPost_ret (v := .tuple #[.slice none 0 0, .agg #[.int .i64 0, .int .u32 0, .slice none 0 0], .int .i64 2]) ?_ rfl ⟨_, _, rfl, MadeX.nil _ _ _ _ _, MadeX.nil _ _ _ _ _, own_apart _, ?_⟩
  · simp [results, Tryz.results72, go_sem, hc1]
  · exact (((below_then (below_three _ _ _ _) hb1).setCell (by simp; omega) _).setCell (by simp; omega) _).setCell (by simp; omega) _

set_option maxRecDepth 100000 in
set_option maxHeartbeats 4000000 in
theorem odo_bad (c : Cf) (A : Option Addr) (l : List R) (d : Nat) (o : O) (ho : Wf o) (hAn : A = none → l.length = 0 ∧ d = 0) (hl : l.length ≤ 100000) (ht : IsOr c l) (hbad : chk c o ≠ 0) (w : World) (hp : Obs w) (h : IsR w A l) :
    Calls Tryz.prog 72 #[cfv c, .slice A l.length d, opv o] w (Did7 (l, chk c o, 0, []) 0 w) := by
  have HM := Lib.hid (oisOf_any c)
  have hg : Ok c ∧ c.obj = 2 := ⟨ht.1, ht.2.1⟩
  rw [decide_eq_true hg] at HM
  obtain ⟨cap, hcap⟩ : ∃ cap : Nat, c.cap = cap := by
    have hb := hg.1.2.2
    unfold RestOk at hb
    exact ⟨c.cap.toNat, by omega⟩
  have HR := Lib.hid (fun W hA => oare_any c A l d (by omega) W hA)
  have e : decide ((l.length : Int) ≤ c.cap ∧ Up l ∧ ∀ x ∈ l, OrOk x) = true := decide_eq_true ⟨ht.2.2.1, ht.2.2.2.1, ht.2.2.2.2⟩
  rw [e] at HR
  have HA := Lib.hid h
  have HCL := Lib.hid (fun W hA => clone_any A l d (by omega) hAn W hA)
  have HCK := Lib.hid (check_op c o ho)
  have HP := Lib.hid hp
  have hob := hg.2
  have hlc : l.length ≤ cap := by have := ht.2.2.1; omega
  have HV := Lib.hid (And.intro ht.2.2.2.1 (show ∀ x ∈ l, x.2 ≤ 2147483647 from fun x hx => (ht.2.2.2.2 x hx).2))
  have hbad2 : (chk c o != 0) = true := bne_iff_ne.2 hbad
  generalize chk c o = x at *
  clear e h ht hAn ho hp hg
  unfold cfv opv at *
  rw [hob] at HM HR HCK ⊢
  rw [hcap] at HM HR HCK ⊢
  clear hob hcap
  generalize hN : l.length = N at *
  have HNL := Lib.hid hN
  clear hN
  go_enter Tryz.func72, Tryz.ntmps72
  go_wp2_with (first
    | (go_at_call 73; refine (HM.out _).mono ?_; rintro e w1 ⟨rfl, hb1⟩; obtain ⟨hc1, hf1⟩ := bcell hb1)
    | (go_at_call 74; refine (HR.out _ (HA.out.below (below_then (below_three _ _ _ _) hb1))).mono ?_; rintro e w2 ⟨rfl, hb2⟩; replace hb1 := below_then hb1 hb2; clear hc1 hf1 hb2; obtain ⟨hc1, hf1⟩ := bcell hb1)
    | (go_at_call 46; refine (HCL.out _ (HA.out.below (below_then (below_three _ _ _ _) hb1))).mono ?_; rintro e w3 ⟨u3, rfl, hM3, hb3⟩; have hs1 := hb1.size; replace hb1 := below_then hb1 hb3; clear hc1 hf1 hb3; obtain ⟨hc1, hf1⟩ := bcell hb1; have HM3 := Lib.hid hM3; clear hM3)
    | (go_at_call 7; refine (HCK.out _ (HP.out.below (below_then (below_three _ _ _ _) hb1))).mono ?_; rintro e w4 ⟨rfl, hb4⟩; replace hb1 := below_then hb1 hb4; clear hc1 hf1; obtain ⟨hc1, hf1⟩ := bcell hb1))
  have HM4 := Lib.hid (HM3.out.below hb4)
  have hne : u3.ownBlock ≠ some (w.heap.size + 1 + 1) := fun e => by
    have := (MadeX.lt HM3.out _ e).1
    simp at hs1; omega
  refine bodyPost_ret (v := .tuple #[u3, .agg #[.int .i64 x, .int .u32 0, .slice none 0 0], .int .i64 0]) ?_ rfl ⟨_, _, rfl, ?_, MadeX.nil _ _ _ _ _, own_apart _, ?_⟩
  · simp [results, Tryz.results72, go_sem, hc1]
  · exact made_stored3 (MadeX.down' HM4.out (by simp at hs1; omega)) hne _ _ _
  · exact (((below_then (below_three _ _ _ _) hb1).setCell (by simp; omega) _).setCell (by simp; omega) _).setCell (by simp; omega) _

set_option maxRecDepth 100000 in
set_option maxHeartbeats 4000000 in
theorem odo_put (c : Cf) (A : Option Addr) (l : List R) (d : Nat) (o : O) (ho : Wf o) (hAn : A = none → l.length = 0 ∧ d = 0) (hl : l.length ≤ 100000) (ht : IsOr c l) (hk : o.k = 4) (hgood : chk c o = 0) (w : World) (hp : Obs w) (h : IsR w A l) :
    Calls Tryz.prog 72 #[cfv c, .slice A l.length d, opv o] w (Did7 ((putR c.cap.toNat l o.a o.b).1, (putR c.cap.toNat l o.a o.b).2.1, (putR c.cap.toNat l o.a o.b).2.2, []) 0 w) := by
  have HM := Lib.hid (oisOf_any c)
  have hg : Ok c ∧ c.obj = 2 := ⟨ht.1, ht.2.1⟩
  rw [decide_eq_true hg] at HM
  obtain ⟨cap, hcap⟩ : ∃ cap : Nat, c.cap = cap := by
    have hb := hg.1.2.2
    unfold RestOk at hb
    exact ⟨c.cap.toNat, by omega⟩
  have HR := Lib.hid (fun W hA => oare_any c A l d (by omega) W hA)
  have e : decide ((l.length : Int) ≤ c.cap ∧ Up l ∧ ∀ x ∈ l, OrOk x) = true := decide_eq_true ⟨ht.2.2.1, ht.2.2.2.1, ht.2.2.2.2⟩
  rw [e] at HR
  have HA := Lib.hid h
  have HCL := Lib.hid (fun W hA => clone_any A l d (by omega) hAn W hA)
  have HCK := Lib.hid (check_op c o ho)
  have HP := Lib.hid hp
  have hob := hg.2
  have hlc : l.length ≤ cap := by have := ht.2.2.1; omega
  have HV := Lib.hid (And.intro ht.2.2.2.1 (show ∀ x ∈ l, x.2 ≤ 2147483647 from fun x hx => (ht.2.2.2.2 x hx).2))
  have hfit := fits_two hob hgood
  rw [hgood] at HCK
  have HI := Lib.hid (fun W B (hB : B ≤ W.heap.size) v hm => oput_any c cap hcap o ho W B hB v l (by omega) hlc HV.out.1 HV.out.2 hm)
  rw [show c.cap.toNat = cap by omega]
  obtain ⟨s, hs⟩ : ∃ s, putR cap l o.a o.b = s := ⟨_, rfl⟩
  rw [hs] at HI ⊢
  clear hs
  obtain ⟨rows, x, y⟩ := s
  obtain ⟨res, hres⟩ : ∃ res : List R, res = [] := ⟨_, rfl⟩
  rw [← hres]
  have HRE := Lib.hid hres
  clear hres
  clear e h ht hAn ho hp hg hgood hfit
  unfold cfv opv at *
  rw [hob] at HM HR HCK HI ⊢
  rw [hcap] at HM HR HCK HI ⊢
  rw [hk] at HCK HI ⊢
  clear hob hcap hk
  generalize hN : l.length = N at *
  have HNL := Lib.hid hN
  clear hN
  go_enter Tryz.func72, Tryz.ntmps72
  go_wp2_with (first
    | (go_at_call 73; refine (HM.out _).mono ?_; rintro e w1 ⟨rfl, hb1⟩; obtain ⟨hc1, hf1⟩ := bcell hb1)
    | (go_at_call 74; refine (HR.out _ (HA.out.below (below_then (below_three _ _ _ _) hb1))).mono ?_; rintro e w2 ⟨rfl, hb2⟩; replace hb1 := below_then hb1 hb2; clear hc1 hf1 hb2; obtain ⟨hc1, hf1⟩ := bcell hb1)
    | (go_at_call 46; refine (HCL.out _ (HA.out.below (below_then (below_three _ _ _ _) hb1))).mono ?_; rintro e w3 ⟨u3, rfl, hM3, hb3⟩; have hs1 := hb1.size; replace hb1 := below_then hb1 hb3; clear hc1 hf1 hb3; obtain ⟨hc1, hf1⟩ := bcell hb1; have HM3 := Lib.hid hM3; clear hM3)
    | (go_at_call 7; refine (HCK.out _ (HP.out.below (below_then (below_three _ _ _ _) hb1))).mono ?_; rintro e w4 ⟨rfl, hb4⟩; replace hb1 := below_then hb1 hb4; clear hc1 hf1; obtain ⟨hc1, hf1⟩ := bcell hb1))
  have HM4 := Lib.hid (HM3.out.below hb4)
  have hne : u3.ownBlock ≠ some (w.heap.size + 1 + 1) := fun e => by
    have := (MadeX.lt HM3.out _ e).1
    simp at hs1; omega
  have hq : w.heap.size + 1 + 1 < w4.heap.size := by have := hb1.size; simp at this; omega
  have hbw := below_then (below_three _ _ _ _) hb1
  have hB4 : MadeX w4 w.heap.size 44 2 rowL u3 l := MadeX.down' HM4.out (by simp at hs1; omega)
  refine (HI.out w4 w.heap.size hbw.size u3 hB4).mono ?_
  rintro e w5 ⟨u, rfl, hM5, hg5⟩
  have hMr : MadeX w5 w.heap.size 44 2 rowL (.slice none 0 0) res := by rw [HRE.out]; exact MadeX.nil _ _ _ _ _
  have HAP := Lib.hid (own_apart u)
  unfold resv
  have hx : ∀ j, w5.cell? ⟨w.heap.size + 1 + 1, j, none⟩ = w4.cell? ⟨w.heap.size + 1 + 1, j, none⟩ := fun j => World.cell?_of_block (hg5.block _ hq (fun e => hne e.symm))
  have hy : ∀ j, w5.frozen? ⟨w.heap.size + 1 + 1, j, none⟩ = w4.frozen? ⟨w.heap.size + 1 + 1, j, none⟩ := fun j => World.frozen?_of_block (hg5.block _ hq (fun e => hne e.symm))
  have r0 : w5.cell? ⟨w.heap.size + 1 + 1, 0, none⟩ = some (.int .i64 0) := (hx 0).trans ((hc1 _ _ (by simp)).trans (by simp [go_sem]))
  have r1 : w5.cell? ⟨w.heap.size + 1 + 1, 1, none⟩ = some (.int .u32 0) := (hx 1).trans ((hc1 _ _ (by simp)).trans (by simp [go_sem]))
  have r2 : w5.cell? ⟨w.heap.size + 1 + 1, 2, none⟩ = some (.slice none 0 0) := (hx 2).trans ((hc1 _ _ (by simp)).trans (by simp [go_sem]))
  have f0 : w5.frozen? ⟨w.heap.size + 1 + 1, 0, none⟩ = false := (hy 0).trans ((hf1 _ _ (by simp)).trans (by simp [go_sem]))
  have f1 : w5.frozen? ⟨w.heap.size + 1 + 1, 1, none⟩ = false := (hy 1).trans ((hf1 _ _ (by simp)).trans (by simp [go_sem]))
  have f2 : w5.frozen? ⟨w.heap.size + 1 + 1, 2, none⟩ = false := (hy 2).trans ((hf1 _ _ (by simp)).trans (by simp [go_sem]))
  have h3 := HM3.out
  have hb5 := Lib.hid (hbw.grown hg5 hbw.size (fun k hk => by have := (MadeX.lt h3 k hk).1; simp at hs1; omega))
  have hre : w5.heap[w.heap.size + 1 + 1]? = some (.cells #[.int .i64 0, .int .u32 0, .slice none 0 0] 36 (0, 0)) := (hg5.block _ hq (fun e => hne e.symm)).trans ((hb1.block (w.heap.size + 1 + 1) (by simp)).trans (third_new _ _ _ _))
  have HNU := Lib.hid (made_ne hM5 hre (by decide))
  have HNR := Lib.hid (made_ne hMr hre (by decide))
  have HM5 := Lib.hid hM5
  have HMr := Lib.hid hMr
  clear hx hy hc1 hf1 hre hbw hM5 hMr hg5 h3 hB4
  have mixed : Tryz.prog.follows Departure.mixedOrders = true := by kernel_rfl
  go_wp2
  obtain ⟨W6, hW6⟩ : ∃ W6, W6 = ((w5.setCell ⟨w.heap.size + 1 + 1, 0, none⟩ (.int .i64 x)).setCell ⟨w.heap.size + 1 + 1, 1, none⟩ (.int .u32 y)).setCell ⟨w.heap.size + 1 + 1, 2, none⟩ (.slice none 0 0) := ⟨_, rfl⟩
  rw [← hW6]
  have s0 : W6.cell? ⟨w.heap.size + 1 + 1, 0, none⟩ = some (.int .i64 x) := by rw [hW6]; simp [go_sem, r0]
  have s1 : W6.cell? ⟨w.heap.size + 1 + 1, 1, none⟩ = some (.int .u32 y) := by rw [hW6]; simp [go_sem, r1]
  have s2 : W6.cell? ⟨w.heap.size + 1 + 1, 2, none⟩ = some (.slice none 0 0) := by rw [hW6]; simp [go_sem, r2]
  have t0 : W6.frozen? ⟨w.heap.size + 1 + 1, 0, none⟩ = false := by rw [hW6]; simp [go_sem, f0]
  have t1 : W6.frozen? ⟨w.heap.size + 1 + 1, 1, none⟩ = false := by rw [hW6]; simp [go_sem, f1]
  have t2 : W6.frozen? ⟨w.heap.size + 1 + 1, 2, none⟩ = false := by rw [hW6]; simp [go_sem, f2]
  have HM6 := Lib.hid (show MadeX W6 w.heap.size 44 2 rowL u rows by rw [hW6]; exact made_stored3 HM5.out HNU.out _ _ _)
  have HM7 := Lib.hid (show MadeX W6 w.heap.size 44 2 rowL (.slice none 0 0) res by rw [hW6]; exact made_stored3 HMr.out HNR.out _ _ _)
  have hb6 := Lib.hid (show Below w.heap.size w W6 by rw [hW6]; exact ((hb5.out.setCell (by simp; omega) _).setCell (by simp; omega) _).setCell (by simp; omega) _)
  clear hW6 r0 r1 r2 f0 f1 f2
  go_region
  go_wp2
  refine bodyPost_ret (v := .tuple #[u, .agg #[.int .i64 x, .int .u32 y, .slice none 0 0], .int .i64 0]) ?_ rfl ⟨_, _, rfl, ?_, ?_, HAP.out, ?_⟩
  · simp [results, Tryz.results72, go_sem, s0, s1, s2]
  · exact made_stored3 (MadeX.below HM6.out (below_drew _)) HNU.out _ _ _
  · exact made_stored3 (MadeX.below HM7.out (below_drew _)) HNR.out _ _ _
  · exact ((hb6.out.drew.setCell (by simp; omega) _).setCell (by simp; omega) _).setCell (by simp; omega) _

set_option maxRecDepth 100000 in
set_option maxHeartbeats 4000000 in
theorem odo_take (c : Cf) (A : Option Addr) (l : List R) (d : Nat) (o : O) (ho : Wf o) (hAn : A = none → l.length = 0 ∧ d = 0) (hl : l.length ≤ 100000) (ht : IsOr c l) (hk : o.k = 5) (hgood : chk c o = 0) (w : World) (hp : Obs w) (h : IsR w A l) :
    Calls Tryz.prog 72 #[cfv c, .slice A l.length d, opv o] w (Did7 ((takeR l o.a).1, (takeR l o.a).2.1, (takeR l o.a).2.2, []) 0 w) := by
  have HM := Lib.hid (oisOf_any c)
  have hg : Ok c ∧ c.obj = 2 := ⟨ht.1, ht.2.1⟩
  rw [decide_eq_true hg] at HM
  obtain ⟨cap, hcap⟩ : ∃ cap : Nat, c.cap = cap := by
    have hb := hg.1.2.2
    unfold RestOk at hb
    exact ⟨c.cap.toNat, by omega⟩
  have HR := Lib.hid (fun W hA => oare_any c A l d (by omega) W hA)
  have e : decide ((l.length : Int) ≤ c.cap ∧ Up l ∧ ∀ x ∈ l, OrOk x) = true := decide_eq_true ⟨ht.2.2.1, ht.2.2.2.1, ht.2.2.2.2⟩
  rw [e] at HR
  have HA := Lib.hid h
  have HCL := Lib.hid (fun W hA => clone_any A l d (by omega) hAn W hA)
  have HCK := Lib.hid (check_op c o ho)
  have HP := Lib.hid hp
  have hob := hg.2
  have hlc : l.length ≤ cap := by have := ht.2.2.1; omega
  have HV := Lib.hid (And.intro ht.2.2.2.1 (show ∀ x ∈ l, x.2 ≤ 2147483647 from fun x hx => (ht.2.2.2.2 x hx).2))
  have hfit := fits_two hob hgood
  rw [hgood] at HCK
  have HI := Lib.hid (fun W B (hB : B ≤ W.heap.size) v hm => otake_any o ho W B v l (by omega) HV.out.1 HV.out.2 hm)
  obtain ⟨s, hs⟩ : ∃ s, takeR l o.a = s := ⟨_, rfl⟩
  rw [hs] at HI ⊢
  clear hs
  obtain ⟨rows, x, y⟩ := s
  obtain ⟨res, hres⟩ : ∃ res : List R, res = [] := ⟨_, rfl⟩
  rw [← hres]
  have HRE := Lib.hid hres
  clear hres
  clear e h ht hAn ho hp hg hgood hfit
  unfold cfv opv at *
  rw [hob] at HM HR HCK ⊢
  rw [hcap] at HM HR HCK ⊢
  rw [hk] at HCK HI ⊢
  clear hob hcap hk
  generalize hN : l.length = N at *
  have HNL := Lib.hid hN
  clear hN
  go_enter Tryz.func72, Tryz.ntmps72
  go_wp2_with (first
    | (go_at_call 73; refine (HM.out _).mono ?_; rintro e w1 ⟨rfl, hb1⟩; obtain ⟨hc1, hf1⟩ := bcell hb1)
    | (go_at_call 74; refine (HR.out _ (HA.out.below (below_then (below_three _ _ _ _) hb1))).mono ?_; rintro e w2 ⟨rfl, hb2⟩; replace hb1 := below_then hb1 hb2; clear hc1 hf1 hb2; obtain ⟨hc1, hf1⟩ := bcell hb1)
    | (go_at_call 46; refine (HCL.out _ (HA.out.below (below_then (below_three _ _ _ _) hb1))).mono ?_; rintro e w3 ⟨u3, rfl, hM3, hb3⟩; have hs1 := hb1.size; replace hb1 := below_then hb1 hb3; clear hc1 hf1 hb3; obtain ⟨hc1, hf1⟩ := bcell hb1; have HM3 := Lib.hid hM3; clear hM3)
    | (go_at_call 7; refine (HCK.out _ (HP.out.below (below_then (below_three _ _ _ _) hb1))).mono ?_; rintro e w4 ⟨rfl, hb4⟩; replace hb1 := below_then hb1 hb4; clear hc1 hf1; obtain ⟨hc1, hf1⟩ := bcell hb1))
  have HM4 := Lib.hid (HM3.out.below hb4)
  have hne : u3.ownBlock ≠ some (w.heap.size + 1 + 1) := fun e => by
    have := (MadeX.lt HM3.out _ e).1
    simp at hs1; omega
  have hq : w.heap.size + 1 + 1 < w4.heap.size := by have := hb1.size; simp at this; omega
  have hbw := below_then (below_three _ _ _ _) hb1
  have hB4 : MadeX w4 w.heap.size 44 2 rowL u3 l := MadeX.down' HM4.out (by simp at hs1; omega)
  refine (HI.out w4 w.heap.size hbw.size u3 hB4).mono ?_
  rintro e w5 ⟨u, rfl, hM5, hg5⟩
  have hMr : MadeX w5 w.heap.size 44 2 rowL (.slice none 0 0) res := by rw [HRE.out]; exact MadeX.nil _ _ _ _ _
  have HAP := Lib.hid (own_apart u)
  unfold resv
  have hx : ∀ j, w5.cell? ⟨w.heap.size + 1 + 1, j, none⟩ = w4.cell? ⟨w.heap.size + 1 + 1, j, none⟩ := fun j => World.cell?_of_block (hg5.block _ hq (fun e => hne e.symm))
  have hy : ∀ j, w5.frozen? ⟨w.heap.size + 1 + 1, j, none⟩ = w4.frozen? ⟨w.heap.size + 1 + 1, j, none⟩ := fun j => World.frozen?_of_block (hg5.block _ hq (fun e => hne e.symm))
  have r0 : w5.cell? ⟨w.heap.size + 1 + 1, 0, none⟩ = some (.int .i64 0) := (hx 0).trans ((hc1 _ _ (by simp)).trans (by simp [go_sem]))
  have r1 : w5.cell? ⟨w.heap.size + 1 + 1, 1, none⟩ = some (.int .u32 0) := (hx 1).trans ((hc1 _ _ (by simp)).trans (by simp [go_sem]))
  have r2 : w5.cell? ⟨w.heap.size + 1 + 1, 2, none⟩ = some (.slice none 0 0) := (hx 2).trans ((hc1 _ _ (by simp)).trans (by simp [go_sem]))
  have f0 : w5.frozen? ⟨w.heap.size + 1 + 1, 0, none⟩ = false := (hy 0).trans ((hf1 _ _ (by simp)).trans (by simp [go_sem]))
  have f1 : w5.frozen? ⟨w.heap.size + 1 + 1, 1, none⟩ = false := (hy 1).trans ((hf1 _ _ (by simp)).trans (by simp [go_sem]))
  have f2 : w5.frozen? ⟨w.heap.size + 1 + 1, 2, none⟩ = false := (hy 2).trans ((hf1 _ _ (by simp)).trans (by simp [go_sem]))
  have h3 := HM3.out
  have hb5 := Lib.hid (hbw.grown hg5 hbw.size (fun k hk => by have := (MadeX.lt h3 k hk).1; simp at hs1; omega))
  have hre : w5.heap[w.heap.size + 1 + 1]? = some (.cells #[.int .i64 0, .int .u32 0, .slice none 0 0] 36 (0, 0)) := (hg5.block _ hq (fun e => hne e.symm)).trans ((hb1.block (w.heap.size + 1 + 1) (by simp)).trans (third_new _ _ _ _))
  have HNU := Lib.hid (made_ne hM5 hre (by decide))
  have HNR := Lib.hid (made_ne hMr hre (by decide))
  have HM5 := Lib.hid hM5
  have HMr := Lib.hid hMr
  clear hx hy hc1 hf1 hre hbw hM5 hMr hg5 h3 hB4
  have mixed : Tryz.prog.follows Departure.mixedOrders = true := by kernel_rfl
  go_wp2
  obtain ⟨W6, hW6⟩ : ∃ W6, W6 = ((w5.setCell ⟨w.heap.size + 1 + 1, 0, none⟩ (.int .i64 x)).setCell ⟨w.heap.size + 1 + 1, 1, none⟩ (.int .u32 y)).setCell ⟨w.heap.size + 1 + 1, 2, none⟩ (.slice none 0 0) := ⟨_, rfl⟩
  rw [← hW6]
  have s0 : W6.cell? ⟨w.heap.size + 1 + 1, 0, none⟩ = some (.int .i64 x) := by rw [hW6]; simp [go_sem, r0]
  have s1 : W6.cell? ⟨w.heap.size + 1 + 1, 1, none⟩ = some (.int .u32 y) := by rw [hW6]; simp [go_sem, r1]
  have s2 : W6.cell? ⟨w.heap.size + 1 + 1, 2, none⟩ = some (.slice none 0 0) := by rw [hW6]; simp [go_sem, r2]
  have t0 : W6.frozen? ⟨w.heap.size + 1 + 1, 0, none⟩ = false := by rw [hW6]; simp [go_sem, f0]
  have t1 : W6.frozen? ⟨w.heap.size + 1 + 1, 1, none⟩ = false := by rw [hW6]; simp [go_sem, f1]
  have t2 : W6.frozen? ⟨w.heap.size + 1 + 1, 2, none⟩ = false := by rw [hW6]; simp [go_sem, f2]
  have HM6 := Lib.hid (show MadeX W6 w.heap.size 44 2 rowL u rows by rw [hW6]; exact made_stored3 HM5.out HNU.out _ _ _)
  have HM7 := Lib.hid (show MadeX W6 w.heap.size 44 2 rowL (.slice none 0 0) res by rw [hW6]; exact made_stored3 HMr.out HNR.out _ _ _)
  have hb6 := Lib.hid (show Below w.heap.size w W6 by rw [hW6]; exact ((hb5.out.setCell (by simp; omega) _).setCell (by simp; omega) _).setCell (by simp; omega) _)
  clear hW6 r0 r1 r2 f0 f1 f2
  go_region
  go_wp2
  refine bodyPost_ret (v := .tuple #[u, .agg #[.int .i64 x, .int .u32 y, .slice none 0 0], .int .i64 0]) ?_ rfl ⟨_, _, rfl, ?_, ?_, HAP.out, ?_⟩
  · simp [results, Tryz.results72, go_sem, s0, s1, s2]
  · exact made_stored3 (MadeX.below HM6.out (below_drew _)) HNU.out _ _ _
  · exact made_stored3 (MadeX.below HM7.out (below_drew _)) HNR.out _ _ _
  · exact ((hb6.out.drew.setCell (by simp; omega) _).setCell (by simp; omega) _).setCell (by simp; omega) _

set_option maxRecDepth 100000 in
set_option maxHeartbeats 4000000 in
theorem odo_get (c : Cf) (A : Option Addr) (l : List R) (d : Nat) (o : O) (ho : Wf o) (hAn : A = none → l.length = 0 ∧ d = 0) (hl : l.length ≤ 100000) (ht : IsOr c l) (hk : o.k = 6) (hgood : chk c o = 0) (w : World) (hp : Obs w) (h : IsR w A l) :
    Calls Tryz.prog 72 #[cfv c, .slice A l.length d, opv o] w (Did7 (l, (getR l o.a).1, (getR l o.a).2, []) 0 w) := by
  have HM := Lib.hid (oisOf_any c)
  have hg : Ok c ∧ c.obj = 2 := ⟨ht.1, ht.2.1⟩
  rw [decide_eq_true hg] at HM
  obtain ⟨cap, hcap⟩ : ∃ cap : Nat, c.cap = cap := by
    have hb := hg.1.2.2
    unfold RestOk at hb
    exact ⟨c.cap.toNat, by omega⟩
  have HR := Lib.hid (fun W hA => oare_any c A l d (by omega) W hA)
  have e : decide ((l.length : Int) ≤ c.cap ∧ Up l ∧ ∀ x ∈ l, OrOk x) = true := decide_eq_true ⟨ht.2.2.1, ht.2.2.2.1, ht.2.2.2.2⟩
  rw [e] at HR
  have HA := Lib.hid h
  have HCL := Lib.hid (fun W hA => clone_any A l d (by omega) hAn W hA)
  have HCK := Lib.hid (check_op c o ho)
  have HP := Lib.hid hp
  have hob := hg.2
  have hlc : l.length ≤ cap := by have := ht.2.2.1; omega
  have HV := Lib.hid (And.intro ht.2.2.2.1 (show ∀ x ∈ l, x.2 ≤ 2147483647 from fun x hx => (ht.2.2.2.2 x hx).2))
  have hfit := fits_two hob hgood
  rw [hgood] at HCK
  have HI := Lib.hid (fun W A' d' hA => oget_any A' l d' o ho (by omega) HV.out.1 HV.out.2 W hA)
  obtain ⟨x, hx⟩ : ∃ x, (getR l o.a).1 = x := ⟨_, rfl⟩
  obtain ⟨y, hy⟩ : ∃ y, (getR l o.a).2 = y := ⟨_, rfl⟩
  rw [hx, hy] at HI ⊢
  unfold resv at HI
  clear hx hy
  obtain ⟨rows, hrows⟩ : ∃ rows, rows = l := ⟨_, rfl⟩
  obtain ⟨res, hres⟩ : ∃ res : List R, res = [] := ⟨_, rfl⟩
  have HRE := Lib.hid hres
  have HRO := Lib.hid hrows
  have e2 : (l, x, y, ([] : List R)) = (rows, x, y, res) := by rw [hrows, hres]
  rw [e2]
  clear hres hrows e2
  clear e h ht hAn ho hp hg hgood hfit
  unfold cfv opv at *
  rw [hob] at HM HR HCK ⊢
  rw [hcap] at HM HR HCK ⊢
  rw [hk] at HCK HI ⊢
  clear hob hcap hk
  generalize hN : l.length = N at *
  have HNL := Lib.hid hN
  clear hN
  go_enter Tryz.func72, Tryz.ntmps72
  go_wp2_with (first
    | (go_at_call 73; refine (HM.out _).mono ?_; rintro e w1 ⟨rfl, hb1⟩; obtain ⟨hc1, hf1⟩ := bcell hb1)
    | (go_at_call 74; refine (HR.out _ (HA.out.below (below_then (below_three _ _ _ _) hb1))).mono ?_; rintro e w2 ⟨rfl, hb2⟩; replace hb1 := below_then hb1 hb2; clear hc1 hf1 hb2; obtain ⟨hc1, hf1⟩ := bcell hb1)
    | (go_at_call 46; refine (HCL.out _ (HA.out.below (below_then (below_three _ _ _ _) hb1))).mono ?_; rintro e w3 ⟨u3, rfl, hM3, hb3⟩; have hs1 := hb1.size; replace hb1 := below_then hb1 hb3; clear hc1 hf1 hb3; obtain ⟨hc1, hf1⟩ := bcell hb1; have HM3 := Lib.hid hM3; clear hM3)
    | (go_at_call 7; refine (HCK.out _ (HP.out.below (below_then (below_three _ _ _ _) hb1))).mono ?_; rintro e w4 ⟨rfl, hb4⟩; replace hb1 := below_then hb1 hb4; clear hc1 hf1; obtain ⟨hc1, hf1⟩ := bcell hb1))
  have HM4 := Lib.hid (HM3.out.below hb4)
  have hne : u3.ownBlock ≠ some (w.heap.size + 1 + 1) := fun e => by
    have := (MadeX.lt HM3.out _ e).1
    simp at hs1; omega
  have hq : w.heap.size + 1 + 1 < w4.heap.size := by have := hb1.size; simp at this; omega
  have hbw := below_then (below_three _ _ _ _) hb1
  have hB4 : MadeX w4 w.heap.size 44 2 rowL u3 l := MadeX.down' HM4.out (by simp at hs1; omega)
  obtain ⟨A', d', hu3, hd', hAn', hA'⟩ := MadeX.form rowL_len HM4.out
  rw [HNL.out] at hu3 hd' hAn'
  have HU3 := Lib.hid hu3
  have hlt4 := fun k hk => (MadeX.lt HM4.out k hk).2
  rw [hu3] at hlt4
  rw [hu3]
  refine (HI.out w4 A' d' hA').mono ?_
  rintro e w5 ⟨rfl, hbl⟩
  obtain ⟨u, hu⟩ : ∃ u, u = u3 := ⟨_, rfl⟩
  rw [← hu3]
  have hg5 : w4.grownBy w5 u3.ownBlock := grown_below hbl _
  have hM5 : MadeX w5 w.heap.size 44 2 rowL u rows := by rw [HRO.out, hu]; exact MadeX.below hB4 hbl
  have hMr : MadeX w5 w.heap.size 44 2 rowL (.slice none 0 0) res := by rw [HRE.out]; exact MadeX.nil _ _ _ _ _
  have HAP := Lib.hid (own_apart u)
  clear hu3 hd' hAn' hA' hlt4 hbl
  subst hu
  have hx : ∀ j, w5.cell? ⟨w.heap.size + 1 + 1, j, none⟩ = w4.cell? ⟨w.heap.size + 1 + 1, j, none⟩ := fun j => World.cell?_of_block (hg5.block _ hq (fun e => hne e.symm))
  have hy : ∀ j, w5.frozen? ⟨w.heap.size + 1 + 1, j, none⟩ = w4.frozen? ⟨w.heap.size + 1 + 1, j, none⟩ := fun j => World.frozen?_of_block (hg5.block _ hq (fun e => hne e.symm))
  have r0 : w5.cell? ⟨w.heap.size + 1 + 1, 0, none⟩ = some (.int .i64 0) := (hx 0).trans ((hc1 _ _ (by simp)).trans (by simp [go_sem]))
  have r1 : w5.cell? ⟨w.heap.size + 1 + 1, 1, none⟩ = some (.int .u32 0) := (hx 1).trans ((hc1 _ _ (by simp)).trans (by simp [go_sem]))
  have r2 : w5.cell? ⟨w.heap.size + 1 + 1, 2, none⟩ = some (.slice none 0 0) := (hx 2).trans ((hc1 _ _ (by simp)).trans (by simp [go_sem]))
  have f0 : w5.frozen? ⟨w.heap.size + 1 + 1, 0, none⟩ = false := (hy 0).trans ((hf1 _ _ (by simp)).trans (by simp [go_sem]))
  have f1 : w5.frozen? ⟨w.heap.size + 1 + 1, 1, none⟩ = false := (hy 1).trans ((hf1 _ _ (by simp)).trans (by simp [go_sem]))
  have f2 : w5.frozen? ⟨w.heap.size + 1 + 1, 2, none⟩ = false := (hy 2).trans ((hf1 _ _ (by simp)).trans (by simp [go_sem]))
  have h3 := HM3.out
  have hb5 := Lib.hid (hbw.grown hg5 hbw.size (fun k hk => by have := (MadeX.lt h3 k hk).1; simp at hs1; omega))
  have hre : w5.heap[w.heap.size + 1 + 1]? = some (.cells #[.int .i64 0, .int .u32 0, .slice none 0 0] 36 (0, 0)) := (hg5.block _ hq (fun e => hne e.symm)).trans ((hb1.block (w.heap.size + 1 + 1) (by simp)).trans (third_new _ _ _ _))
  have HNU := Lib.hid (made_ne hM5 hre (by decide))
  have HNR := Lib.hid (made_ne hMr hre (by decide))
  have HM5 := Lib.hid hM5
  have HMr := Lib.hid hMr
  clear hx hy hc1 hf1 hre hbw hM5 hMr hg5 h3 hB4
  have mixed : Tryz.prog.follows Departure.mixedOrders = true := by kernel_rfl
  go_wp2
  obtain ⟨W6, hW6⟩ : ∃ W6, W6 = ((w5.setCell ⟨w.heap.size + 1 + 1, 0, none⟩ (.int .i64 x)).setCell ⟨w.heap.size + 1 + 1, 1, none⟩ (.int .u32 y)).setCell ⟨w.heap.size + 1 + 1, 2, none⟩ (.slice none 0 0) := ⟨_, rfl⟩
  rw [← hW6]
  have s0 : W6.cell? ⟨w.heap.size + 1 + 1, 0, none⟩ = some (.int .i64 x) := by rw [hW6]; simp [go_sem, r0]
  have s1 : W6.cell? ⟨w.heap.size + 1 + 1, 1, none⟩ = some (.int .u32 y) := by rw [hW6]; simp [go_sem, r1]
  have s2 : W6.cell? ⟨w.heap.size + 1 + 1, 2, none⟩ = some (.slice none 0 0) := by rw [hW6]; simp [go_sem, r2]
  have t0 : W6.frozen? ⟨w.heap.size + 1 + 1, 0, none⟩ = false := by rw [hW6]; simp [go_sem, f0]
  have t1 : W6.frozen? ⟨w.heap.size + 1 + 1, 1, none⟩ = false := by rw [hW6]; simp [go_sem, f1]
  have t2 : W6.frozen? ⟨w.heap.size + 1 + 1, 2, none⟩ = false := by rw [hW6]; simp [go_sem, f2]
  have HM6 := Lib.hid (show MadeX W6 w.heap.size 44 2 rowL u rows by rw [hW6]; exact made_stored3 HM5.out HNU.out _ _ _)
  have HM7 := Lib.hid (show MadeX W6 w.heap.size 44 2 rowL (.slice none 0 0) res by rw [hW6]; exact made_stored3 HMr.out HNR.out _ _ _)
  have hb6 := Lib.hid (show Below w.heap.size w W6 by rw [hW6]; exact ((hb5.out.setCell (by simp; omega) _).setCell (by simp; omega) _).setCell (by simp; omega) _)
  clear hW6 r0 r1 r2 f0 f1 f2
  go_region
  go_wp2
  refine bodyPost_ret (v := .tuple #[u, .agg #[.int .i64 x, .int .u32 y, .slice none 0 0], .int .i64 0]) ?_ rfl ⟨_, _, rfl, ?_, ?_, HAP.out, ?_⟩
  · simp [results, Tryz.results72, go_sem, s0, s1, s2]
  · exact made_stored3 (MadeX.below HM6.out (below_drew _)) HNU.out _ _ _
  · exact made_stored3 (MadeX.below HM7.out (below_drew _)) HNR.out _ _ _
  · exact ((hb6.out.drew.setCell (by simp; omega) _).setCell (by simp; omega) _).setCell (by simp; omega) _

set_option maxRecDepth 100000 in
set_option maxHeartbeats 4000000 in
theorem odo_floor (c : Cf) (A : Option Addr) (l : List R) (d : Nat) (o : O) (ho : Wf o) (hAn : A = none → l.length = 0 ∧ d = 0) (hl : l.length ≤ 100000) (ht : IsOr c l) (hk : o.k = 7) (hgood : chk c o = 0) (w : World) (hp : Obs w) (h : IsR w A l) :
    Calls Tryz.prog 72 #[cfv c, .slice A l.length d, opv o] w (Did7 (l, (if flo l o.a = [] then 6 else 0), 0, flo l o.a) 0 w) := by
  have HM := Lib.hid (oisOf_any c)
  have hg : Ok c ∧ c.obj = 2 := ⟨ht.1, ht.2.1⟩
  rw [decide_eq_true hg] at HM
  obtain ⟨cap, hcap⟩ : ∃ cap : Nat, c.cap = cap := by
    have hb := hg.1.2.2
    unfold RestOk at hb
    exact ⟨c.cap.toNat, by omega⟩
  have HR := Lib.hid (fun W hA => oare_any c A l d (by omega) W hA)
  have e : decide ((l.length : Int) ≤ c.cap ∧ Up l ∧ ∀ x ∈ l, OrOk x) = true := decide_eq_true ⟨ht.2.2.1, ht.2.2.2.1, ht.2.2.2.2⟩
  rw [e] at HR
  have HA := Lib.hid h
  have HCL := Lib.hid (fun W hA => clone_any A l d (by omega) hAn W hA)
  have HCK := Lib.hid (check_op c o ho)
  have HP := Lib.hid hp
  have hob := hg.2
  have hlc : l.length ≤ cap := by have := ht.2.2.1; omega
  have HV := Lib.hid (And.intro ht.2.2.2.1 (show ∀ x ∈ l, x.2 ≤ 2147483647 from fun x hx => (ht.2.2.2.2 x hx).2))
  have hfit := fits_two hob hgood
  rw [hgood] at HCK
  have HI := Lib.hid (fun W A' d' (hd' : l.length ≤ d' ∧ d' ≤ 9223372036854775807) (hAn' : A' = none → l.length = 0 ∧ d' = 0) (hA : IsR W A' l) (hAd : ∀ ad, A' = some ad → ad.block < W.heap.size) => ofloor_any A' l d' o (by omega) (by omega) HV.out.1 W hA)
  obtain ⟨res, hres⟩ : ∃ res, flo l o.a = res := ⟨_, rfl⟩
  obtain ⟨x, hx⟩ : ∃ x : Int, (if flo l o.a = [] then 6 else 0) = x := ⟨_, rfl⟩
  rw [hx] at HI ⊢
  rw [hres] at HI ⊢
  clear hx hres
  obtain ⟨rows, hrows⟩ : ∃ rows, rows = l := ⟨_, rfl⟩
  have HRO := Lib.hid hrows
  have e2 : (l, (x : Int), (0 : Int), res) = (rows, x, 0, res) := by rw [hrows]
  rw [e2]
  clear hrows e2
  clear e h ht hAn ho hp hg hgood hfit
  unfold cfv opv at *
  rw [hob] at HM HR HCK ⊢
  rw [hcap] at HM HR HCK ⊢
  rw [hk] at HCK HI ⊢
  clear hob hcap hk
  generalize hN : l.length = N at *
  have HNL := Lib.hid hN
  clear hN
  go_enter Tryz.func72, Tryz.ntmps72
  go_wp2_with (first
    | (go_at_call 73; refine (HM.out _).mono ?_; rintro e w1 ⟨rfl, hb1⟩; obtain ⟨hc1, hf1⟩ := bcell hb1)
    | (go_at_call 74; refine (HR.out _ (HA.out.below (below_then (below_three _ _ _ _) hb1))).mono ?_; rintro e w2 ⟨rfl, hb2⟩; replace hb1 := below_then hb1 hb2; clear hc1 hf1 hb2; obtain ⟨hc1, hf1⟩ := bcell hb1)
    | (go_at_call 46; refine (HCL.out _ (HA.out.below (below_then (below_three _ _ _ _) hb1))).mono ?_; rintro e w3 ⟨u3, rfl, hM3, hb3⟩; have hs1 := hb1.size; replace hb1 := below_then hb1 hb3; clear hc1 hf1 hb3; obtain ⟨hc1, hf1⟩ := bcell hb1; have HM3 := Lib.hid hM3; clear hM3)
    | (go_at_call 7; refine (HCK.out _ (HP.out.below (below_then (below_three _ _ _ _) hb1))).mono ?_; rintro e w4 ⟨rfl, hb4⟩; replace hb1 := below_then hb1 hb4; clear hc1 hf1; obtain ⟨hc1, hf1⟩ := bcell hb1))
  have HM4 := Lib.hid (HM3.out.below hb4)
  have hne : u3.ownBlock ≠ some (w.heap.size + 1 + 1) := fun e => by
    have := (MadeX.lt HM3.out _ e).1
    simp at hs1; omega
  have hq : w.heap.size + 1 + 1 < w4.heap.size := by have := hb1.size; simp at this; omega
  have hbw := below_then (below_three _ _ _ _) hb1
  have hB4 : MadeX w4 w.heap.size 44 2 rowL u3 l := MadeX.down' HM4.out (by simp at hs1; omega)
  obtain ⟨A', d', hu3, hd', hAn', hA'⟩ := MadeX.form rowL_len HM4.out
  rw [HNL.out] at hu3 hd' hAn'
  have HU3 := Lib.hid hu3
  have hlt4 := fun k hk => (MadeX.lt HM4.out k hk).2
  rw [hu3] at hlt4
  rw [hu3]
  refine (HI.out w4 A' d' hd' hAn' hA' (fun ad e => hlt4 ad.block (by rw [e]; rfl))).mono ?_
  rintro e w5 ⟨r, rfl, hMr4, hbl⟩
  obtain ⟨u, hu⟩ : ∃ u, u = u3 := ⟨_, rfl⟩
  rw [← hu3]
  have hg5 : w4.grownBy w5 u3.ownBlock := grown_below hbl _
  have hM5 : MadeX w5 w.heap.size 44 2 rowL u rows := by rw [HRO.out, hu]; exact MadeX.below hB4 hbl
  have hMr := MadeX.down' hMr4 hbw.size
  have HAP := Lib.hid (show u.ownBlock = none ∨ u.ownBlock ≠ r.ownBlock by
    cases hh : u.ownBlock with
    | none => exact .inl rfl
    | some b =>
      refine .inr fun e => ?_
      have h1 := (MadeX.lt hMr4 b e.symm).1
      rw [hu, hu3] at hh
      have h2 := hlt4 b hh
      omega)
  obtain ⟨A5, c5, rfl, _⟩ := MadeX.form rowL_len hMr
  obtain ⟨M, hM⟩ : ∃ M, res.length = M := ⟨_, rfl⟩
  rw [hM] at hMr hMr4 HAP ⊢
  clear hu3 hd' hAn' hA' hlt4 hbl hMr4 hM
  subst hu
  have hx : ∀ j, w5.cell? ⟨w.heap.size + 1 + 1, j, none⟩ = w4.cell? ⟨w.heap.size + 1 + 1, j, none⟩ := fun j => World.cell?_of_block (hg5.block _ hq (fun e => hne e.symm))
  have hy : ∀ j, w5.frozen? ⟨w.heap.size + 1 + 1, j, none⟩ = w4.frozen? ⟨w.heap.size + 1 + 1, j, none⟩ := fun j => World.frozen?_of_block (hg5.block _ hq (fun e => hne e.symm))
  have r0 : w5.cell? ⟨w.heap.size + 1 + 1, 0, none⟩ = some (.int .i64 0) := (hx 0).trans ((hc1 _ _ (by simp)).trans (by simp [go_sem]))
  have r1 : w5.cell? ⟨w.heap.size + 1 + 1, 1, none⟩ = some (.int .u32 0) := (hx 1).trans ((hc1 _ _ (by simp)).trans (by simp [go_sem]))
  have r2 : w5.cell? ⟨w.heap.size + 1 + 1, 2, none⟩ = some (.slice none 0 0) := (hx 2).trans ((hc1 _ _ (by simp)).trans (by simp [go_sem]))
  have f0 : w5.frozen? ⟨w.heap.size + 1 + 1, 0, none⟩ = false := (hy 0).trans ((hf1 _ _ (by simp)).trans (by simp [go_sem]))
  have f1 : w5.frozen? ⟨w.heap.size + 1 + 1, 1, none⟩ = false := (hy 1).trans ((hf1 _ _ (by simp)).trans (by simp [go_sem]))
  have f2 : w5.frozen? ⟨w.heap.size + 1 + 1, 2, none⟩ = false := (hy 2).trans ((hf1 _ _ (by simp)).trans (by simp [go_sem]))
  have h3 := HM3.out
  have hb5 := Lib.hid (hbw.grown hg5 hbw.size (fun k hk => by have := (MadeX.lt h3 k hk).1; simp at hs1; omega))
  have hre : w5.heap[w.heap.size + 1 + 1]? = some (.cells #[.int .i64 0, .int .u32 0, .slice none 0 0] 36 (0, 0)) := (hg5.block _ hq (fun e => hne e.symm)).trans ((hb1.block (w.heap.size + 1 + 1) (by simp)).trans (third_new _ _ _ _))
  have HNU := Lib.hid (made_ne hM5 hre (by decide))
  have HNR := Lib.hid (made_ne hMr hre (by decide))
  have HM5 := Lib.hid hM5
  have HMr := Lib.hid hMr
  clear hx hy hc1 hf1 hre hbw hM5 hMr hg5 h3 hB4
  have mixed : Tryz.prog.follows Departure.mixedOrders = true := by kernel_rfl
  go_wp2
  obtain ⟨W6, hW6⟩ : ∃ W6, W6 = ((w5.setCell ⟨w.heap.size + 1 + 1, 0, none⟩ (.int .i64 x)).setCell ⟨w.heap.size + 1 + 1, 1, none⟩ (.int .u32 0)).setCell ⟨w.heap.size + 1 + 1, 2, none⟩ (.slice A5 M c5) := ⟨_, rfl⟩
  rw [← hW6]
  have s0 : W6.cell? ⟨w.heap.size + 1 + 1, 0, none⟩ = some (.int .i64 x) := by rw [hW6]; simp [go_sem, r0]
  have s1 : W6.cell? ⟨w.heap.size + 1 + 1, 1, none⟩ = some (.int .u32 0) := by rw [hW6]; simp [go_sem, r1]
  have s2 : W6.cell? ⟨w.heap.size + 1 + 1, 2, none⟩ = some (.slice A5 M c5) := by rw [hW6]; simp [go_sem, r2]
  have t0 : W6.frozen? ⟨w.heap.size + 1 + 1, 0, none⟩ = false := by rw [hW6]; simp [go_sem, f0]
  have t1 : W6.frozen? ⟨w.heap.size + 1 + 1, 1, none⟩ = false := by rw [hW6]; simp [go_sem, f1]
  have t2 : W6.frozen? ⟨w.heap.size + 1 + 1, 2, none⟩ = false := by rw [hW6]; simp [go_sem, f2]
  have HM6 := Lib.hid (show MadeX W6 w.heap.size 44 2 rowL u rows by rw [hW6]; exact made_stored3 HM5.out HNU.out _ _ _)
  have HM7 := Lib.hid (show MadeX W6 w.heap.size 44 2 rowL (.slice A5 M c5) res by rw [hW6]; exact made_stored3 HMr.out HNR.out _ _ _)
  have hb6 := Lib.hid (show Below w.heap.size w W6 by rw [hW6]; exact ((hb5.out.setCell (by simp; omega) _).setCell (by simp; omega) _).setCell (by simp; omega) _)
  clear hW6 r0 r1 r2 f0 f1 f2
  go_region
  go_wp2
  refine bodyPost_ret (v := .tuple #[u, .agg #[.int .i64 x, .int .u32 0, .slice A5 M c5], .int .i64 0]) ?_ rfl ⟨_, _, rfl, ?_, ?_, HAP.out, ?_⟩
  · simp [results, Tryz.results72, go_sem, s0, s1, s2]
  · exact made_stored3 (MadeX.below HM6.out (below_drew _)) HNU.out _ _ _
  · exact made_stored3 (MadeX.below HM7.out (below_drew _)) HNR.out _ _ _
  · exact ((hb6.out.drew.setCell (by simp; omega) _).setCell (by simp; omega) _).setCell (by simp; omega) _

set_option maxRecDepth 100000 in
set_option maxHeartbeats 4000000 in
theorem odo_scan (c : Cf) (A : Option Addr) (l : List R) (d : Nat) (o : O) (ho : Wf o) (hAn : A = none → l.length = 0 ∧ d = 0) (hl : l.length ≤ 100000) (ht : IsOr c l) (hk : o.k = 8) (hgood : chk c o = 0) (w : World) (hp : Obs w) (h : IsR w A l) :
    Calls Tryz.prog 72 #[cfv c, .slice A l.length d, opv o] w (Did7 (l, 0, 0, scan l o.a o.b) 0 w) := by
  have HM := Lib.hid (oisOf_any c)
  have hg : Ok c ∧ c.obj = 2 := ⟨ht.1, ht.2.1⟩
  rw [decide_eq_true hg] at HM
  obtain ⟨cap, hcap⟩ : ∃ cap : Nat, c.cap = cap := by
    have hb := hg.1.2.2
    unfold RestOk at hb
    exact ⟨c.cap.toNat, by omega⟩
  have HR := Lib.hid (fun W hA => oare_any c A l d (by omega) W hA)
  have e : decide ((l.length : Int) ≤ c.cap ∧ Up l ∧ ∀ x ∈ l, OrOk x) = true := decide_eq_true ⟨ht.2.2.1, ht.2.2.2.1, ht.2.2.2.2⟩
  rw [e] at HR
  have HA := Lib.hid h
  have HCL := Lib.hid (fun W hA => clone_any A l d (by omega) hAn W hA)
  have HCK := Lib.hid (check_op c o ho)
  have HP := Lib.hid hp
  have hob := hg.2
  have hlc : l.length ≤ cap := by have := ht.2.2.1; omega
  have HV := Lib.hid (And.intro ht.2.2.2.1 (show ∀ x ∈ l, x.2 ≤ 2147483647 from fun x hx => (ht.2.2.2.2 x hx).2))
  have hfit := fits_two hob hgood
  rw [hgood] at HCK
  have HI := Lib.hid (fun W A' d' (hd' : l.length ≤ d' ∧ d' ≤ 9223372036854775807) (hAn' : A' = none → l.length = 0 ∧ d' = 0) (hA : IsR W A' l) (hAd : ∀ ad, A' = some ad → ad.block < W.heap.size) => oscan_any A' l d' hd' hAn' o ho (by omega) HV.out.1 W hA hAd)
  obtain ⟨res, hres⟩ : ∃ res, scan l o.a o.b = res := ⟨_, rfl⟩
  rw [hres] at HI ⊢
  clear hres
  obtain ⟨rows, hrows⟩ : ∃ rows, rows = l := ⟨_, rfl⟩
  have HRO := Lib.hid hrows
  have e2 : (l, (0 : Int), (0 : Int), res) = (rows, 0, 0, res) := by rw [hrows]
  rw [e2]
  clear hrows e2
  clear e h ht hAn ho hp hg hgood hfit
  unfold cfv opv at *
  rw [hob] at HM HR HCK ⊢
  rw [hcap] at HM HR HCK ⊢
  rw [hk] at HCK HI ⊢
  clear hob hcap hk
  generalize hN : l.length = N at *
  have HNL := Lib.hid hN
  clear hN
  go_enter Tryz.func72, Tryz.ntmps72
  go_wp2_with (first
    | (go_at_call 73; refine (HM.out _).mono ?_; rintro e w1 ⟨rfl, hb1⟩; obtain ⟨hc1, hf1⟩ := bcell hb1)
    | (go_at_call 74; refine (HR.out _ (HA.out.below (below_then (below_three _ _ _ _) hb1))).mono ?_; rintro e w2 ⟨rfl, hb2⟩; replace hb1 := below_then hb1 hb2; clear hc1 hf1 hb2; obtain ⟨hc1, hf1⟩ := bcell hb1)
    | (go_at_call 46; refine (HCL.out _ (HA.out.below (below_then (below_three _ _ _ _) hb1))).mono ?_; rintro e w3 ⟨u3, rfl, hM3, hb3⟩; have hs1 := hb1.size; replace hb1 := below_then hb1 hb3; clear hc1 hf1 hb3; obtain ⟨hc1, hf1⟩ := bcell hb1; have HM3 := Lib.hid hM3; clear hM3)
    | (go_at_call 7; refine (HCK.out _ (HP.out.below (below_then (below_three _ _ _ _) hb1))).mono ?_; rintro e w4 ⟨rfl, hb4⟩; replace hb1 := below_then hb1 hb4; clear hc1 hf1; obtain ⟨hc1, hf1⟩ := bcell hb1))
  have HM4 := Lib.hid (HM3.out.below hb4)
  have hne : u3.ownBlock ≠ some (w.heap.size + 1 + 1) := fun e => by
    have := (MadeX.lt HM3.out _ e).1
    simp at hs1; omega
  have hq : w.heap.size + 1 + 1 < w4.heap.size := by have := hb1.size; simp at this; omega
  have hbw := below_then (below_three _ _ _ _) hb1
  have hB4 : MadeX w4 w.heap.size 44 2 rowL u3 l := MadeX.down' HM4.out (by simp at hs1; omega)
  obtain ⟨A', d', hu3, hd', hAn', hA'⟩ := MadeX.form rowL_len HM4.out
  rw [HNL.out] at hu3 hd' hAn'
  have HU3 := Lib.hid hu3
  have hlt4 := fun k hk => (MadeX.lt HM4.out k hk).2
  rw [hu3] at hlt4
  rw [hu3]
  refine (HI.out w4 A' d' hd' hAn' hA' (fun ad e => hlt4 ad.block (by rw [e]; rfl))).mono ?_
  rintro e w5 ⟨r, rfl, hMr4, hbl⟩
  obtain ⟨u, hu⟩ : ∃ u, u = u3 := ⟨_, rfl⟩
  rw [← hu3]
  have hg5 : w4.grownBy w5 u3.ownBlock := grown_below hbl _
  have hM5 : MadeX w5 w.heap.size 44 2 rowL u rows := by rw [HRO.out, hu]; exact MadeX.below hB4 hbl
  have hMr := MadeX.down' hMr4 hbw.size
  have HAP := Lib.hid (show u.ownBlock = none ∨ u.ownBlock ≠ r.ownBlock by
    cases hh : u.ownBlock with
    | none => exact .inl rfl
    | some b =>
      refine .inr fun e => ?_
      have h1 := (MadeX.lt hMr4 b e.symm).1
      rw [hu, hu3] at hh
      have h2 := hlt4 b hh
      omega)
  obtain ⟨A5, c5, rfl, _⟩ := MadeX.form rowL_len hMr
  obtain ⟨M, hM⟩ : ∃ M, res.length = M := ⟨_, rfl⟩
  rw [hM] at hMr hMr4 HAP ⊢
  clear hu3 hd' hAn' hA' hlt4 hbl hMr4 hM
  subst hu
  have hx : ∀ j, w5.cell? ⟨w.heap.size + 1 + 1, j, none⟩ = w4.cell? ⟨w.heap.size + 1 + 1, j, none⟩ := fun j => World.cell?_of_block (hg5.block _ hq (fun e => hne e.symm))
  have hy : ∀ j, w5.frozen? ⟨w.heap.size + 1 + 1, j, none⟩ = w4.frozen? ⟨w.heap.size + 1 + 1, j, none⟩ := fun j => World.frozen?_of_block (hg5.block _ hq (fun e => hne e.symm))
  have r0 : w5.cell? ⟨w.heap.size + 1 + 1, 0, none⟩ = some (.int .i64 0) := (hx 0).trans ((hc1 _ _ (by simp)).trans (by simp [go_sem]))
  have r1 : w5.cell? ⟨w.heap.size + 1 + 1, 1, none⟩ = some (.int .u32 0) := (hx 1).trans ((hc1 _ _ (by simp)).trans (by simp [go_sem]))
  have r2 : w5.cell? ⟨w.heap.size + 1 + 1, 2, none⟩ = some (.slice none 0 0) := (hx 2).trans ((hc1 _ _ (by simp)).trans (by simp [go_sem]))
  have f0 : w5.frozen? ⟨w.heap.size + 1 + 1, 0, none⟩ = false := (hy 0).trans ((hf1 _ _ (by simp)).trans (by simp [go_sem]))
  have f1 : w5.frozen? ⟨w.heap.size + 1 + 1, 1, none⟩ = false := (hy 1).trans ((hf1 _ _ (by simp)).trans (by simp [go_sem]))
  have f2 : w5.frozen? ⟨w.heap.size + 1 + 1, 2, none⟩ = false := (hy 2).trans ((hf1 _ _ (by simp)).trans (by simp [go_sem]))
  have h3 := HM3.out
  have hb5 := Lib.hid (hbw.grown hg5 hbw.size (fun k hk => by have := (MadeX.lt h3 k hk).1; simp at hs1; omega))
  have hre : w5.heap[w.heap.size + 1 + 1]? = some (.cells #[.int .i64 0, .int .u32 0, .slice none 0 0] 36 (0, 0)) := (hg5.block _ hq (fun e => hne e.symm)).trans ((hb1.block (w.heap.size + 1 + 1) (by simp)).trans (third_new _ _ _ _))
  have HNU := Lib.hid (made_ne hM5 hre (by decide))
  have HNR := Lib.hid (made_ne hMr hre (by decide))
  have HM5 := Lib.hid hM5
  have HMr := Lib.hid hMr
  clear hx hy hc1 hf1 hre hbw hM5 hMr hg5 h3 hB4
  have mixed : Tryz.prog.follows Departure.mixedOrders = true := by kernel_rfl
  go_wp2
  obtain ⟨W6, hW6⟩ : ∃ W6, W6 = ((w5.setCell ⟨w.heap.size + 1 + 1, 0, none⟩ (.int .i64 0)).setCell ⟨w.heap.size + 1 + 1, 1, none⟩ (.int .u32 0)).setCell ⟨w.heap.size + 1 + 1, 2, none⟩ (.slice A5 M c5) := ⟨_, rfl⟩
  rw [← hW6]
  have s0 : W6.cell? ⟨w.heap.size + 1 + 1, 0, none⟩ = some (.int .i64 0) := by rw [hW6]; simp [go_sem, r0]
  have s1 : W6.cell? ⟨w.heap.size + 1 + 1, 1, none⟩ = some (.int .u32 0) := by rw [hW6]; simp [go_sem, r1]
  have s2 : W6.cell? ⟨w.heap.size + 1 + 1, 2, none⟩ = some (.slice A5 M c5) := by rw [hW6]; simp [go_sem, r2]
  have t0 : W6.frozen? ⟨w.heap.size + 1 + 1, 0, none⟩ = false := by rw [hW6]; simp [go_sem, f0]
  have t1 : W6.frozen? ⟨w.heap.size + 1 + 1, 1, none⟩ = false := by rw [hW6]; simp [go_sem, f1]
  have t2 : W6.frozen? ⟨w.heap.size + 1 + 1, 2, none⟩ = false := by rw [hW6]; simp [go_sem, f2]
  have HM6 := Lib.hid (show MadeX W6 w.heap.size 44 2 rowL u rows by rw [hW6]; exact made_stored3 HM5.out HNU.out _ _ _)
  have HM7 := Lib.hid (show MadeX W6 w.heap.size 44 2 rowL (.slice A5 M c5) res by rw [hW6]; exact made_stored3 HMr.out HNR.out _ _ _)
  have hb6 := Lib.hid (show Below w.heap.size w W6 by rw [hW6]; exact ((hb5.out.setCell (by simp; omega) _).setCell (by simp; omega) _).setCell (by simp; omega) _)
  clear hW6 r0 r1 r2 f0 f1 f2
  go_region
  go_wp2
  refine bodyPost_ret (v := .tuple #[u, .agg #[.int .i64 0, .int .u32 0, .slice A5 M c5], .int .i64 0]) ?_ rfl ⟨_, _, rfl, ?_, ?_, HAP.out, ?_⟩
  · simp [results, Tryz.results72, go_sem, s0, s1, s2]
  · exact made_stored3 (MadeX.below HM6.out (below_drew _)) HNU.out _ _ _
  · exact made_stored3 (MadeX.below HM7.out (below_drew _)) HNR.out _ _ _
  · exact ((hb6.out.drew.setCell (by simp; omega) _).setCell (by simp; omega) _).setCell (by simp; omega) _

theorem odo_any (c : Cf) (A : Option Addr) (l : List R) (d : Nat) (o : O) (ho : Wf o) (hAn : A = none → l.length = 0 ∧ d = 0) (hl : l.length ≤ 100000) (w : World) (hp : Obs w) (h : IsR w A l) :
    Calls Tryz.prog 72 #[cfv c, .slice A l.length d, opv o] w (Did7 (doOR c l o) (doOE c l) w) := by
  by_cases h1 : Ok c ∧ c.obj = 2
  · by_cases h2 : IsOr c l
    · have e2 : doOE c l = 0 := by unfold doOE; rw [if_neg (not_not_intro h1), if_neg (not_not_intro h2)]
      rw [e2]
      by_cases h3 : chk c o = 0
      · rw [doOR_done h2 h3]
        have hf := fits_two h1.2 h3
        rcases (by omega : o.k = 4 ∨ o.k = 5 ∨ o.k = 6 ∨ o.k = 7 ∨ o.k = 8) with hk | hk | hk | hk | hk
        · have e : doneO c.cap.toNat l o.k o.a o.b = ((putR c.cap.toNat l o.a o.b).1, (putR c.cap.toNat l o.a o.b).2.1, (putR c.cap.toNat l o.a o.b).2.2, []) := by
            rw [hk, doneO_put]; unfold putR; cases Tb.get l o.a with
            | some u => rfl
            | none => dsimp only; split <;> rfl
          rw [e]; exact odo_put c A l d o ho hAn hl h2 hk h3 w hp h
        · have e : doneO c.cap.toNat l o.k o.a o.b = ((takeR l o.a).1, (takeR l o.a).2.1, (takeR l o.a).2.2, []) := by
            rw [hk, doneO_cut]; unfold takeR; cases Tb.get l o.a <;> rfl
          rw [e]; exact odo_take c A l d o ho hAn hl h2 hk h3 w hp h
        · have e : doneO c.cap.toNat l o.k o.a o.b = (l, (getR l o.a).1, (getR l o.a).2, []) := by
            rw [hk, doneO_read (by decide), getR_read]
          rw [e]; exact odo_get c A l d o ho hAn hl h2 hk h3 w hp h
        · have e : doneO c.cap.toNat l o.k o.a o.b = (l, (if flo l o.a = [] then 6 else 0), 0, flo l o.a) := by
            rw [hk, doneO_read (by decide)]; rfl
          rw [e]; exact odo_floor c A l d o ho hAn hl h2 hk h3 w hp h
        · have e : doneO c.cap.toNat l o.k o.a o.b = (l, 0, 0, scan l o.a o.b) := by
            rw [hk, doneO_read (by decide)]; rfl
          rw [e]; exact odo_scan c A l d o ho hAn hl h2 hk h3 w hp h
      · rw [doOR_bad h2 h3]
        exact odo_bad c A l d o ho hAn hl h2 h3 w hp h
    · rw [doOR_none o h2]
      have e2 : doOE c l = 2 := by unfold doOE; rw [if_neg (not_not_intro h1), if_pos h2]
      rw [e2]
      exact odo_arg c A l d o (by omega) h1 h2 w h
  · rw [doOR_none o (fun g => h1 ⟨g.1, g.2.1⟩)]
    have e2 : doOE c l = 40 := by unfold doOE; rw [if_pos h1]
    rw [e2]
    exact odo_conf c A l.length d o h1 w
end Go.Proofs.YtnepdbfnbikplaaGreatDoor
