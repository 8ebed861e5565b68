/- sort.Search over a method value: what it is bound to stands ahead of the number. Where a key stands in an index's rows, and whether it is there: the program's own search. -/
import Derived.Test.YtohllaolbebogaaDoorTbPos
import Derived.Deep.LoopGhost
import Derived.Shelf.Abstract
namespace Go.Proofs.YtohllaolbebogaaDoor
open Go.RowKit Go.Shelf Tb

/-- A method value that says of each number below n whether .., and only makes memory. -/
def SaysM (f : Nat) (bd : Array Value) (n : Nat) (pr : Nat → Bool) (w : World) : Prop := ∀ (i : Nat) (A : World), i < n → Below w.heap.size w A → Calls Tryd.prog f (bd ++ #[.int .i64 i]) A (Ret (.bool (pr i)) A)

set_option maxHeartbeats 1000000 in
/-- The first number that it says yes to, of numbers that rise. -/
theorem searchM_any (f : Nat) (b : Value) (n : Nat) (hn : n ≤ 1000000) (pr : Nat → Bool) (w : World) (ef : ∀ args w, (callFunc f args).run Tryd.prog w = .ok (.enter f args) w)
    (hm : ∀ i j, i ≤ j → j < n → pr i = true → pr j = true) (hf : SaysM f #[b] n pr w) :
    Calls Tryd.prog 57 #[.int .i64 n, .func (.func f) #[b] #[]] w fun e w' => ∃ k : Nat, e = .returned (.int .i64 k) ∧ k ≤ n ∧ (∀ j, j < k → pr j = false) ∧ (k < n → pr k = true) ∧ Below w.heap.size w w' := by
  have HF := Lib.hid hf
  have HM := Lib.hid hm
  clear hf hm
  go_enter Tryd.func57, Tryd.ntmps57
  go_wp2
  go_loopg [5, 6] n (fun g lv hv wr => ∃ lo hi : Nat, g = hi - lo ∧ lv = .int .i64 lo ∧ hv = .int .i64 hi ∧ lo ≤ hi ∧ hi ≤ n ∧ Hid ((∀ j, j < lo → pr j = false) ∧ (hi < n → pr hi = true)) ∧ Below w.heap.size w wr)
  case atStart => exact ⟨0, n, by omega, rfl, rfl, by omega, Nat.le_refl _, Lib.hid ⟨fun j hj => by omega, fun h => by omega⟩, Below.refl _ _⟩
  case round =>
    obtain ⟨lo, hi, rfl, rfl, rfl, h1, h2, hI, hbr⟩ := hrel
    by_cases hlt : lo < hi
    · have hc := HF.out ((lo + hi) / 2) wr (by omega) hbr
      have ei : (((lo + hi) / 2 : Nat) : Int) = ((lo : Int) + (hi : Int)) / 2 := by omega
      cases hp : pr ((lo + hi) / 2) with
      | false =>
        have HP := Lib.hid hp
        rw [hp] at hc
        rw [ei] at hc
        have HC := Lib.hid hc
        clear hp hc
        go_wp2_with fail
        refine HC.out.mono ?_
        rintro e w2 ⟨rfl, hb2⟩
        go_wp2
        go_roundg (hi - ((lo + hi) / 2 + 1))
        case measure => omega
        case rel =>
          refine ⟨(lo + hi) / 2 + 1, hi, rfl, by go_num, rfl, by omega, h2, Lib.hid ⟨fun j hj => ?_, hI.out.2⟩, below_then hbr hb2⟩
          cases e : pr j with
          | false => rfl
          | true => exact absurd (HM.out j ((lo + hi) / 2) (by omega) (by omega) e) (by rw [HP.out]; simp)
      | true =>
        have HP := Lib.hid hp
        rw [hp] at hc
        rw [ei] at hc
        have HC := Lib.hid hc
        clear hp hc
        go_wp2_with fail
        refine HC.out.mono ?_
        rintro e w2 ⟨rfl, hb2⟩
        go_wp2
        go_roundg ((lo + hi) / 2 - lo)
        case measure => omega
        case rel =>
          exact ⟨lo, (lo + hi) / 2, rfl, rfl, by go_num, by omega, by omega, Lib.hid ⟨hI.out.1, fun _ => HP.out⟩, below_then hbr hb2⟩
    · obtain rfl : hi = lo := by omega
      go_wp2
      go_ret
      exact ⟨hi, rfl, h2, hI.out.1, hI.out.2, hbr⟩

set_option maxHeartbeats 1000000 in
/-- A key is reached. -/
theorem reached_any (A : Option Addr) (l : List R) (c i : Nat) (_ : l.length ≤ 1000000) (hi : i < l.length) (k : Nat) (w : World) (h : IsR w A l) :
    Calls Tryd.prog 58 #[.agg #[.int .u64 k, .slice A l.length c], .int .i64 i] w (Ret (.bool (decide (k ≤ l[i].1))) w) := by
  obtain ⟨b, off, rfl, h1, h2⟩ := h.row hi
  obtain ⟨x, hx⟩ : ∃ x, l[i].1 = x := ⟨_, rfl⟩
  rw [hx] at h1 ⊢
  clear h2 hx h
  have hbs : b < w.heap.size := World.block_lt_of_cell? _ _ h1
  have i1 : (0 : Int) ≤ (i : Int) := by omega
  have i2 : (i : Int) < (l.length : Int) := by omega
  generalize l.length = N at *
  clear hi
  go_enter Tryd.func58, Tryd.ntmps58
  have mixed : Tryd.prog.follows Departure.mixedOrders = true := by kernel_rfl
  go_wp2
  go_region
  go_wp2
  go_ret
  refine Ret.mk (bool_eq ?_) (below_one _ _).drew
  rw [Bool.eq_iff_iff]

theorem pos_of_search {l : List R} {k i : Nat} (hi : i ≤ l.length) (h1 : ∀ j, j < i → (if h : j < l.length then decide (k ≤ l[j].1) else true) = false) (h2 : i < l.length → (if h : i < l.length then decide (k ≤ l[i].1) else true) = true) (hu : Up l) : pos l k = i := by
  refine pos_of hi (fun m hm hmi => ?_) (fun m hm hmi => ?_)
  · have := h1 m hmi
    rw [dif_pos hm] at this
    simpa using this
  · have h3 := h2 (by omega)
    rw [dif_pos (show i < l.length by omega)] at h3
    have h4 : k ≤ l[i].1 := by simpa using h3
    by_cases e : m = i
    · subst e; exact h4
    · have := up_lt hu (i := i) (j := m) (by omega) hm; omega

set_option maxHeartbeats 4000000 in
/-- The program's own search. -/
theorem oseek_any (A : Option Addr) (l : List R) (c : Nat) (hl : l.length ≤ 1000000) (hu : Up l) (k : Nat) (hk : k < 4294967296) (w : World) (h : IsR w A l) :
    Calls Tryd.prog 38 #[.slice A l.length c, .int .u32 k] w (Ret2 (.int .i64 (pos l k)) (.bool (Tb.get l k).isSome) w) := by
  have HS := Lib.hid (show ∀ W, IsR W A l → Calls Tryd.prog 57 #[.int .i64 l.length, .func (.func 58) #[.agg #[.int .u64 k, .slice A l.length c]] #[]] W (Ret (.int .i64 (pos l k)) W) from fun W hW => by
    refine (searchM_any 58 (.agg #[.int .u64 k, .slice A l.length c]) l.length hl (fun j => if h : j < l.length then decide (k ≤ l[j].1) else true) W (enters_of Tryd.func58 (by kernel_rfl) rfl) ?_ ?_).mono ?_
    · intro i j hij hj hp
      rw [dif_pos (show i < l.length by omega)] at hp
      rw [dif_pos hj]
      have h4 : k ≤ l[i].1 := by simpa using hp
      by_cases e : j = i
      · subst e; simpa using h4
      · have := up_lt hu (i := i) (j := j) (by omega) hj
        simp; omega
    · intro i A' hi hb
      have := reached_any A l c i hl hi k A' (hW.below hb)
      show Calls _ _ _ A' (Ret (.bool (if h : i < l.length then decide (k ≤ l[i].1) else true)) A')
      rw [dif_pos hi]
      exact this
    · rintro e w' ⟨i, rfl, h1, h2, h3, hb⟩
      exact ⟨by rw [pos_of_search h1 h2 h3 hu], hb⟩)
  have HA := Lib.hid h
  have HU := Lib.hid hu
  have hp := pos_get hu k
  have hpl := pos_le l k
  clear h hu
  obtain ⟨N, hN⟩ : ∃ N, l.length = N := ⟨_, rfl⟩
  have HN := Lib.hid hN
  have hkw : IntKind.u64.wrap (k : Int) = (k : Int) := by rw [IntKind.wrap_u64]; omega
  obtain ⟨p, hpp⟩ : ∃ p, pos l k = p := ⟨_, rfl⟩
  obtain ⟨s, hs⟩ : ∃ s, (Tb.get l k).isSome = s := ⟨_, rfl⟩
  rw [hpp] at HS hpl ⊢
  rw [hs]
  rw [hN] at HS hl hpl ⊢
  have HPP := Lib.hid (And.intro hpp hs)
  have mixed : Tryd.prog.follows Departure.mixedOrders = true := by kernel_rfl
  by_cases hpN : p < N
  · have hj : p < l.length := by rw [HN.out]; exact hpN
    have i1 : (0 : Int) ≤ (p : Int) := by omega
    have i2 : (p : Int) < (N : Int) := by omega
    have HQ := Lib.hid (show decide ((l[p]'hj).1 = k) = s from by
      rcases hp with ⟨g1, g2⟩ | ⟨hm, g1, g2⟩
      · rw [← hs, g1]
        simp only [hpp] at g2
        exact decide_eq_false (g2 hj)
      · rw [← hs, g2]
        simp only [hpp] at g1
        exact decide_eq_true g1)
    obtain ⟨b, off, rfl, x1, x2⟩ := HA.out.row hj
    obtain ⟨x, hx⟩ : ∃ x, (l[p]'hj).1 = x := ⟨_, rfl⟩
    rw [hx] at x1 HQ
    clear hp hpp hs hN hpl hx x2 hj
    have hbs : b < w.heap.size := World.block_lt_of_cell? _ _ x1
    go_enter Tryd.func38, Tryd.ntmps38
    go_wp2_with (go_at_call 57; refine (HS.out _ (HA.out.below (below_one _ _))).mono ?_; rintro e w2 ⟨rfl, hb2⟩; obtain ⟨hc2, hf2⟩ := bcell hb2)
    go_region
    go_wp2
    go_ret2
    refine Ret2.mk rfl (bool_eq ?_) (below_b1 hb2).drew
    rw [← HQ.out, Bool.eq_iff_iff]; simp; omega
  · have i2 : ¬ (p : Int) < (N : Int) := by omega
    have HQ := Lib.hid (show false = s from by
      rcases hp with ⟨g1, g2⟩ | ⟨hm, g1, g2⟩
      · rw [← hs, g1]; rfl
      · exact absurd hm (by rw [hpp, HN.out]; exact hpN))
    clear hp hpp hs hN hpl
    go_enter Tryd.func38, Tryd.ntmps38
    go_wp2_with (go_at_call 57; refine (HS.out _ (HA.out.below (below_one _ _))).mono ?_; rintro e w2 ⟨rfl, hb2⟩; obtain ⟨hc2, hf2⟩ := bcell hb2)
    go_region
    go_wp2
    go_ret2
    exact Ret2.mk rfl (bool_eq HQ.out) (below_b1 hb2).drew
end Go.Proofs.YtohllaolbebogaaDoor
