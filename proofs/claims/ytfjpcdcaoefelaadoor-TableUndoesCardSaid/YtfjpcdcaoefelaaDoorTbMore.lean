/- The document's own answers: two answers that are the same, a word, a power, whether a prefix matches. The document's own answer on a look-up: the longest prefix that matches. The document's own answer on whether rows may be a table's. Lists of rows that rise: what the document's With leaves; a key's place and its value. -/
import Derived.Test.YtfjpcdcaoefelaaDoorTbMake
import Derived.Test.YtfjpcdcaoefelaaDoorRkDeep
import Derived.Test.YtfjpcdcaoefelaaDoorPtMath
import Derived.Test.YtfjpcdcaoefelaaDoorPtRefMay
import Derived.Test.YtfjpcdcaoefelaaDoorPtGreat
namespace Go.Proofs.YtfjpcdcaoefelaaDoor
open Go.RowKit Tb

/-- An answer, with rows at A. -/
def resv (e v : Int) (A : Option Addr) (n c : Nat) : Value := .agg #[.int .i64 e, .int .u32 v, .slice A n c]

set_option maxHeartbeats 1000000 in
theorem rSameRes_any (e v e' v' : Int) (A B : Option Addr) (l m : List R) (c d : Nat) (hl : l.length ≤ 9223372036854775807) (w : World) (h : IsR w A l) (g : IsR w B m) :
    Calls Tryd.prog 17 #[resv e v A l.length c, resv e' v' B m.length d] w (Ret (.bool (decide (e = e' ∧ v = v' ∧ l = m))) w) := by
  have HS := Lib.hid (fun W hA hB => rSameRows_any A B l m c d hl W hA hB)
  have HA := Lib.hid h
  have HB := Lib.hid g
  clear h g hl
  obtain ⟨z, hz⟩ : ∃ z, decide (l = m) = z := ⟨_, rfl⟩
  rw [hz] at HS
  have HZ := Lib.hid hz
  clear hz
  unfold resv
  go_enter Tryd.func17, Tryd.ntmps17
  go_wp2_with (go_at_call 16; refine (HS.out _ (HA.out.below (below_two _ _ _)) (HB.out.below (below_two _ _ _))).mono ?_; rintro e w1 ⟨rfl, hb1⟩)
  all_goals go_ret
  all_goals refine Ret.mk (bool_eq ?_) (by first | exact below_then (below_two _ _ _) hb1 | exact below_two _ _ _)
  all_goals (have hZ := HZ.out; (first | clear HS HA HB HZ hb1 | clear HS HA HB HZ); rw [Bool.eq_iff_iff]; grind)

set_option maxHeartbeats 400000 in
theorem rWord_any (v : Nat) (_ : v < 18446744073709551616) (w : World) : Calls Tryd.prog 51 #[.int .u64 v] w (Ret (.int .u32 ((v + 1) % 4294967296 : Nat)) w) := by
  have e : IntKind.u64.wrap ((v : Int) + 1) % 4294967296 = (((v + 1) % 4294967296 : Nat) : Int) := by rw [IntKind.wrap_u64]; omega
  generalize (v + 1) % 4294967296 = z at *
  go_enter Tryd.func51, Tryd.ntmps51
  go_wp2
  go_ret
  exact Ret.mk (congrArg (Value.int .u32) e) (Below.refl _ _)

set_option maxHeartbeats 400000 in
theorem rPow_any (n : Nat) (hn : n ≤ 32) (w : World) : Calls Tryd.prog 49 #[.int .i64 n] w (Ret (.int .i64 (2 ^ n : Nat)) w) := by
  go_enter Tryd.func49, Tryd.ntmps49
  go_wp2
  go_loopw [3, 4] (fun v i wr => w = wr ∧ ∃ j : Nat, j ≤ n ∧ v = .int .i64 (2 ^ j : Nat) ∧ i = .int .i64 j) (fun _ i _ => n - (intOf i).toNat)
  case atStart => exact ⟨rfl, 0, Nat.zero_le _, rfl, rfl⟩
  case round =>
    obtain ⟨rfl, j, hj, rfl, rfl⟩ := hrel
    by_cases hlt : j < n
    · have hq : 2 ^ j ≤ 2 ^ 32 := Nat.pow_le_pow_right (by decide) (by omega)
      obtain ⟨q, hqe⟩ : ∃ q, 2 ^ j = q := ⟨_, rfl⟩
      rw [hqe] at hq ⊢
      have HE := Lib.hid hqe
      clear hqe
      have i1 : (j : Int) < (n : Int) := by omega
      go_wp2
      go_roundw
      case rel => exact ⟨by trivial, j + 1, by omega, i64_eq (by rw [Nat.pow_succ, HE.out]; omega), by go_num⟩
      case measure => simp [intOf]; omega
    · obtain rfl : j = n := by omega
      obtain ⟨q, hqe⟩ : ∃ q, 2 ^ j = q := ⟨_, rfl⟩
      rw [hqe]
      have HE := Lib.hid hqe
      clear hqe
      go_wp2
      go_ret
      exact Ret.mk (i64_eq (by rw [HE.out])) (Below.refl _ _)

/-- Does the prefix of a node match a key of n bits? -/
def matchB (n key k : Nat) : Bool := decide (k = 2 ^ k.log2 + key / 2 ^ (n - k.log2))
theorem log2_le_of {n k : Nat} (hk : 1 ≤ k) (h : k < 2 ^ (n + 1)) : k.log2 ≤ n := by
  have := (Nat.log2_lt (by omega : k ≠ 0)).2 h
  omega
theorem log2_self {k : Nat} (hk : 1 ≤ k) : 2 ^ k.log2 ≤ k := Nat.log2_self_le (by omega)

set_option maxHeartbeats 1000000 in
theorem rMatch_any (n key k : Nat) (hn : n ≤ 6) (hk : 1 ≤ k) (hk2 : k < 2 ^ (n + 1)) (hkey : key < 2 ^ n) (w : World) : Calls Tryd.prog 67 #[.int .i64 k, .int .i64 n, .int .i64 key] w (Ret (.bool (matchB n key k)) w) := by
  have h6 : 2 ^ n ≤ 2 ^ 6 := Nat.pow_le_pow_right (by decide) hn
  have h7 : 2 ^ (n + 1) ≤ 2 ^ 7 := Nat.pow_le_pow_right (by decide) (by omega)
  have hN : Rk.isN (k : Int) = true := decide_eq_true (by omega)
  have hD := log2_le_of hk hk2
  have hS := log2_self hk
  have H1 := Lib.hid (fun W => rDeep_any (k : Int) hN W)
  have e0 : Rk.dep (k : Int) = (k.log2 : Nat) := by unfold Rk.dep; simp
  rw [e0] at H1
  have H2 := Lib.hid (rPow_any k.log2 (by omega))
  have H3 := Lib.hid (rAbove_nat key (n - k.log2) (by omega) (by omega))
  have e1 : ((n - k.log2 : Nat) : Int) = (n : Int) - (k.log2 : Nat) := by omega
  rw [e1] at H3
  unfold matchB
  have hk3 : k ≤ 127 := by omega
  generalize k.log2 = d at *
  generalize 2 ^ d = p at *
  generalize key / 2 ^ (n - d) = a at *
  clear hN e0 e1 hk2 h7
  go_enter Tryd.func67, Tryd.ntmps67
  go_wp2_with fail
  refine (H1.out _).mono ?_
  rintro e w1 ⟨rfl, hb1⟩
  go_wp2_with fail
  refine (H2.out _).mono ?_
  rintro e w2 ⟨rfl, hb2⟩
  go_wp2_with fail
  refine (H3.out _).mono ?_
  rintro e w3 ⟨rfl, hb3⟩
  go_wp2
  go_ret
  exact Ret.mk (bool_eq (by rw [Bool.eq_iff_iff]; simp; omega)) (below_then (below_then hb1 hb2) hb3)
end Go.Proofs.YtfjpcdcaoefelaaDoor

namespace Go.Proofs.YtfjpcdcaoefelaaDoor
open Go.RowKit Tb Pt

/-- The best row of the first j: where it stands; -1: none. -/
def Best (l : List R) (n key j : Nat) (b : Int) : Prop :=
  (b = -1 ∧ ∀ i, (h : i < l.length) → i < j → matchB n key l[i].1 = false) ∨
  (∃ m : Nat, b = m ∧ ∃ hm : m < l.length, m < j ∧ matchB n key l[m].1 = true ∧ ∀ i, (h : i < l.length) → i < j → matchB n key l[i].1 = true → l[i].1.log2 ≤ l[m].1.log2)
theorem best_zero (l : List R) (n key : Nat) : Best l n key 0 (-1) := .inl ⟨rfl, fun i _ h => by omega⟩
theorem best_skip {l : List R} {n key j : Nat} {b : Int} (h : Best l n key j b) (hj : j < l.length) (hm : matchB n key l[j].1 = false) : Best l n key (j + 1) b := by
  rcases h with ⟨h1, h2⟩ | ⟨m, h1, h2, h3, h4, h5⟩
  · refine .inl ⟨h1, fun i hi hlt => ?_⟩
    by_cases e : i = j
    · subst e; exact hm
    · exact h2 i hi (by omega)
  · refine .inr ⟨m, h1, h2, by omega, h4, fun i hi hlt hmi => ?_⟩
    by_cases e : i = j
    · subst e; rw [hm] at hmi; cases hmi
    · exact h5 i hi (by omega) hmi
theorem best_first {l : List R} {n key j : Nat} (h : Best l n key j (-1)) (hj : j < l.length) (hm : matchB n key l[j].1 = true) : Best l n key (j + 1) (j : Nat) := by
  rcases h with ⟨_, h2⟩ | ⟨m, h1, _⟩
  · refine .inr ⟨j, rfl, hj, by omega, hm, fun i hi hlt hmi => ?_⟩
    by_cases e : i = j
    · subst e; exact Nat.le_refl _
    · have := h2 i hi (by omega); rw [this] at hmi; cases hmi
  · omega
theorem best_more {l : List R} {n key j m : Nat} (h : Best l n key j (m : Nat)) (hj : j < l.length) (hml : m < l.length) (hm : matchB n key l[j].1 = true) (hg : l[m].1.log2 < l[j].1.log2) : Best l n key (j + 1) (j : Nat) := by
  rcases h with ⟨h1, _⟩ | ⟨m', h1, h2, h3, h4, h5⟩
  · omega
  · obtain rfl : m = m' := by omega
    refine .inr ⟨j, rfl, hj, by omega, hm, fun i hi hlt hmi => ?_⟩
    by_cases e : i = j
    · subst e; exact Nat.le_refl _
    · have := h5 i hi (by omega) hmi; omega
theorem best_less {l : List R} {n key j m : Nat} (h : Best l n key j (m : Nat)) (hj : j < l.length) (hml : m < l.length) (hg : ¬ l[m].1.log2 < l[j].1.log2) : Best l n key (j + 1) (m : Nat) := by
  rcases h with ⟨h1, _⟩ | ⟨m', h1, h2, h3, h4, h5⟩
  · omega
  · obtain rfl : m = m' := by omega
    refine .inr ⟨m, rfl, h2, by omega, h4, fun i hi hlt hmi => ?_⟩
    by_cases e : i = j
    · subst e; omega
    · exact h5 i hi (by omega) hmi

/-- A row of the prefix of length e that matches. -/
theorem match_at {n key e k : Nat} (he : e ≤ n) (hkey : key < 2 ^ n) (hk : k = 2 ^ e + key / 2 ^ (n - e)) : k.log2 = e ∧ matchB n key k = true := by
  have h1 : key / 2 ^ (n - e) < 2 ^ e := by
    rw [Nat.div_lt_iff_lt_mul (Nat.two_pow_pos _), ← Nat.pow_add, show e + (n - e) = n by omega]; exact hkey
  have h2 : k.log2 = e := by
    have hp := Nat.two_pow_pos e
    generalize key / 2 ^ (n - e) = a at *
    rw [Nat.log2_eq_iff (by omega), Nat.pow_succ]
    omega
  exact ⟨h2, decide_eq_true (by rw [h2]; exact hk)⟩
theorem seek_of_none {l : List R} {n key : Nat} (hkey : key < 2 ^ n) (h : Best l n key l.length (-1)) : seek l n key n = none := by
  rcases h with ⟨_, h2⟩ | ⟨m, h1, _⟩
  · refine seek_none fun e he => get_none_of fun x hx hxe => ?_
    obtain ⟨i, hi, rfl⟩ := List.getElem_of_mem hx
    have := h2 i hi hi
    rw [(match_at he hkey hxe).2] at this
    cases this
  · omega
theorem seek_of_best {l : List R} {n key m : Nat} (hu : Up l) (hkey : key < 2 ^ n) (hk : ∀ x ∈ l, 1 ≤ x.1 ∧ x.1 < 2 ^ (n + 1)) (h : Best l n key l.length (m : Nat)) (hm : m < l.length) : seek l n key n = some l[m].2 := by
  rcases h with ⟨h1, _⟩ | ⟨m', h1, h2, h3, h4, h5⟩
  · omega
  · obtain rfl : m = m' := by omega
    have hmem : l[m] ∈ l := List.getElem_mem hm
    have hd := log2_le_of (hk _ hmem).1 (hk _ hmem).2
    have he : l[m].1 = 2 ^ l[m].1.log2 + key / 2 ^ (n - l[m].1.log2) := of_decide_eq_true h4
    refine seek_some (d := l[m].1.log2) hd (by rw [← he]; exact get_of hu hmem) fun e g1 g2 => get_none_of fun x hx hxe => ?_
    obtain ⟨i, hi, rfl⟩ := List.getElem_of_mem hx
    have := match_at g2 hkey hxe
    have := h5 i hi hi this.2
    omega

/-- What a look-up answers. -/
def lookC (s : Option Nat) : Int := match s with | some _ => 0 | none => 6
def lookV (s : Option Nat) : Int := match s with | some v => ((v + 1) % 4294967296 : Nat) | none => 0
set_option maxHeartbeats 4000000 in
theorem rLook_any (c : Cf) (A : Option Addr) (l : List R) (d n key : Nat) (hb : c.bits = n) (hn : n ≤ 6) (hl : l.length ≤ 1000000) (hu : Up l) (hk : ∀ x ∈ l, 1 ≤ x.1 ∧ x.1 < 2 ^ (n + 1)) (hv : ∀ x ∈ l, x.2 ≤ 2147483647) (hkey : key < 2 ^ n) (w : World) (h : IsR w A l) :
    Calls Tryd.prog 48 #[cfv c, .slice A l.length d, .int .i64 key] w (Ret (resv (lookC (seek l n key n)) (lookV (seek l n key n)) none 0 0) w) := by
  have HU := Lib.hid (And.intro hu (And.intro hk (And.intro hv hkey)))
  have h64 : 2 ^ n ≤ 2 ^ 6 := Nat.pow_le_pow_right (by decide) hn
  have h128 : 2 ^ (n + 1) ≤ 2 ^ 7 := Nat.pow_le_pow_right (by decide) (by omega)
  have hkey2 : key ≤ 127 := by omega
  obtain ⟨N, hN⟩ : ∃ N, l.length = N := ⟨_, rfl⟩
  rw [hN] at hl ⊢
  have HN := Lib.hid hN
  unfold cfv
  rw [hb]
  have H1 := Lib.hid (fun j (hj : j < l.length) W => rMatch_any n key l[j].1 hn (hk _ (List.getElem_mem hj)).1 (hk _ (List.getElem_mem hj)).2 hkey W)
  have H2 := Lib.hid (fun j (hj : j < l.length) W => rDeep_any (l[j].1 : Nat) (decide_eq_true (by have := hk _ (List.getElem_mem hj); omega)) W)
  have H3 := Lib.hid (fun j (hj : j < l.length) W => rWord_any l[j].2 (by have := hv _ (List.getElem_mem hj); omega) W)
  have HK := Lib.hid (show ∀ j, (hj : j < l.length) → l[j].1 ≤ 127 ∧ l[j].2 ≤ 2147483647 from fun j hj => ⟨by have := hk _ (List.getElem_mem hj); omega, hv _ (List.getElem_mem hj)⟩)
  clear hN hu hk hv hkey h64 h128 hb
  go_enter Tryd.func48, Tryd.ntmps48
  go_wp2
  obtain ⟨W, hW⟩ : ∃ W, W = (w.alloc (.cells #[.int .u8 c.obj, .int .i64 c.inst, .int .i64 c.thr, .int .u8 c.kind, .int .i64 c.str, .int .i64 (n : Nat), .int .i64 c.cap, .int .i64 c.node, .int .i64 c.bat, .int .i64 c.chunk, .int .u64 c.lim, .int .u64 c.most] 33)).alloc (.cells #[.int .i64 0, .int .u32 0, .slice none 0 0] 29) := ⟨_, rfl⟩
  have hb2 : Below w.heap.size w W := by rw [hW]; exact below_two _ _ _
  rw [← hW]
  have hbits : W.cell? ⟨w.heap.size, 5, none⟩ = some (.int .i64 n) := by rw [hW]; simp [go_sem]
  have z0 : W.cell? ⟨w.heap.size + 1, 0, none⟩ = some (.int .i64 0) := by rw [hW]; simp [go_sem]
  have f0 : W.frozen? ⟨w.heap.size + 1, 0, none⟩ = false := by rw [hW]; simp [go_sem]
  have z1 : W.cell? ⟨w.heap.size + 1, 1, none⟩ = some (.int .u32 0) := by rw [hW]; simp [go_sem]
  have f1 : W.frozen? ⟨w.heap.size + 1, 1, none⟩ = false := by rw [hW]; simp [go_sem]
  have z2 : W.cell? ⟨w.heap.size + 1, 2, none⟩ = some (.slice none 0 0) := by rw [hW]; simp [go_sem]
  have f2 : W.frozen? ⟨w.heap.size + 1, 2, none⟩ = false := by rw [hW]; simp [go_sem]
  have hs : w.heap.size + 1 < W.heap.size := by rw [hW]; simp
  have HA := Lib.hid (h.below hb2)
  clear hW h
  go_loopw [7, 8] (fun bv i wr => Below W.heap.size W wr ∧ ∃ (j : Nat) (b : Int), j ≤ N ∧ i = .int .i64 j ∧ bv = .int .i64 b ∧ Hid (Best l n key j b)) (fun _ i _ => N - (intOf i).toNat)
  case atStart => exact ⟨Below.refl _ _, 0, -1, Nat.zero_le _, rfl, rfl, Lib.hid (best_zero l n key)⟩
  case round =>
    obtain ⟨hbr, j, b, hj, rfl, rfl, HB⟩ := hrel
    have i1 : (0 : Int) ≤ (j : Int) := by omega
    by_cases hlt : j < N
    · have j1 : j < l.length := by rw [HN.out]; exact hlt
      obtain ⟨bk, off, rfl, h1, _⟩ := HA.out.row j1
      replace h1 := (hbr.cell (World.block_lt_of_cell? _ _ h1)).trans h1
      have hbits' := (hbr.cell (World.block_lt_of_cell? _ _ hbits)).trans hbits
      have i2 : (j : Int) < (N : Int) := by omega
      have H1j := Lib.hid (H1.out j j1)
      have H2j := Lib.hid (H2.out j j1)
      have HKj := (HK.out j j1).1
      obtain ⟨q1, e1⟩ : ∃ q, l[j].1 = q := ⟨_, rfl⟩
      rw [e1] at h1 H1j H2j HKj
      have E1 := Lib.hid e1
      clear e1
      obtain ⟨mt, hmt⟩ : ∃ mt, matchB n key q1 = mt := ⟨_, rfl⟩
      rw [hmt] at H1j
      have EM := Lib.hid hmt
      clear hmt
      go_wp2
      have k0 := cell_regrown hbits'
      cases mt with
      | false =>
        refine wp_region_quiet_below (by kernel_rfl) (by kernel_rfl) ?_
        repeat (go_big_quiet_step (fail))
        go_big_quiet_step (exact Calls.regrown_of (H1j.out _))
        repeat (go_big_quiet_step (fail))
        refine wpQuiet_nil ?_
        intro W3 hw'
        obtain ⟨⟨dq, osq⟩, hw''⟩ := hw'
        have hb3 := below_regrown wr dq osq
        rw [← hw''] at hb3
        clear hw'' k0 hbits' h1
        go_wp2
        go_roundw
        case rel => exact ⟨hbr.trans (hb3.mono hbr.size), j + 1, b, by omega, by go_num, rfl, Lib.hid (best_skip HB.out j1 (by rw [E1.out]; exact EM.out))⟩
        case measure => simp [intOf]; omega
      | true =>
        by_cases hb0 : b < 0
        · obtain rfl : b = -1 := by
            rcases HB.out with ⟨h, _⟩ | ⟨m, h, _⟩
            · exact h
            · omega
          refine wp_region_quiet_below (by kernel_rfl) (by kernel_rfl) ?_
          repeat (go_big_quiet_step (fail))
          go_big_quiet_step (exact Calls.regrown_of (H1j.out _))
          repeat (go_big_quiet_step (fail))
          refine wpQuiet_nil ?_
          intro W3 hw'
          obtain ⟨⟨dq, osq⟩, hw''⟩ := hw'
          have hb3 := below_regrown wr dq osq
          rw [← hw''] at hb3
          clear hw'' k0 hbits' h1
          go_wp2
          go_roundw
          case rel => exact ⟨hbr.trans (hb3.mono hbr.size), j + 1, (j : Nat), by omega, by go_num, rfl, Lib.hid (best_first HB.out j1 (by rw [E1.out]; exact EM.out))⟩
          case measure => simp [intOf]; omega
        · obtain ⟨m, rfl, hm, hmj⟩ : ∃ m : Nat, b = m ∧ ∃ hm : m < l.length, m < j := by
            rcases HB.out with ⟨h, _⟩ | ⟨m, h, hm, hmj, _⟩
            · omega
            · exact ⟨m, h, hm, hmj⟩
          obtain ⟨_, _, e, h3, _⟩ := HA.out.row hm
          cases e
          replace h3 := (hbr.cell (World.block_lt_of_cell? _ _ h3)).trans h3
          have H2m := Lib.hid (H2.out m hm)
          have HKm := (HK.out m hm).1
          obtain ⟨q3, e3⟩ : ∃ q, l[m].1 = q := ⟨_, rfl⟩
          rw [e3] at h3 H2m HKm
          have E3 := Lib.hid e3
          clear e3
          have k1 := cell_regrown h3
          have m1 : (0 : Int) ≤ (m : Int) := by omega
          have m2 : (m : Int) < (N : Int) := by omega
          have m3 : ¬ (m : Int) < 0 := by omega
          have m4 : decide ((m : Int) < 0) = false := decide_eq_false m3
          have d1 : Rk.dep (q1 : Int) = (q1.log2 : Nat) := by unfold Rk.dep; simp
          have d3 : Rk.dep (q3 : Int) = (q3.log2 : Nat) := by unfold Rk.dep; simp
          rw [d1] at H2j
          rw [d3] at H2m
          have hlog : q3.log2 < q1.log2 ↔ l[m].1.log2 < l[j].1.log2 := by rw [E1.out, E3.out]
          have HLG := Lib.hid hlog
          clear d1 d3 hlog
          generalize q1.log2 = g1 at *
          generalize q3.log2 = g3 at *
          by_cases hg : g3 < g1
          · have hg1 : (g3 : Int) < (g1 : Int) := by omega
            have hg2 : decide ((g3 : Int) < (g1 : Int)) = true := decide_eq_true hg1
            refine wp_region_quiet_below (by kernel_rfl) (by kernel_rfl) ?_
            repeat (go_big_quiet_step (fail))
            go_big_quiet_step (exact Calls.regrown_of (H1j.out _))
            repeat (go_big_quiet_step (fail))
            go_big_quiet_step (exact Calls.regrown_of (H2j.out _))
            repeat (go_big_quiet_step (fail))
            go_big_quiet_step (exact Calls.regrown_of (H2m.out _))
            repeat (go_big_quiet_step (fail))
            refine wpQuiet_nil ?_
            intro W3 hw'
            obtain ⟨⟨dq, osq⟩, hw''⟩ := hw'
            have hb3 := below_regrown wr dq osq
            rw [← hw''] at hb3
            clear hw'' k0 k1 hbits' h1 h3
            go_wp2
            go_roundw
            case rel => exact ⟨hbr.trans (hb3.mono hbr.size), j + 1, (j : Nat), by omega, by go_num, rfl, Lib.hid (best_more HB.out j1 hm (by rw [E1.out]; exact EM.out) (HLG.out.1 hg))⟩
            case measure => simp [intOf]; omega
          · have hg1 : ¬ (g3 : Int) < (g1 : Int) := by omega
            have hg2 : decide ((g3 : Int) < (g1 : Int)) = false := decide_eq_false hg1
            refine wp_region_quiet_below (by kernel_rfl) (by kernel_rfl) ?_
            repeat (go_big_quiet_step (fail))
            go_big_quiet_step (exact Calls.regrown_of (H1j.out _))
            repeat (go_big_quiet_step (fail))
            go_big_quiet_step (exact Calls.regrown_of (H2j.out _))
            repeat (go_big_quiet_step (fail))
            go_big_quiet_step (exact Calls.regrown_of (H2m.out _))
            repeat (go_big_quiet_step (fail))
            refine wpQuiet_nil ?_
            intro W3 hw'
            obtain ⟨⟨dq, osq⟩, hw''⟩ := hw'
            have hb3 := below_regrown wr dq osq
            rw [← hw''] at hb3
            clear hw'' k0 k1 hbits' h1 h3
            go_wp2
            go_roundw
            case rel => exact ⟨hbr.trans (hb3.mono hbr.size), j + 1, (m : Nat), by omega, by go_num, rfl, Lib.hid (best_less HB.out j1 hm (fun h => hg (HLG.out.2 h)))⟩
            case measure => simp [intOf]; omega
    · obtain rfl : j = N := by omega
      replace z0 := (hbr.cell hs).trans z0
      replace f0 := (hbr.frozen hs).trans f0
      replace z1 := (hbr.cell hs).trans z1
      replace f1 := (hbr.frozen hs).trans f1
      replace z2 := (hbr.cell hs).trans z2
      replace f2 := (hbr.frozen hs).trans f2
      have hbr2 := hb2.trans (hbr.mono hb2.size)
      by_cases hb0 : b < 0
      · obtain rfl : b = -1 := by
          rcases HB.out with ⟨h, _⟩ | ⟨m, h, _⟩
          · exact h
          · omega
        have hsk := seek_of_none HU.out.2.2.2 (by rw [HN.out]; exact HB.out)
        have HSK := Lib.hid hsk
        clear hsk
        go_wp2
        refine bodyPost_ret (v := .agg #[.int .i64 6, .int .u32 0, .slice none 0 0]) ?_ rfl ⟨by rw [HSK.out]; rfl, ?_⟩
        · simp [results, Tryd.results48, go_sem, z0, z1, z2]
        · exact ((hbr2.setCell (by simp) _).setCell (by simp) _).setCell (by simp) _
      · obtain ⟨m, rfl, hm⟩ : ∃ m : Nat, b = m ∧ m < l.length := by
          rcases HB.out with ⟨h, _⟩ | ⟨m, h, hm, _⟩
          · omega
          · exact ⟨m, h, hm⟩
        have hsk := seek_of_best HU.out.1 HU.out.2.2.2 HU.out.2.1 (by rw [HN.out]; exact HB.out) hm
        obtain ⟨bk, off, rfl, _, h2⟩ := HA.out.row hm
        replace h2 := (hbr.cell (World.block_lt_of_cell? _ _ h2)).trans h2
        have H3m := Lib.hid (H3.out m hm)
        obtain ⟨q, e⟩ : ∃ q, l[m].2 = q := ⟨_, rfl⟩
        rw [e] at h2 H3m hsk
        obtain ⟨y, hy⟩ : ∃ y, (q + 1) % 4294967296 = y := ⟨_, rfl⟩
        rw [hy] at H3m
        have HSK := Lib.hid (And.intro hsk hy)
        clear e hsk hy
        have m1 : (0 : Int) ≤ (m : Int) := by omega
        have m2 : (m : Int) < (j : Int) := by have := HN.out; omega
        have m3 : ¬ (m : Int) < 0 := by omega
        go_wp2_with fail
        refine (H3m.out _).mono ?_
        rintro e w5 ⟨rfl, hb5⟩
        have hsw : w.heap.size + 1 < wr.heap.size := Nat.lt_of_lt_of_le hs hbr.size
        replace z0 := (hb5.cell hsw).trans z0
        replace f0 := (hb5.frozen hsw).trans f0
        replace z1 := (hb5.cell hsw).trans z1
        replace f1 := (hb5.frozen hsw).trans f1
        replace z2 := (hb5.cell hsw).trans z2
        replace f2 := (hb5.frozen hsw).trans f2
        go_wp2
        refine bodyPost_ret (v := .agg #[.int .i64 0, .int .u32 y, .slice none 0 0]) ?_ rfl ⟨by rw [HSK.out.1, ← HSK.out.2]; rfl, ?_⟩
        · simp [results, Tryd.results48, go_sem, z0, z1, z2]
        · exact (((hbr2.trans (hb5.mono hbr2.size)).setCell (by simp) _).setCell (by simp) _).setCell (by simp) _
end Go.Proofs.YtfjpcdcaoefelaaDoor

namespace Go.Proofs.YtfjpcdcaoefelaaDoor
open Go.RowKit Tb Pt

/-- May a row be, where a memory's places are z at most? -/
def RowOk (z : Nat) (x : R) : Prop := 1 ≤ x.1 ∧ x.1 < z ∧ x.2 ≤ 2147483647
instance (z : Nat) (x : R) : Decidable (RowOk z x) := by unfold RowOk; infer_instance
/-- May rows be a table's? -/
def IsTab (c : Cf) (l : List R) : Prop := Ok c ∧ c.obj = 1 ∧ (l.length : Int) ≤ c.cap ∧ Up l ∧ ∀ x ∈ l, RowOk (sz c) x
instance (c : Cf) (l : List R) : Decidable (IsTab c l) := by unfold IsTab; infer_instance
def isB (c : Cf) (l : List R) : Bool := decide (IsTab c l)
theorem isB_false {c : Cf} {l : List R} (h : ¬ IsTab c l) : isB c l = false := decide_eq_false h
theorem isB_true {c : Cf} {l : List R} (h : IsTab c l) : isB c l = true := decide_eq_true h

set_option maxHeartbeats 4000000 in
theorem rIs_any (c : Cf) (A : Option Addr) (l : List R) (d : Nat) (hl : l.length ≤ 1000000) (w : World) (h : IsR w A l) :
    Calls Tryd.prog 15 #[cfv c, .slice A l.length d] w (Ret (.bool (isB c l)) w) := by
  have HM := Lib.hid (rMayBe_any c)
  have HR := Lib.hid (fun W hA => rRise_any A l d (by omega) W hA)
  have HA := Lib.hid h
  by_cases hok : Ok c
  · rw [ok_bit hok] at HM
    have HG := Lib.hid (rGreat_any c hok)
    have hz := (sz_bounds hok).2
    have HI := Lib.hid (show ∀ p, c.obj = 1 → (l.length : Int) ≤ c.cap → Up l → (p = true ↔ ∀ x ∈ l, RowOk (sz c) x) → p = isB c l from fun p h1 h2 h3 h4 => by
      unfold isB; rw [Bool.eq_iff_iff, h4, decide_eq_true_iff]; exact ⟨fun g => ⟨hok, h1, h2, h3, g⟩, fun g => g.2.2.2.2⟩)
    have HF1 := Lib.hid (show c.obj ≠ 1 → isB c l = false from fun g => isB_false fun k => g k.2.1)
    have HF2 := Lib.hid (show ¬ (l.length : Int) ≤ c.cap → isB c l = false from fun g => isB_false fun k => g k.2.2.1)
    have HF3 := Lib.hid (show ¬ Up l → isB c l = false from fun g => isB_false fun k => g k.2.2.2.1)
    obtain ⟨z, hze⟩ : ∃ z, sz c = z := ⟨_, rfl⟩
    rw [hze] at hz HG HI
    obtain ⟨r, hr⟩ : ∃ r, isB c l = r := ⟨_, rfl⟩
    rw [hr] at HI HF1 HF2 HF3 ⊢
    obtain ⟨u, hu⟩ : ∃ u, decide (Up l) = u := ⟨_, rfl⟩
    rw [hu] at HR
    have HUU := Lib.hid hu
    obtain ⟨N, hN⟩ : ∃ N, l.length = N := ⟨_, rfl⟩
    rw [hN] at hl HR HI HF2 ⊢
    have HN := Lib.hid hN
    clear hok hze hr hu hN h
    unfold cfv at *
    by_cases ho : c.obj = 1
    · rw [ho] at HM HG ⊢
      have HOB := Lib.hid ho
      clear ho
      by_cases hcap : (N : Int) ≤ c.cap
      · cases u with
        | true =>
          go_enter Tryd.func15, Tryd.ntmps15
          have hc2 : ¬ c.cap < (N : Int) := by omega
          go_wp2_with (first
            | (go_at_call 29; refine (HM.out _).mono ?_; rintro e w1 ⟨rfl, hb1⟩; obtain ⟨hc1, hf1⟩ := bcell hb1)
            | (go_at_call 33; refine (HR.out _ (HA.out.below (below_then (below_one _ _) hb1))).mono ?_; rintro e w2 ⟨rfl, hb2⟩; replace hb1 := below_then hb1 hb2; clear hc1 hf1 hb2; obtain ⟨hc1, hf1⟩ := bcell hb1))
          have hb0 := below_then (below_one _ _) hb1
          have c0 : w2.cell? ⟨w.heap.size, 0, none⟩ = some (.int .u8 1) := (hc1 _ _ (by simp)).trans (by simp [go_sem])
          have c1 : w2.cell? ⟨w.heap.size, 1, none⟩ = some (.int .i64 c.inst) := (hc1 _ _ (by simp)).trans (by simp [go_sem])
          have c2 : w2.cell? ⟨w.heap.size, 2, none⟩ = some (.int .i64 c.thr) := (hc1 _ _ (by simp)).trans (by simp [go_sem])
          have c3 : w2.cell? ⟨w.heap.size, 3, none⟩ = some (.int .u8 c.kind) := (hc1 _ _ (by simp)).trans (by simp [go_sem])
          have c4 : w2.cell? ⟨w.heap.size, 4, none⟩ = some (.int .i64 c.str) := (hc1 _ _ (by simp)).trans (by simp [go_sem])
          have c5 : w2.cell? ⟨w.heap.size, 5, none⟩ = some (.int .i64 c.bits) := (hc1 _ _ (by simp)).trans (by simp [go_sem])
          have c6 : w2.cell? ⟨w.heap.size, 6, none⟩ = some (.int .i64 c.cap) := (hc1 _ _ (by simp)).trans (by simp [go_sem])
          have c7 : w2.cell? ⟨w.heap.size, 7, none⟩ = some (.int .i64 c.node) := (hc1 _ _ (by simp)).trans (by simp [go_sem])
          have c8 : w2.cell? ⟨w.heap.size, 8, none⟩ = some (.int .i64 c.bat) := (hc1 _ _ (by simp)).trans (by simp [go_sem])
          have c9 : w2.cell? ⟨w.heap.size, 9, none⟩ = some (.int .i64 c.chunk) := (hc1 _ _ (by simp)).trans (by simp [go_sem])
          have c10 : w2.cell? ⟨w.heap.size, 10, none⟩ = some (.int .u64 c.lim) := (hc1 _ _ (by simp)).trans (by simp [go_sem])
          have c11 : w2.cell? ⟨w.heap.size, 11, none⟩ = some (.int .u64 c.most) := (hc1 _ _ (by simp)).trans (by simp [go_sem])
          have HA2 := Lib.hid (HA.out.below hb0)
          clear hc1 hf1 hb1
          go_loopw [5] (fun i wr => Below w2.heap.size w2 wr ∧ ∃ j : Nat, j ≤ N ∧ i = .int .i64 j ∧ Hid (∀ m, (hm : m < l.length) → m < j → RowOk z l[m])) (fun i _ => N - (intOf i).toNat)
          case atStart => exact ⟨Below.refl _ _, 0, Nat.zero_le _, rfl, Lib.hid fun m _ hm => by omega⟩
          case round =>
            obtain ⟨hbr, j, hj, rfl, HO⟩ := hrel
            have i1 : (0 : Int) ≤ (j : Int) := by omega
            by_cases hlt : j < N
            · have j1 : j < l.length := by rw [HN.out]; exact hlt
              obtain ⟨bk, off, rfl, h1, h2⟩ := HA2.out.row j1
              replace h1 := (hbr.cell (World.block_lt_of_cell? _ _ h1)).trans h1
              replace h2 := (hbr.cell (World.block_lt_of_cell? _ _ h2)).trans h2
              have i2 : (j : Int) < (N : Int) := by omega
              obtain ⟨q1, e1⟩ : ∃ q, l[j].1 = q := ⟨_, rfl⟩
              obtain ⟨q2, e2⟩ : ∃ q, l[j].2 = q := ⟨_, rfl⟩
              rw [e1] at h1
              rw [e2] at h2
              have E := Lib.hid (Prod.ext e1 e2 : l[j] = (q1, q2))
              clear e1 e2
              go_wp2
              have k1 := cell_regrown h1
              have k2 := cell_regrown h2
              have r0 := cell_regrown ((hbr.cell (World.block_lt_of_cell? _ _ c0)).trans c0)
              have r1 := cell_regrown ((hbr.cell (World.block_lt_of_cell? _ _ c1)).trans c1)
              have r2 := cell_regrown ((hbr.cell (World.block_lt_of_cell? _ _ c2)).trans c2)
              have r3 := cell_regrown ((hbr.cell (World.block_lt_of_cell? _ _ c3)).trans c3)
              have r4 := cell_regrown ((hbr.cell (World.block_lt_of_cell? _ _ c4)).trans c4)
              have r5 := cell_regrown ((hbr.cell (World.block_lt_of_cell? _ _ c5)).trans c5)
              have r6 := cell_regrown ((hbr.cell (World.block_lt_of_cell? _ _ c6)).trans c6)
              have r7 := cell_regrown ((hbr.cell (World.block_lt_of_cell? _ _ c7)).trans c7)
              have r8 := cell_regrown ((hbr.cell (World.block_lt_of_cell? _ _ c8)).trans c8)
              have r9 := cell_regrown ((hbr.cell (World.block_lt_of_cell? _ _ c9)).trans c9)
              have r10 := cell_regrown ((hbr.cell (World.block_lt_of_cell? _ _ c10)).trans c10)
              have r11 := cell_regrown ((hbr.cell (World.block_lt_of_cell? _ _ c11)).trans c11)
              by_cases d1 : q1 < 1
              · have d2 : (q1 : Int) < 1 := by omega
                have d3 : decide ((q1 : Int) < 1) = true := decide_eq_true d2
                refine wp_region_quiet_below (by kernel_rfl) (by kernel_rfl) ?_
                repeat (go_big_quiet_step (fail))
                refine wpQuiet_nil ?_
                intro W3 hw'
                obtain ⟨⟨dq, osq⟩, hw''⟩ := hw'
                have hb3 := below_regrown wr dq osq
                rw [← hw''] at hb3
                clear hw'' k1 k2 r0 r1 r2 r3 r4 r5 r6 r7 r8 r9 r10 r11
                go_wp2
                go_ret
                exact Ret.mk (bool_eq (HI.out false HOB.out hcap (of_decide_eq_true HUU.out) ⟨(fun g => by cases g), (fun g => by have := g _ (List.getElem_mem j1); rw [E.out] at this; exact absurd this (by unfold RowOk; simp only; omega))⟩)) (hb0.trans ((hbr.trans (hb3.mono hbr.size)).mono hb0.size))
              · have d2 : ¬ (q1 : Int) < 1 := by omega
                have d3 : decide ((q1 : Int) < 1) = false := decide_eq_false d2
                by_cases d4 : z ≤ q1
                · have d5 : (z : Int) ≤ (q1 : Int) := by omega
                  have d6 : decide ((z : Int) ≤ (q1 : Int)) = true := decide_eq_true d5
                  refine wp_region_quiet_below (by kernel_rfl) (by kernel_rfl) ?_
                  repeat (go_big_quiet_step (fail))
                  go_big_quiet_step (exact Calls.regrown_of (HG.out _))
                  repeat (go_big_quiet_step (fail))
                  refine wpQuiet_nil ?_
                  intro W3 hw'
                  obtain ⟨⟨dq, osq⟩, hw''⟩ := hw'
                  have hb3 := below_regrown wr dq osq
                  rw [← hw''] at hb3
                  clear hw'' k1 k2 r0 r1 r2 r3 r4 r5 r6 r7 r8 r9 r10 r11
                  go_wp2
                  go_ret
                  exact Ret.mk (bool_eq (HI.out false HOB.out hcap (of_decide_eq_true HUU.out) ⟨(fun g => by cases g), (fun g => by have := g _ (List.getElem_mem j1); rw [E.out] at this; exact absurd this (by unfold RowOk; simp only; omega))⟩)) (hb0.trans ((hbr.trans (hb3.mono hbr.size)).mono hb0.size))
                · have d5 : ¬ (z : Int) ≤ (q1 : Int) := by omega
                  have d6 : decide ((z : Int) ≤ (q1 : Int)) = false := decide_eq_false d5
                  by_cases d7 : 2147483647 < q2
                  · have d8 : (2147483647 : Int) < (q2 : Int) := by omega
                    have d9 : decide ((2147483647 : Int) < (q2 : Int)) = true := decide_eq_true d8
                    refine wp_region_quiet_below (by kernel_rfl) (by kernel_rfl) ?_
                    repeat (go_big_quiet_step (fail))
                    go_big_quiet_step (exact Calls.regrown_of (HG.out _))
                    repeat (go_big_quiet_step (fail))
                    refine wpQuiet_nil ?_
                    intro W3 hw'
                    obtain ⟨⟨dq, osq⟩, hw''⟩ := hw'
                    have hb3 := below_regrown wr dq osq
                    rw [← hw''] at hb3
                    clear hw'' k1 k2 r0 r1 r2 r3 r4 r5 r6 r7 r8 r9 r10 r11
                    go_wp2
                    go_ret
                    exact Ret.mk (bool_eq (HI.out false HOB.out hcap (of_decide_eq_true HUU.out) ⟨(fun g => by cases g), (fun g => by have := g _ (List.getElem_mem j1); rw [E.out] at this; exact absurd this (by unfold RowOk; simp only; omega))⟩)) (hb0.trans ((hbr.trans (hb3.mono hbr.size)).mono hb0.size))
                  · have d8 : ¬ (2147483647 : Int) < (q2 : Int) := by omega
                    have d9 : decide ((2147483647 : Int) < (q2 : Int)) = false := decide_eq_false d8
                    refine wp_region_quiet_below (by kernel_rfl) (by kernel_rfl) ?_
                    repeat (go_big_quiet_step (fail))
                    go_big_quiet_step (exact Calls.regrown_of (HG.out _))
                    repeat (go_big_quiet_step (fail))
                    refine wpQuiet_nil ?_
                    intro W3 hw'
                    obtain ⟨⟨dq, osq⟩, hw''⟩ := hw'
                    have hb3 := below_regrown wr dq osq
                    rw [← hw''] at hb3
                    clear hw'' k1 k2 r0 r1 r2 r3 r4 r5 r6 r7 r8 r9 r10 r11
                    go_wp2
                    go_roundw
                    case rel => exact ⟨hbr.trans (hb3.mono hbr.size), j + 1, by omega, by go_num, Lib.hid fun m hm1 hm2 => by
                      by_cases e : m = j
                      · subst e; rw [E.out]; unfold RowOk; simp only; omega
                      · exact HO.out m hm1 (by omega)⟩
                    case measure => simp [intOf]; omega
            · obtain rfl : j = N := by omega
              go_wp2
              go_ret
              exact Ret.mk (bool_eq (HI.out true HOB.out hcap (of_decide_eq_true HUU.out) ⟨fun _ x hx => by
                obtain ⟨i, hi, rfl⟩ := List.getElem_of_mem hx
                exact HO.out i hi (by rw [← HN.out]; exact hi), fun _ => rfl⟩)) (hb0.trans (hbr.mono hb0.size))
        | false =>
          have hr := HF3.out (of_decide_eq_false HUU.out)
          rw [hr]
          go_enter Tryd.func15, Tryd.ntmps15
          have hc2 : ¬ c.cap < (N : Int) := by omega
          go_wp2_with (first
            | (go_at_call 29; refine (HM.out _).mono ?_; rintro e w1 ⟨rfl, hb1⟩; obtain ⟨hc1, hf1⟩ := bcell hb1)
            | (go_at_call 33; refine (HR.out _ (HA.out.below (below_then (below_one _ _) hb1))).mono ?_; rintro e w2 ⟨rfl, hb2⟩; replace hb1 := below_then hb1 hb2; clear hc1 hf1 hb2; obtain ⟨hc1, hf1⟩ := bcell hb1))
          go_ret
          exact Ret.mk rfl (below_then (below_one _ _) hb1)
      · have hr := HF2.out hcap
        rw [hr]
        go_enter Tryd.func15, Tryd.ntmps15
        have hc2 : c.cap < (N : Int) := by omega
        go_wp2_with (go_at_call 29; refine (HM.out _).mono ?_; rintro e w1 ⟨rfl, hb1⟩; obtain ⟨hc1, hf1⟩ := bcell hb1)
        go_ret
        exact Ret.mk rfl (below_then (below_one _ _) hb1)
    · have hr := HF1.out ho
      rw [hr]
      go_enter Tryd.func15, Tryd.ntmps15
      have ho2 : (c.obj != 1) = true := bne_iff_ne.2 ho
      go_wp2_with (go_at_call 29; refine (HM.out _).mono ?_; rintro e w1 ⟨rfl, hb1⟩; obtain ⟨hc1, hf1⟩ := bcell hb1)
      go_ret
      exact Ret.mk rfl (below_then (below_one _ _) hb1)
  · rw [show okB c = false from decide_eq_false hok] at HM
    rw [isB_false fun k => hok k.1]
    generalize l.length = N at *
    clear h HR
    unfold cfv at *
    go_enter Tryd.func15, Tryd.ntmps15
    go_wp2_with (go_at_call 29; refine (HM.out _).mono ?_; rintro e w1 ⟨rfl, hb1⟩; obtain ⟨hc1, hf1⟩ := bcell hb1)
    go_ret
    exact Ret.mk rfl (below_then (below_one _ _) hb1)
end Go.Proofs.YtfjpcdcaoefelaaDoor

namespace Go.Proofs.YtfjpcdcaoefelaaDoor
open Go.RowKit Tb

theorem rWith_up (A : Option Addr) (l : List R) (c : Nat) (hl : l.length ≤ 1000000) (hu : Up l) (k v : Nat) (w : World) (h : IsR w A l) :
    Calls Tryd.prog 50 #[.slice A l.length c, .int .u64 k, .int .u64 v] w (RetR (put l k v) w) := by
  have := rWith_any A l c hl k v w h
  rw [steps_out k v l [] hu, List.nil_append] at this
  exact this

theorem fnd_get (l : List R) (k : Nat) : (fnd l k = -1 ∧ Tb.get l k = none) ∨ ∃ i, ∃ h : i < l.length, fnd l k = (i : Nat) ∧ l[i].1 = k ∧ Tb.get l k = some l[i].2 := by
  unfold fnd Tb.get
  cases e : l.findIdx? (fun x => x.1 == k) with
  | none =>
    rw [List.findIdx?_eq_none_iff] at e
    refine .inl ⟨rfl, ?_⟩
    rw [Option.map_eq_none_iff, List.find?_eq_none]
    intro x hx; have := e x hx; simpa using this
  | some i =>
    rw [List.findIdx?_eq_some_iff_getElem] at e
    obtain ⟨hi, h1, h2⟩ := e
    refine .inr ⟨i, hi, rfl, by simpa using h1, ?_⟩
    have : l.find? (fun x => x.1 == k) = some l[i] := by
      rw [List.find?_eq_some_iff_getElem]
      exact ⟨h1, i, hi, rfl, fun j hj => by have := h2 j hj; simpa using this⟩
    rw [this]; rfl

/-- Rows that a value is, in a world. -/
def IsRV (w : World) (v : Value) (l : List R) : Prop := ∃ A c, v = .slice A l.length c ∧ (l.length ≤ c ∧ c ≤ 9223372036854775807) ∧ (A = none → l.length = 0 ∧ c = 0) ∧ IsR w A l
theorem IsRV.of {w : World} {B : Nat} {v : Value} {l : List R} (h : MadeX w B 24 2 rowL v l) : IsRV w v l := MadeX.form rowL_len h
theorem IsRV.below {w w' : World} {v : Value} {l : List R} (h : IsRV w v l) (hb : Below w.heap.size w w') : IsRV w' v l := by
  obtain ⟨A, c, e, h1, h2, h3⟩ := h
  exact ⟨A, c, e, h1, h2, h3.below hb⟩

/-- What an operation does that fits: the rows, the code, the word. -/
def doneR (n cap : Nat) (l : List R) (k a b c : Nat) : List R × Int × Int :=
  if k = 3 then (l, (match seek l n a n with | some _ => 0 | none => 6), (match seek l n a n with | some v => (((v + 1) % 4294967296 : Nat) : Int) | none => 0))
  else if k = 1 then (match Tb.get l (2 ^ b + a) with
    | some v => (put l (2 ^ b + a) c, 0, (((v + 1) % 4294967296 : Nat) : Int))
    | none => if cap ≤ l.length then (l, 9, 0) else (put l (2 ^ b + a) c, 0, 0))
  else (match Tb.get l (2 ^ b + a) with
    | some v => (cut l (2 ^ b + a), 0, (((v + 1) % 4294967296 : Nat) : Int))
    | none => (l, 6, 0))
end Go.Proofs.YtfjpcdcaoefelaaDoor
