/- The document's own model of a set of access rules: whom a rule speaks of, and what all rules say. -/
import Derived.Test.YtfkkeokmkhjpfaaDoorRuRef
namespace Go.Proofs.YtfkkeokmkhjpfaaDoor
open Go.RowKit Tb Pt Opn

/-- Does a rule speak of somebody, and something? -/
def sp (k who what : Nat) : Bool := decide ((k / 65536 = 0 ∨ k / 65536 = who) ∧ (k % 65536 = 0 ∨ k % 65536 = what))
/-- What rules say, one behind the other. -/
def sayF (who what v : Nat) (x : R) : Nat := if sp x.1 who what = true ∧ v < x.2 then x.2 else v
def says (l : List R) (who what : Nat) : Nat := l.foldl (sayF who what) 0
theorem says_take {l : List R} {a b j : Nat} (hj : j < l.length) : says (l.take (j + 1)) a b = sayF a b (says (l.take j) a b) l[j] := by
  unfold says
  rw [List.take_succ_eq_append_getElem hj, List.foldl_append]
  rfl
theorem sayF_le {a b v : Nat} {x : R} (hv : v ≤ 2) (hx : x.2 = 1 ∨ x.2 = 2) : sayF a b v x ≤ 2 := by unfold sayF; split <;> omega

set_option maxHeartbeats 4000000 in
theorem speaks_any (k who what : Nat) (hk : k < 4294967296) (_ : who < 4294967296) (_ : what < 4294967296) (w : World) :
    Calls Tryd.prog 60 #[.int .u64 k, .int .u32 who, .int .u32 what] w (Ret (.bool (sp k who what)) w) := by
  obtain ⟨s, hs⟩ : ∃ s, sp k who what = s := ⟨_, rfl⟩
  rw [hs]
  have HS := Lib.hid hs
  have e1 : IntKind.u32.wrap ((k : Int) / 65536) = ((k / 65536 : Nat) : Int) := by rw [IntKind.wrap_u32]; omega
  have e2 : IntKind.u32.wrap ((k : Int) % 65536) = ((k % 65536 : Nat) : Int) := by rw [IntKind.wrap_u32]; omega
  unfold sp at HS
  obtain ⟨p, hp⟩ : ∃ p, k / 65536 = p := ⟨_, rfl⟩
  obtain ⟨r, hr⟩ : ∃ r, k % 65536 = r := ⟨_, rfl⟩
  rw [hp] at e1 HS
  rw [hr] at e2 HS
  clear hp hr hs
  go_enter Tryd.func60, Tryd.ntmps60
  go_wp2
  all_goals
    go_ret
    refine Ret.mk (bool_eq ?_) (Below.refl _ _)
    rw [← HS.out, Bool.eq_iff_iff]
    clear HS e1 e2
    simp only [Bool.or_eq_true, beq_iff_eq, decide_eq_true_eq]
    (first | omega | grind)

set_option maxHeartbeats 4000000 in
set_option maxRecDepth 20000 in
theorem says_any (A : Option Addr) (l : List R) (d a b : Nat) (hl : l.length ≤ 1000000) (hv : ∀ x ∈ l, RuOk x) (ha : a < 4294967296) (hb : b < 4294967296) (w : World) (h : IsR w A l) :
    Calls Tryd.prog 44 #[.slice A l.length d, .int .u32 a, .int .u32 b] w (Ret (.int .u32 (says l a b : Nat)) w) := by
  have HA := Lib.hid h
  have HV := Lib.hid hv
  have HSP := Lib.hid (fun k (hk : k < 4294967296) W => speaks_any k a b hk ha hb W)
  obtain ⟨N, hN⟩ : ∃ N, l.length = N := ⟨_, rfl⟩
  rw [hN] at hl ⊢
  have HN := Lib.hid hN
  obtain ⟨s, hs⟩ : ∃ s, says l a b = s := ⟨_, rfl⟩
  rw [hs]
  have HS := Lib.hid hs
  clear hN h hv hs
  go_enter Tryd.func44, Tryd.ntmps44
  go_wp2
  go_loopw [7, 8] (fun vv iv wr => Below w.heap.size w wr ∧ ∃ j v : Nat, j ≤ N ∧ iv = .int .i64 j ∧ vv = .int .u32 v ∧ v ≤ 2 ∧ Hid (says (l.take j) a b = v)) (fun _ i _ => N - (intOf i).toNat)
  case atStart => exact ⟨Below.refl _ _, 0, 0, Nat.zero_le _, rfl, rfl, by omega, Lib.hid (by simp [says])⟩
  case round =>
    obtain ⟨hbr, j, v, hj, rfl, rfl, hv2, HJ⟩ := hrel
    have i1 : (0 : Int) ≤ (j : Int) := by omega
    by_cases hlt : j < N
    · have j1 : j < l.length := by rw [HN.out]; exact hlt
      have i2 : (j : Int) < (N : Int) := by omega
      obtain ⟨bk, off, rfl, h1, h2⟩ := HA.out.row j1
      replace h1 := (hbr.cell (World.block_lt_of_cell? _ _ h1)).trans h1
      replace h2 := (hbr.cell (World.block_lt_of_cell? _ _ h2)).trans h2
      have hq := HV.out _ (List.getElem_mem j1)
      unfold RuOk at hq
      have hst := says_take (a := a) (b := b) j1
      rw [HJ.out] at hst
      have hle := sayF_le (a := a) (b := b) (x := l[j]) hv2 hq.2
      unfold sayF at hst hle
      obtain ⟨q1, e1⟩ : ∃ q, l[j].1 = q := ⟨_, rfl⟩
      obtain ⟨q2, e2⟩ : ∃ q, l[j].2 = q := ⟨_, rfl⟩
      rw [e1] at h1 hq hst hle
      rw [e2] at h2 hq hst hle
      obtain ⟨z, hz⟩ : ∃ z, sp q1 a b = z := ⟨_, rfl⟩
      have hsp := HSP.out q1 hq.1 wr
      rw [hz] at hsp hst hle
      have HSPJ := Lib.hid hsp
      have hwq : IntKind.u32.wrap (q2 : Int) = (q2 : Int) := by rw [IntKind.wrap_u32]; omega
      have hbk : bk < wr.heap.size := World.block_lt_of_cell? _ _ h2
      have HST := Lib.hid hst
      have HLE := Lib.hid hle
      have HQ := Lib.hid hq
      clear hst hle hq hsp hz e1 e2
      cases z with
      | false =>
        go_wp2_with fail
        refine HSPJ.out.mono ?_
        rintro e w2 ⟨rfl, hb2⟩
        go_wp2
        go_roundw
        case rel => exact ⟨below_then hbr hb2, j + 1, v, by omega, by go_num, rfl, hv2, Lib.hid (by rw [HST.out, if_neg (by simp)])⟩
        case measure => simp [intOf]; omega
      | true =>
        by_cases hlt2 : v < q2
        · have hl3 : (v : Int) < (q2 : Int) := by omega
          go_wp2_with fail
          refine HSPJ.out.mono ?_
          rintro e w2 ⟨rfl, hb2⟩
          replace h2 := (hb2.cell hbk).trans h2
          go_wp2
          go_roundw
          case rel => exact ⟨below_then hbr hb2, j + 1, q2, by omega, by go_num, rfl, by have := HQ.out.2; omega, Lib.hid (by rw [HST.out, if_pos ⟨by trivial, hlt2⟩])⟩
          case measure => simp [intOf]; omega
        · have hl3 : ¬ (v : Int) < (q2 : Int) := by omega
          go_wp2_with fail
          refine HSPJ.out.mono ?_
          rintro e w2 ⟨rfl, hb2⟩
          replace h2 := (hb2.cell hbk).trans h2
          go_wp2
          go_roundw
          case rel => exact ⟨below_then hbr hb2, j + 1, v, by omega, by go_num, rfl, hv2, Lib.hid (by rw [HST.out, if_neg fun h => hlt2 h.2])⟩
          case measure => simp [intOf]; omega
    · obtain rfl : j = N := by omega
      have es : v = s := by rw [← HS.out, ← HJ.out, List.take_of_length_le (by rw [HN.out]; exact Nat.le_refl _)]
      subst es
      go_wp2
      go_ret
      exact Ret.mk rfl hbr
end Go.Proofs.YtfkkeokmkhjpfaaDoor
