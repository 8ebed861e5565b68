/- The program's own words of descs: a pair of numbers in a word, and out of it; the frame with which a program starts. -/
import Derived.Test.YtpepahecjkkpbaaPkJoin
import Derived.Test.YtpepahecjkkpbaaRgVal
namespace Go.Proofs.Ytpepahecjkkpbaa
open Go.RowKit Go.Shelf Opn

/-- A field behind all that a word has: no bit of it is turned. -/
theorem Pk.put_top_add (x a b v : Nat) (hx : x < 2 ^ a) (hv : v < 2 ^ b) (h : a + b ≤ 64) : Pk.put x a b v = x + 2 ^ a * v := by
  have hx64 : x < 18446744073709551616 := by
    have : 2 ^ a ≤ 2 ^ 64 := Nat.pow_le_pow_right (by decide) (by omega)
    omega
  apply Nat.eq_of_testBit_eq
  intro i
  rw [Pk.put_bit x a b v i hx64 hv h, Nat.add_comm x, Nat.testBit_two_pow_mul_add v hx]
  by_cases c1 : a ≤ i
  · rw [if_neg (by omega : ¬ i < a)]
    by_cases c2 : i < a + b
    · rw [if_pos ⟨c1, c2⟩]
    · rw [if_neg (by omega)]
      have e1 : x.testBit i = false := Nat.testBit_lt_two_pow (Nat.lt_of_lt_of_le hx (Nat.pow_le_pow_right (by decide) c1))
      have e2 : v.testBit (i - a) = false := Nat.testBit_lt_two_pow (Nat.lt_of_lt_of_le hv (Nat.pow_le_pow_right (by decide) (by omega)))
      rw [e1, e2]
  · rw [if_neg (by omega), if_pos (by omega : i < a)]

/-- Fields, one behind the other, that all fit. -/
theorem Pk.join_add {bf : Nat → Int} {vf : Nat → Nat} {n : Nat} (p b : Nat) (hp : Pk.pos bf n = p) (hb : bf n = b) (hx : Pk.join bf vf n < 2 ^ p) (hv : vf n < 2 ^ b) (h : p + b ≤ 64) :
    Pk.join bf vf (n + 1) = Pk.join bf vf n + 2 ^ p * vf n := by
  show Pk.put _ _ _ _ = _
  rw [hp, hb, Int.toNat_natCast, Int.toNat_natCast]
  exact Pk.put_top_add _ _ _ _ hx hv h

set_option maxHeartbeats 4000000 in
theorem rword_any (A : Option Addr) (N c : Nat) (hc : N ≤ c ∧ c ≤ 9223372036854775807) (bf : Nat → Int) (vf : Nat → Nat) (w : World) (hF : IsFields w A N bf vf) :
    Calls Try.prog 22 #[.slice A N c] w (Ret2 (.int .u64 (Pk.joinW bf vf N : Nat)) (.int .i64 (Pk.joinE bf vf N)) w) := by
  go_enter Try.func22, Try.ntmps22
  go_wp2_with (go_at_call 24; refine (join_any A N c hc bf vf _ hF).mono ?_; rintro e w' ⟨rfl, hb1⟩)
  go_ret2
  exact Ret2.mk rfl rfl hb1

set_option maxRecDepth 100000 in
set_option maxHeartbeats 4000000 in
theorem gStart0_any (o : O) (w : World) : Calls Try.prog 13 #[opv o] w (Ret (frv (startF o)) w) := by
  unfold opv
  go_enter Try.func13, Try.ntmps13
  go_wp2
  refine bodyPost_ret (v := .agg #[.int .u8 (o.k : Nat), .int .u32 (o.a : Nat), .int .u32 (o.b : Nat), .int .u8 0, .int .u8 0, .int .u8 0, .int .u8 0, .int .u8 0, .int .u8 0, .int .u32 0, .int .u32 (o.c : Nat)]) ?_ rfl ⟨rfl, below_two _ _ _⟩
  simp [results, Try.results13, go_sem]

set_option maxRecDepth 100000 in
set_option maxHeartbeats 4000000 in
theorem pairIn_any (z : Nat) (hz : z < 18446744073709551616) (w : World) :
    Calls Try.prog 18 #[.int .u64 z] w (Ret2 (.int .u32 (z % 4294967296 : Nat)) (.int .u32 (z / 4294967296 : Nat)) w) := by
  have HG1 := Lib.hid (fun W => get_ok z 0 32 hz (by omega) (by omega) W)
  have HG2 := Lib.hid (fun W => get_ok z 32 32 hz (by omega) (by omega) W)
  obtain ⟨l, hl⟩ : ∃ l, z % 4294967296 = l := ⟨_, rfl⟩
  obtain ⟨h, hh⟩ : ∃ h, z / 4294967296 = h := ⟨_, rfl⟩
  have f1 : Pk.field z 0 32 = l := by unfold Pk.field; rw [← hl]; simp
  have f2 : Pk.field z 32 32 = h := by
    have p32 : (2 : Nat) ^ 32 = 4294967296 := by decide
    unfold Pk.field
    rw [← hh, p32]
    omega
  rw [f1] at HG1
  rw [f2] at HG2
  rw [hl, hh]
  have e1 : IntKind.u32.wrap (l : Int) = (l : Int) := by rw [IntKind.wrap_u32]; omega
  have e2 : IntKind.u32.wrap (h : Int) = (h : Int) := by rw [IntKind.wrap_u32]; omega
  clear hl hh f1 f2 hz
  go_enter Try.func18, Try.ntmps18
  go_wp2_with fail
  refine (HG1.out _).mono ?_
  rintro e w1 ⟨rfl, hb1⟩
  go_wp2_with fail
  refine (HG2.out _).mono ?_
  rintro e w2 ⟨rfl, hb2⟩
  go_wp2
  go_ret2
  exact Ret2.mk rfl rfl (below_then hb1 hb2)

/-- Two numbers of half a word each: their fields' bits, their numbers. -/
def pairB (_ : Nat) : Int := (32 : Nat)
def pairV (a b : Nat) (i : Nat) : Nat := if i = 0 then a else b
theorem pair_join (a b : Nat) (ha : a < 4294967296) (hb : b < 4294967296) : Pk.joinW pairB (pairV a b) 2 = a + 4294967296 * b ∧ Pk.joinE pairB (pairV a b) 2 = 0 := by
  have p32 : (2 : Nat) ^ 32 = 4294967296 := by decide
  have hs : Pk.standB pairB 2 = true := by decide +kernel
  have hf : Pk.fitsAll pairB (pairV a b) 2 = true := by
    rw [Pk.fitsAll_succ, Pk.fitsAll_succ]
    simp [Pk.fitsAll, Pk.fitsB, pairB, pairV, ha, hb]
  refine ⟨?_, by unfold Pk.joinE; rw [if_pos hs, if_pos hf]⟩
  unfold Pk.joinW
  rw [if_pos ⟨hs, hf⟩]
  have j1 : Pk.join pairB (pairV a b) 1 = a := by
    rw [Pk.join_add (bf := pairB) (vf := pairV a b) (n := 0) 0 32 (by decide +kernel) rfl (by simp [Pk.join]) (by simp [pairV]; omega) (by omega)]
    simp [Pk.join, pairV]
  rw [Pk.join_add (bf := pairB) (vf := pairV a b) (n := 1) 32 32 (by decide +kernel) rfl (by rw [j1]; omega) (by simp [pairV]; omega) (by omega), j1]
  rfl

set_option maxRecDepth 100000 in
set_option maxHeartbeats 4000000 in
theorem pairWord_any (a b : Nat) (ha : a < 4294967296) (hb : b < 4294967296) (w : World) :
    Calls Try.prog 16 #[.int .u32 a, .int .u32 b] w (Ret (.int .u64 (a + 4294967296 * b : Nat)) w) := by
  have e1 : IntKind.u64.wrap (a : Int) = (a : Int) := by rw [IntKind.wrap_u64]; omega
  have e2 : IntKind.u64.wrap (b : Int) = (b : Int) := by rw [IntKind.wrap_u64]; omega
  have hj := pair_join a b ha hb
  have HR := Lib.hid (fun A c hc W h => rword_any A 2 c hc pairB (pairV a b) W h)
  rw [hj.1, hj.2] at HR
  generalize a + 4294967296 * b = z at *
  clear hj ha hb
  go_enter Try.func16, Try.ntmps16
  go_wp2_with fail
  refine (HR.out _ 2 (by omega) _ ?_).mono ?_
  · intro i hi
    obtain rfl | rfl : i = 0 ∨ i = 1 := by omega
    · exact ⟨w.heap.size, 0, rfl, by simp [go_sem, pairB], by simp [go_sem, pairV]⟩
    · exact ⟨w.heap.size, 0, rfl, by simp [go_sem, pairB], by simp [go_sem, pairV]⟩
  rintro e w1 ⟨rfl, hb1⟩
  go_wp2
  go_ret
  exact Ret.mk rfl (below_then (below_one _ _) hb1)
end Go.Proofs.Ytpepahecjkkpbaa
