/- The law's own rows of the cells of a set of access rules: those that the cells tell, in the order of their keys. -/
import Derived.Test.YtljhcegkekdjgaaDoorGGtM
import Derived.Test.YtljhcegkekdjgaaDoorGRow
import Derived.Deep.DeepCutAuto
import Derived.Deep.LoopGhost
namespace Go.Proofs.YtljhcegkekdjgaaDoor
open Go.RowKit Go.Lib Pt Opn Tb

theorem key_orG (a b : Nat) (ha : a ≤ 65535) (hb : b ≤ 65535) : bits .or .u64 (IntKind.u64.wrap ((a : Int) * 65536)) (b : Int) = ((a * 65536 + b : Nat) : Int) := by
  rw [show IntKind.u64.wrap ((a : Int) * 65536) = (a : Int) * 65536 by rw [IntKind.wrap_u64]; omega]
  rw [show (a : Int) * 65536 = ((a * 65536 : Nat) : Int) by omega, u64_or_nat _ _ (by omega) (by omega)]
  congr 1
  have := Nat.two_pow_add_eq_or_of_lt (i := 16) (b := b) (by omega) a
  rw [show 2 ^ 16 * a = a * 65536 by omega] at this
  exact this.symm
theorem putAll_len (cs : List Q4) (h : (rowsG cs).Pairwise (fun x y => x.1 ≠ y.1)) (j : Nat) : (putAll (rowsG (cs.take j))).length ≤ cs.length := by
  have h1 := (putAll_perm (rowsG_pre h j)).1.length_eq
  have h2 := rowsG_len (cs.take j)
  rw [List.length_take] at h2
  omega

set_option maxRecDepth 100000 in
set_option maxHeartbeats 8000000 in
theorem gtell_any (cs : List Q4) (hl : cs.length ≤ 1000) (hq : ∀ q ∈ cs, q.1 = 0 ∧ q.2.1 ≤ 2 ∧ q.2.2.1 ≤ 65535 ∧ q.2.2.2 ≤ 65535) (hone : (rowsG cs).Pairwise (fun x y => x.1 ≠ y.1)) (A : Option Addr) (d : Nat) (w : World) (h : IsL w A 4 q4L cs) :
    Calls Tryd.prog 20 #[.slice A cs.length d] w (fun e X => ∃ u, e = .returned (.tuple #[u, .bool true]) ∧ IsRV X u (putAll (rowsG cs)) ∧ Below w.heap.size w X) := by
  obtain ⟨N, hN⟩ : ∃ N, cs.length = N := ⟨_, rfl⟩
  obtain ⟨P, hP⟩ : ∃ P : Ending → World → Prop, P = (fun e X => ∃ u, e = .returned (.tuple #[u, .bool true]) ∧ IsRV X u (putAll (rowsG cs)) ∧ Below w.heap.size w X) := ⟨_, rfl⟩
  rw [← hP]
  rw [hN] at hl ⊢
  have HP := Lib.hid hP
  have HI := Lib.hid (And.intro hN (And.intro hq (And.intro hone h)))
  clear hP hN hq hone h
  go_enter Tryd.func20, Tryd.ntmps20
  go_wp2
  go_loopw [4, 5] (fun vv iv wr => ∃ j : Nat, j ≤ N ∧ iv = .int .i64 j ∧ Hid (IsRV wr vv (putAll (rowsG (cs.take j)))) ∧ Below w.heap.size w wr) (fun _ iv _ => N - (RowKit.intOf iv).toNat)
  case atStart => exact ⟨0, Nat.zero_le _, rfl, Lib.hid (IsRV.of (MadeX.nil _ w.heap.size _ _ _)), Below.refl _ _⟩
  case round =>
    obtain ⟨j, hj, rfl, HV, hbr⟩ := hrel
    have i1 : (0 : Int) ≤ (j : Int) := by omega
    by_cases hlt : j < N
    · have i2 : (j : Int) < (N : Int) := by omega
      obtain ⟨⟨xt, xa, xb, xc⟩, hx⟩ : ∃ x, cs[j]? = some x := ⟨_, List.getElem?_eq_getElem (by rw [HI.out.1]; exact hlt)⟩
      obtain ⟨b, off, rfl, hel⟩ := HI.out.2.2.2 j _ hx
      have k1 := hel 1 _ rfl
      have k2 := hel 2 _ rfl
      have k3 := hel 3 _ rfl
      have hbl := World.block_lt_of_cell? _ _ k1
      simp only at hbl
      replace k1 := (hbr.cell (p := ⟨b, off + j * 4 + 1, none⟩) hbl).trans k1
      replace k2 := (hbr.cell (p := ⟨b, off + j * 4 + 2, none⟩) hbl).trans k2
      replace k3 := (hbr.cell (p := ⟨b, off + j * 4 + 3, none⟩) hbl).trans k3
      obtain ⟨-, qa, qb, qc⟩ := HI.out.2.1 _ (List.mem_of_getElem? hx)
      simp only at qa qb qc
      have HXX := Lib.hid hx
      have hs : b < wr.heap.size := World.block_lt_of_cell? _ _ k1
      clear hel hx hbl
      by_cases hx0 : xa = 0
      · subst hx0
        have HT := Lib.hid (show rowsG (cs.take (j + 1)) = rowsG (cs.take j) by rw [rowsG_take HXX.out, rowsG_zero rfl, List.append_nil])
        go_wp2
        go_roundw
        case rel => exact ⟨j + 1, by omega, by go_num, Lib.hid (by rw [HT.out]; exact HV.out), hbr⟩
        case measure => simp [RowKit.intOf]; omega
      · have x1 : ((xa : Int) == 0) = false := by simp; omega
        have HT := Lib.hid (show putAll (rowsG (cs.take (j + 1))) = put (putAll (rowsG (cs.take j))) (xb * 65536 + xc) xa by rw [rowsG_take HXX.out, rowsG_one (q := (xt, xa, xb, xc)) hx0, putAll_snoc]; rfl)
        have hnew := told_new HI.out.2.2.1 HXX.out hx0
        have hup := (putAll_perm (rowsG_pre HI.out.2.2.1 j)).2
        have hpl := putAll_len cs HI.out.2.2.1 j
        rw [HI.out.1] at hpl
        have hfn : fnd (putAll (rowsG (cs.take j))) (xb * 65536 + xc) = -1 := by
          rcases fnd_get (putAll (rowsG (cs.take j))) (xb * 65536 + xc) with ⟨h1, _⟩ | ⟨i, hi, _, _, h2⟩
          · exact h1
          · rw [show (rowG (xt, xa, xb, xc)).1 = xb * 65536 + xc from rfl, h2] at hnew; cases hnew
        have hko := key_orG xb xc qb qc
        obtain ⟨K, hK⟩ : ∃ K, xb * 65536 + xc = K := ⟨_, rfl⟩
        rw [hK] at hko hfn HT
        obtain ⟨L, hL⟩ : ∃ L, putAll (rowsG (cs.take j)) = L := ⟨_, rfl⟩
        rw [hL] at hfn hup hpl HT HV
        obtain ⟨AA, cc, rfl, hd, hAA, hIR⟩ := HV.out
        have HF := Lib.hid (fun W hW => rFind_any AA L cc (by omega) K W hW)
        rw [hfn] at HF
        have HWI := Lib.hid (fun W hW => rWith_up AA L cc (by omega) hup K xa W hW)
        unfold RetR at HWI
        have HIR := Lib.hid hIR
        have HKO := Lib.hid hko
        obtain ⟨n, hn⟩ : ∃ n, L.length = n := ⟨_, rfl⟩
        rw [hn] at HF HWI ⊢
        clear hx0 hnew hfn hK hL hn hup hpl hd hAA hIR hko HV qa qb qc
        go_upto_region 6 with fail
        go_cut [6] (fun s6 wx => s6 = .int .u64 (K : Nat) ∧ Hid (Below wr.heap.size wr wx))
        case first =>
          go_region
          all_goals
            go_wp2_with fail
            go_meet
            exact ⟨by rw [← HKO.out], Lib.hid ⟨rfl, rfl, rfl, Nat.le_refl _, fun _ _ => rfl⟩⟩
        case rest =>
          obtain ⟨rfl, HBW⟩ := hcut
          obtain ⟨w2, hw2⟩ : ∃ Z, Z = wc := ⟨_, rfl⟩
          subst hw2
          have hb2 := HBW.out
          replace k1 := (hb2.cell (p := ⟨b, off + j * 4 + 1, none⟩) hs).trans k1
          clear k2 k3 hs HKO
          go_wp2_with fail
          refine (HF.out _ (HIR.out.below hb2)).mono ?_
          rintro e w3 ⟨rfl, hb3⟩
          have hs2 := World.block_lt_of_cell? _ _ k1
          simp only at hs2
          replace k1 := (hb3.cell (p := ⟨b, off + j * 4 + 1, none⟩) hs2).trans k1
          have hb13 := below_then hb2 hb3
          go_wp2_with fail
          refine (HWI.out _ (HIR.out.below hb13)).mono ?_
          rintro e w4 ⟨v, rfl, hM, hb4⟩
          have HE := Lib.hid (And.intro (IsRV.of hM) (hbr.trans ((below_then hb13 hb4).mono hbr.size)))
          clear hM hb4 hb13 hb3 hb2 k1 hs2
          go_wp2_with fail
          go_roundw
          case rel => exact ⟨j + 1, by omega, by go_num, Lib.hid (by rw [HT.out]; exact HE.out.1), HE.out.2⟩
          case measure => simp [RowKit.intOf]; omega
    · obtain rfl : j = N := by omega
      have hE := HV.out
      rw [List.take_of_length_le (by rw [HI.out.1]; exact Nat.le_refl _)] at hE
      have HE := Lib.hid hE
      clear hE HV
      go_wp2
      rw [HP.out]
      exact ⟨_, rfl, HE.out, hbr⟩
end Go.Proofs.YtljhcegkekdjgaaDoor
