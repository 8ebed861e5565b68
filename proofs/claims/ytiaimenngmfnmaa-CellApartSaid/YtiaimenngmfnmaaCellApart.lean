/- An access turns the cell at its place at most, and a load none: for all cells and every access. No condition. -/
import Derived.Test.YtiaimenngmfnmaaLaw
import Derived.Test.YtiaimenngmfnmaaCeAlive
import Derived.Test.YtiaimenngmfnmaaCeOpenA
namespace Go.Proofs.Ytiaimenngmfnmaa.cellApart
open Go.ChangeShapes Go.WideShapes Go.ChangeAt Go.RowKit Ce

theorem one_acc (w : World) (k i : Int) (o x : C4) : IsAccs (w.alloc (boxA k i o x)) (some ⟨w.heap.size, 0, none⟩) 1 (fun _ => ⟨k, i, o, x⟩) := fun j hj => by
  obtain rfl : j = 0 := by omega
  exact ⟨_, _, rfl, boxed w k i o x 0 _ rfl, boxed w k i o x 1 _ rfl, ⟨boxed w k i o x 2 _ rfl, boxed w k i o x 3 _ rfl, boxed w k i o x 4 _ rfl, boxed w k i o x 5 _ rfl⟩, ⟨boxed w k i o x 6 _ rfl, boxed w k i o x 7 _ rfl, boxed w k i o x 8 _ rfl, boxed w k i o x 9 _ rfl⟩⟩

/-- The cells that a turn does not reach. -/
theorem st_one {n : Nat} {cf : Nat → C4} {a : Acc} (j : Nat) (h : (j : Int) ≠ a.i ∨ a.k = 1) : st n cf (fun _ => a) 1 j = cf j := by
  show Ce.step n cf a j = cf j
  unfold Ce.step
  split
  · rename_i hm
    have := may_true hm
    rcases h with h | h
    · exact upd_other (by omega)
    · rw [show becomes (cf a.i.toNat) a = cf a.i.toNat by simp [becomes, h], upd_self]
  · rfl

set_option maxHeartbeats 4000000 in
theorem walk (A : Option Addr) (n c : Nat) (hA : A = none → n = 0 ∧ c = 0) (cf : Nat → C4) (k0 i0 : Int) (o x : C4) (w : World) (hI : IsCells w A n cf) : Calls Try.prog 6 #[.slice A n c, av ⟨k0, i0, o, x⟩] w (Ret (.bool true) w) := by
  have HI := Lib.hid hI
  have HA := Lib.hid hA
  clear hI hA
  unfold av
  go_enter Try.func6, Try.ntmps6
  go_wp2_with fail
  refine (alive_any _).mono ?_
  rintro e w1 ⟨rfl, hb1⟩
  have hB := fun j u h => (hb1.cell (World.block_lt_of_cell? _ _ (boxed w k0 i0 o x j u h))).trans (boxed w k0 i0 o x j u h)
  have HIr := Lib.hid (HI.out.same (below_then (below_one w _) hb1).block)
  have HBW := Lib.hid (below_then (below_one w _) hb1)
  have b0 := hB 0 _ rfl
  have b1 := hB 1 _ rfl
  have b2 := hB 2 _ rfl
  have b3 := hB 3 _ rfl
  have b4 := hB 4 _ rfl
  have b5 := hB 5 _ rfl
  have b6 := hB 6 _ rfl
  have b7 := hB 7 _ rfl
  have b8 := hB 8 _ rfl
  have b9 := hB 9 _ rfl
  clear hB hb1
  have hq : w.heap.size < w1.heap.size := World.block_lt_of_cell? _ _ b0
  obtain ⟨q, hq0⟩ : ∃ q, w.heap.size = q := ⟨_, rfl⟩
  rw [hq0] at b0 b1 b2 b3 b4 b5 b6 b7 b8 b9 hq
  rw [hq0]
  clear hq0
  go_wp2_with fail
  by_cases hn : 1024 < n
  · refine (run_many _ _ _ _ _ _ (by omega) hn _).mono ?_
    rintro e w2 ⟨rfl, hb2⟩
    go_wp2
    go_ret
    exact Ret.mk rfl (below_then (below_then HBW.out (below_one _ _)) hb2)
  · cases ho : okTo n (fun _ => (⟨k0, i0, o, x⟩ : Acc)) 1 with
    | false =>
      have HO := Lib.hid ho
      clear ho
      refine (run_bad _ _ _ _ 1 1 HA.out (by omega) (by omega) (by omega) cf _ _ (HIr.out.same (below_one _ _).block) (one_acc w1 k0 i0 o x) HO.out).mono ?_
      rintro e w2 ⟨rfl, hb2⟩
      go_wp2
      go_ret
      exact Ret.mk rfl (below_then (below_then HBW.out (below_one _ _)) hb2)
    | true =>
      have HO := Lib.hid ho
      clear ho
      refine (run_ok _ _ _ _ 1 1 HA.out (by omega) (by omega) (by omega) cf _ _ (HIr.out.same (below_one _ _).block) (one_acc w1 k0 i0 o x) HO.out).mono ?_
      rintro e w2 ⟨A2, c2, S2, rfl, hA2, hO2, _, _, hb2⟩
      have h12 := below_then (below_one _ _) hb2
      have HX := Lib.hid hO2.cells
      have HIs := Lib.hid (HIr.out.same h12.block)
      have a0 := (h12.cell (p := ⟨q, 0, none⟩) hq).trans b0
      have a1 := (h12.cell (p := ⟨q, 1, none⟩) hq).trans b1
      have HB2 := Lib.hid (below_then HBW.out h12)
      clear b0 b1 b2 b3 b4 b5 b6 b7 b8 b9 hO2 hb2 h12 HIr HBW hA2
      go_wp2
      go_loopw [9] (fun i wr => ∃ k : Nat, k ≤ n ∧ i = .int .i64 k ∧ Below w2.heap.size w2 wr) (fun i _ => n - (intOf i).toNat)
      case atStart => exact ⟨0, Nat.zero_le _, rfl, Below.refl _ _⟩
      case round =>
        obtain ⟨k, hk, rfl, hbr⟩ := hrel
        by_cases hlt : k < n
        · have i1 : (0 : Int) ≤ (k : Int) := by omega
          have i2 : (k : Int) < (n : Int) := by omega
          have g0 := cell_regrown ((hbr.cell (World.block_lt_of_cell? _ _ a0)).trans a0)
          have g1 := cell_regrown ((hbr.cell (World.block_lt_of_cell? _ _ a1)).trans a1)
          by_cases hd : (k : Int) ≠ i0 ∨ k0 = 1
          · obtain ⟨bx, ox, rfl, h4⟩ := HX.out k hlt
            obtain ⟨by_, oy, rfl, h5⟩ := HIs.out k hlt
            rw [st_one k hd] at h4
            obtain ⟨c0, c1, c2, c3⟩ := h4.same (hbr.block _ h4.lt)
            obtain ⟨d0, d1, d2, d3⟩ := h5.same (hbr.block _ h5.lt)
            clear h4 h5
            have k0' := cell_regrown c0
            have k1 := cell_regrown c1
            have k2 := cell_regrown c2
            have k3 := cell_regrown c3
            have l0 := cell_regrown d0
            have l1 := cell_regrown d1
            have l2 := cell_regrown d2
            have l3 := cell_regrown d3
            by_cases he : (k : Int) = i0
            · obtain rfl : k0 = 1 := by omega
              subst he
              clear hd
              go_wp2
              refine wp_region_quiet_below (by kernel_rfl) (by kernel_rfl) ?_
              repeat (go_big_quiet_step (exact Calls.regrown_of (rSame_true _ _ rfl _)))
              refine wpQuiet_nil ?_
              intro W3 hw'
              obtain ⟨⟨dq, osq⟩, hw''⟩ := hw'
              have hb3 := below_regrown wr dq osq
              rw [← hw''] at hb3
              clear hw'' k0' k1 k2 k3 l0 l1 l2 l3 g0 g1
              go_wp2
              go_roundw
              case rel => exact ⟨k + 1, by omega, by go_num, below_then hbr hb3⟩
              case measure => simp [intOf]; omega
            · have z1 : ((k : Int) == i0) = false := by simpa using he
              have z2 : ((k : Int) != i0) = true := by simpa using he
              clear hd
              go_wp2
              refine wp_region_quiet_below (by kernel_rfl) (by kernel_rfl) ?_
              repeat (go_big_quiet_step (exact Calls.regrown_of (rSame_true _ _ rfl _)))
              refine wpQuiet_nil ?_
              intro W3 hw'
              obtain ⟨⟨dq, osq⟩, hw''⟩ := hw'
              have hb3 := below_regrown wr dq osq
              rw [← hw''] at hb3
              clear hw'' k0' k1 k2 k3 l0 l1 l2 l3 g0 g1
              go_wp2
              go_roundw
              case rel => exact ⟨k + 1, by omega, by go_num, below_then hbr hb3⟩
              case measure => simp [intOf]; omega
          · obtain ⟨rfl, hk1⟩ : (k : Int) = i0 ∧ ¬ k0 = 1 := by omega
            have z1 : (k0 == 1) = false := by simpa using hk1
            clear hd
            go_wp2
            refine wp_region_quiet_below (by kernel_rfl) (by kernel_rfl) ?_
            repeat (go_big_quiet_step (exact Calls.regrown_of (rSame_true _ _ rfl _)))
            refine wpQuiet_nil ?_
            intro W3 hw'
            obtain ⟨⟨dq, osq⟩, hw''⟩ := hw'
            have hb3 := below_regrown wr dq osq
            rw [← hw''] at hb3
            clear hw'' g0 g1
            go_wp2
            go_roundw
            case rel => exact ⟨k + 1, by omega, by go_num, below_then hbr hb3⟩
            case measure => simp [intOf]; omega
        · obtain rfl : k = n := by omega
          go_wp2
          go_ret
          exact Ret.mk rfl (below_then HB2.out hbr)

set_option maxRecDepth 100000 in
theorem lifted (os : Os) (started : os.Started) (H : Type) (enc : TypeId × Value → H) :
    ReturnsInHanded {} Try.checked os 6 .any (Rows.cellApartSpec.pre6 enc Try.prog Try.f6 Rows.cellApartRow.domain false) (Rows.cellApartSpec.post enc Try.prog Try.f6 false true false false) := by
  refine returnsInHanded_of_change (C := Try.checked) own started (by kernel_rfl) Try.func6
    (ChangeSpec.witness6 (enc := enc) (C := Try.checked) false ⟨#[], #[.slice none 0 0, .agg #[.int .u8 0, .int .i64 0, .int .u64 0, .int .u64 0, .int .u64 0, .int .u64 0, .int .u64 0, .int .u64 0, .int .u64 0, .int .u64 0]], []⟩ 8 (by kernel_rfl) (by kernel_rfl) (by kernel_rfl) (by kernel_rfl)) ?_
  intro W base args ds gs before hval hW hcnd _
  refine law_of laidOut (by kernel_rfl) (by kernel_rfl) Try.underlying4 rfl ?_ hW fun p hA => ?_
  · intro ds hd
    match ds, hd with
    | [_, _], _ => rfl
  have hval' : ∀ (j : Nat) t v, Try.f6.params[j]? = some t → args[j]? = some v → Value.okWide Try.prog W .any base t v := hval
  rw [Try.params6] at hA hval'
  obtain ⟨v0, vs0, d0, ds0, p0, q0, hargs, rfl, rfl, h0, r0⟩ := trodAll_cons hA
  obtain ⟨v1, vs1, d1, ds1, p1, q1, rfl, rfl, rfl, h1, r1⟩ := trodAll_cons r0
  obtain ⟨rfl, rfl, rfl⟩ := trodAll_nil r1
  obtain rfl : args = #[v0, v1] := by cases args; simp_all
  obtain ⟨A, n, c, cf, rfl, hc, hA0, hI⟩ := open_cells (hval' 0 _ v0 rfl rfl) h0
  obtain ⟨⟨k0, i0, o, x⟩, rfl⟩ := open_acc (hval' 1 _ v1 rfl rfl) h1
  exact walk A n c hA0 cf k0 i0 o x W hI

theorem proved : Rows.CellApartSaid :=
  OpenClaim.holds_of_wide 6 Try.f6 rfl rfl rfl rfl rfl rfl rfl ⟨rfl, rfl, rfl, rfl, rfl⟩ rfl rfl rfl rfl rfl (by kernel_rfl) Try.func6 (by kernel_rfl)
    (of_decide_eq_true (by kernel_rfl)) (by unfold Func.isWrapper; rw [if_neg (by decide +kernel)]; exact ⟨rfl, rfl⟩)
    (fun os started H enc _ => lifted os started H enc)
#print axioms proved

end Go.Proofs.Ytiaimenngmfnmaa.cellApart
