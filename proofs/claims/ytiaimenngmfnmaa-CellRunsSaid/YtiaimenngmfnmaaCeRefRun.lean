/- A row of accesses by the document. -/
import Derived.Test.YtiaimenngmfnmaaCeRefAny
import Derived.Test.YtiaimenngmfnmaaCePush
namespace Go.Proofs.Ytiaimenngmfnmaa
open Go.RowKit Ce

/-- What the document's Run hands back. -/
def RefRun (n M : Nat) (cf : Nat → C4) (af : Nat → Acc) (w : World) (e : Ending) (w' : World) : Prop :=
  (okTo n af M = true → ∃ A c S d, e = .returned (.tuple #[.slice A n c, .slice S M d, .int .i64 0]) ∧ IsCells w' A n (st n cf af M) ∧ IsSeen w' S M (sawC n cf af) (sawD n cf af) ∧ (∀ b o, S = some ⟨b, o, none⟩ → 0 < M → w.heap.size ≤ b) ∧ Below w.heap.size w w') ∧
  (okTo n af M = false → e = .returned (.tuple #[.slice none 0 0, .slice none 0 0, .int .i64 2]) ∧ Below w.heap.size w w')

/-- Behind the first k. -/
def RefAt (w : World) (n : Nat) (cf : Nat → C4) (af : Nat → Acc) (k : Nat) (v s : Value) (wr : World) : Prop :=
  Below w.heap.size w wr ∧ okTo n af k = true ∧ (∃ A c, v = .slice A n c ∧ (A = none → n = 0 ∧ c = 0) ∧ IsCells wr A n (st n cf af k) ∧ ∀ b o, A = some ⟨b, o, none⟩ → 0 < n → s.ownBlock ≠ some b) ∧
  MadeL wr w.heap.size 27 5 s k (fun j => l5 (sawC n cf af j) (sawD n cf af j))

theorem cells_grown {w w' : World} {A : Option Addr} {n : Nat} {cf : Nat → C4} {row : Option Nat} (h : IsCells w A n cf) (hg : w.grownBy w' row) (hne : ∀ b o, A = some ⟨b, o, none⟩ → 0 < n → row ≠ some b) : IsCells w' A n cf := fun i hi => by
  obtain ⟨b, o, e, h4⟩ := h i hi
  exact ⟨b, o, e, h4.same (hg.block b h4.lt (fun h' => hne b o e (by omega) h'.symm))⟩
theorem boxed5 (w : World) (q : Nat) (hq : w.heap.size = q) (x : C4) (d : Bool) (t : TypeId) (j : Nat) (u : Value) (h : (l5 x d)[j]? = some u) : (w.alloc (.cells #[.int .u64 x.t, .int .u64 x.a, .int .u64 x.b, .int .u64 x.c, .bool d] t)).cell? ⟨q, j, none⟩ = some u := by
  subst hq
  simp [go_sem]
  simpa [l5] using h
theorem l5_one1 {x : C4} {d : Bool} {u : Value} (h : u ∈ l5 x d) : u.oneCell' = true := by
  simp only [l5, List.mem_cons, List.not_mem_nil, or_false] at h
  rcases h with rfl | rfl | rfl | rfl | rfl <;> rfl

set_option maxRecDepth 100000 in
set_option maxHeartbeats 4000000 in
theorem rRun_few (A T : Option Addr) (n c M d : Nat) (hn : n ≤ 1024) (hM : M ≤ 65536) (hd : M ≤ d ∧ d ≤ 9223372036854775807) (hA : A = none → n = 0 ∧ c = 0) (cf : Nat → C4) (af : Nat → Acc) (w : World) (hI : IsCells w A n cf) (hT : IsAccs w T M af) :
    Calls Try.prog 17 #[.slice A n c, .slice T M d] w (RefRun n M cf af w) := by
  have HI := Lib.hid hI
  have HT := Lib.hid hT
  have HA := Lib.hid hA
  clear hI hT hA
  have t1 : decide ((1024 : Int) < n) = false := by simp; omega
  have t2 : decide ((65536 : Int) < M) = false := by simp; omega
  go_enter Try.func17, Try.ntmps17
  go_wp2
  go_loopw [0, 7, 8] (fun v s i wr => ∃ k : Nat, k ≤ M ∧ i = .int .i64 k ∧ Hid (RefAt w n cf af k v s wr)) (fun _ _ i _ => M - (intOf i).toNat)
  case atStart => exact ⟨0, Nat.zero_le _, rfl, Lib.hid ⟨Below.refl _ _, rfl, ⟨A, c, rfl, HA.out, HI.out, fun b o _ _ h => by simp [Value.ownBlock] at h⟩, MadeL.nil _ _ _ _ _⟩⟩
  case round =>
    obtain ⟨k, hk, rfl, HR⟩ := hrel
    obtain ⟨hb, hok, ⟨A3, c3, rfl, hA3, hI3, hne3⟩, hS⟩ := HR.out
    have HB := Lib.hid hb
    have HOK := Lib.hid hok
    have HA3 := Lib.hid hA3
    have HI3 := Lib.hid hI3
    have HNE3 := Lib.hid hne3
    have HS := Lib.hid hS
    clear hb hok hA3 hI3 hne3 hS HR
    by_cases hlt : k < M
    · obtain ⟨b, off, rfl, h10⟩ := HT.out k hlt
      obtain ⟨a0, a1, a2, a3, a4, a5, a6, a7, a8, a9⟩ := at10_flat (h10.same (HB.out.block _ h10.lt))
      have i1 : (0 : Int) ≤ (k : Int) := by omega
      have i2 : (k : Int) < (M : Int) := by omega
      clear h10
      obtain ⟨x, hx⟩ : ∃ x, sawC n cf af k = x := ⟨_, rfl⟩
      obtain ⟨dd, hdd⟩ : ∃ dd, sawD n cf af k = dd := ⟨_, rfl⟩
      have HX := Lib.hid hx
      have HD := Lib.hid hdd
      clear hx hdd
      cases hm : mayB n (af k) with
      | true =>
        have HE : Hid (errOf n (af k) = 0) := Lib.hid (by unfold errOf; rw [if_pos hm])
        have HO2 : Hid (okTo n af (k + 1) = true) := Lib.hid (by show (okTo n af k && mayB n (af k)) = true; rw [HOK.out, hm]; rfl)
        clear hm
        go_wp2_with fail
        refine (ref_any A3 n c3 HA3.out hn cf af k x dd 0 HX.out HD.out HE.out _ HI3.out).mono ?_
        rintro e w4 ⟨A4, c4, rfl, hA4, hI4, hw4, hb4⟩
        have HNE4 : Hid (∀ b o, A4 = some ⟨b, o, none⟩ → 0 < n → u7.ownBlock ≠ some b) := Lib.hid fun b o hb hn0 hu => by
          rcases hw4 with h | h
          · exact HNE3.out b o (h ▸ hb) hn0 hu
          · have h1 := h b o hb hn0
            have := (HS.out.lt b hu).2
            omega
        have HI4 := Lib.hid hI4
        have HA4 := Lib.hid hA4
        have HB4 := Lib.hid (HB.out.trans (hb4.mono HB.out.size))
        have HS4 := Lib.hid (HS.out.below hb4)
        clear hA4 hI4 hw4 hb4 a0 a1 a2 a3 a4 a5 a6 a7 a8 a9 HS HNE3 HI3 HA3 HB
        go_wp2_with (at_builtin
                     refine wpList_pushL (w0 := w) rfl (.tmp 40) (.tmp 42) _ rfl Try.underlying36 seen_info rfl (by decide) (by decide) (v := u7) (f := fun j => l5 (sawC n cf af j) (sawD n cf af j)) rfl rfl ((HS4.out.alloc _).alloc _) _ rfl (fun j u h => boxed5 (w4.alloc _) _ (by simp) x dd _ j u (by rw [← HX.out, ← HD.out]; exact h)) (fun u hu => l5_one1 hu) (by omega) (Nat.le_refl _) ((HB4.out.alloc HB4.out.size _).alloc (Nat.le_trans HB4.out.size (by simp)) _) ?_
                     intro s' W6 HS6 hbW6 Hg6 Ho6)
        have HI6 := Lib.hid (cells_grown ((HI4.out.same (below_one _ _).block).same (below_one _ _).block) Hg6.out HNE4.out)
        have HNE6 : Hid (∀ b o, A4 = some ⟨b, o, none⟩ → 0 < n → s'.ownBlock ≠ some b) := Lib.hid fun b o hb hn0 hu => by
          rcases Ho6.out with h | h
          · exact HNE4.out b o hb hn0 (h ▸ hu)
          · obtain ⟨b', o', e', h4⟩ := HI4.out 0 hn0
            have e1 : b = b' := congrArg Addr.block (Option.some.inj (hb.symm.trans e'))
            have h2 := h4.lt
            rw [h] at hu
            injection hu with hu
            simp at hu
            omega
        clear Hg6 Ho6
        go_roundw
        case rel => exact ⟨k + 1, by omega, by go_num, Lib.hid ⟨hbW6, HO2.out, ⟨A4, c4, rfl, HA4.out, HI6.out, HNE6.out⟩, HS6.out⟩⟩
        case measure => simp [intOf]; omega
      | false =>
        have HE : Hid (errOf n (af k) = 2) := Lib.hid (by unfold errOf; rw [if_neg (by rw [hm]; simp)])
        have HO2 := Lib.hid (okTo_false (n := n) (af := af) hlt hm)
        clear hm
        go_wp2_with fail
        refine (ref_any A3 n c3 HA3.out hn cf af k x dd 2 HX.out HD.out HE.out _ HI3.out).mono ?_
        rintro e w4 ⟨A4, c4, rfl, _, _, _, hb4⟩
        have HB4 := Lib.hid (HB.out.trans (hb4.mono HB.out.size))
        clear hb4
        go_wp2
        go_ret3
        exact ⟨(fun h => by rw [HO2.out] at h; cases h), fun _ => ⟨rfl, HB4.out.alloc HB4.out.size _⟩⟩
    · obtain rfl : k = M := by omega
      obtain ⟨AS, cS, rfl, hs1, hs2, hOS⟩ := MadeL.form (s := 5) (f := fun j => l5 (sawC n cf af j) (sawD n cf af j)) (fun _ => rfl) HS.out
      have HOS := Lib.hid hOS
      clear hOS
      go_wp2_with (at_builtin
                   refine wpList_copied (w0 := wr) rfl (.tmp 44) (.tmp 45) _ rfl Try.underlying35 cell_info rfl (by decide) (by decide) rfl (World.ownsRow_lit wr #[] 0 (Nat.le_refl _) (by unfold maxLen; omega) rfl) rfl HA3.out (flat n fun i => l4 (st n cf af k i)) (l4_len n _) (cells_list (HI3.out.same (below_one _ _).block)) l4_one (by omega) (Nat.le_refl _) (below_one _ _) ?_
                   intro v' W2 HO hbW2 Hg)
      obtain ⟨A5, c5, rfl, _, _, _, _⟩ := owns_form HO.out
      have HC5 := Lib.hid (Own.of (s := 4) (f := fun i => l4 (st n cf af k i)) (fun _ => rfl) HO.out).cells
      clear HO Hg
      go_ret3
      refine ⟨fun _ => ⟨A5, c5, AS, cS, rfl, HC5.out, (HOS.out.same hbW2.block).seen, fun b o hb hM0 => ?_, HB.out.trans (hbW2.mono HB.out.size)⟩, fun h => by rw [HOK.out] at h; cases h⟩
      obtain ⟨g, e, hg, _⟩ := HOS.out.2.2 hM0
      have : b = g := congrArg Addr.block (Option.some.inj (hb.symm.trans e))
      omega
end Go.Proofs.Ytiaimenngmfnmaa
