/- The program of an index, the program's own: the levels of a shape, and the closures that make acts. -/
import Derived.Test.YtmkehailohgebaaDoorTpS
import Derived.Test.YtmkehailohgebaaDoorGRr
import Derived.Test.YtmkehailohgebaaDoorGTeR
import Derived.Deep.LoopGhost
import Derived.Laws.EntriesVeiled
namespace Go.Proofs.YtmkehailohgebaaDoor
open Go.RowKit Go.Lib Pt Opn

/-- A new list of numbers. -/
def RetN (N : Nat) (f : Nat → Int) (w : World) (e : Ending) (w' : World) : Prop :=
  ∃ sb c : Nat, e = .returned (.tuple #[.slice (some ⟨sb, 0, none⟩) N c, .int .i64 0]) ∧ N ≤ c ∧ c ≤ 9223372036854775807 ∧ w.heap.size ≤ sb ∧ Hid (∀ i, i < N → w'.cell? ⟨sb, i, none⟩ = some (.int .i64 (f i))) ∧ Below w.heap.size w w'

set_option maxHeartbeats 1000000 in
theorem levels_new (m n : Nat) (h0 : 1 ≤ m) (h1 : m ≤ 32) (h2 : 2 ≤ n) (h4 : n ≤ 4) (w : World) (hp : Pow w) :
    Calls Tryd.prog 60 #[.int .i64 m, .int .i64 n] w (RetN (Rk.top m n + 1) (Rk.lvF m n) w) := by
  have g1 := Rk.mayBe_mk h1 h2 h4
  have hm0 : ((m : Int) == 0) = false := by simp; omega
  have HP := Lib.hid hp
  clear hp
  go_enter Tryd.func60, Tryd.ntmps60
  go_wp2
  go_step3
  go_wp2_with (go_at_call 103; refine (mayBe_any m n _).mono ?_; rintro e w1 ⟨rfl, hb1⟩; obtain ⟨hc1, hf1⟩ := bcell hb1; rw [g1])
  go_step3
  go_wp2
  have hz : w.heap.size < w1.heap.size := (by have := hb1.size; simp at this; omega)
  have c0 : w1.cell? ⟨w.heap.size, 0, none⟩ = some (.int .i64 m) := by rw [hc1 _ _ (by simp)]; simp [go_sem]
  have c1 : w1.cell? ⟨w.heap.size, 1, none⟩ = some (.int .i64 n) := by rw [hc1 _ _ (by simp)]; simp [go_sem]
  have P1 := Lib.hid ((HP.out.alloc _).below hb1)
  have hb01 := below_then (below_one w _) hb1
  obtain ⟨s, hs⟩ : ∃ s, w.heap.size = s := ⟨_, rfl⟩
  have HS := Lib.hid hs
  rw [hs] at hz c0 c1 ⊢
  clear hs hc1 hf1 hb1 HP
  go_loopw [7, 20] (fun v i wr => ∃ k : Nat, k ≤ 4 ∧ (∀ j, j < k → n < Rk.items m n j) ∧ i = .int .i64 k ∧ Made wr w1.heap.size 3 v k (fun j => .int .i64 (Rk.items m n j : Nat)) ∧ Below w1.heap.size w1 wr) (fun _ i _ => 5 - (intOf i).toNat)
  case atStart => exact ⟨0, Nat.zero_le _, fun j hj => by omega, rfl, Made.nil _ _ _ _, Below.refl _ _⟩
  case round =>
    obtain ⟨k, hk, hlo, rfl, hm, hbr⟩ := hrel
    have HLO := Lib.hid hlo
    have HM := Lib.hid hm
    clear hlo hm
    have d0 := (hbr.cell (p := ⟨s, 0, none⟩) hz).trans c0
    have d1 := (hbr.cell (p := ⟨s, 1, none⟩) hz).trans c1
    have hwz : w1.heap.size ≤ wr.heap.size := hbr.size
    go_wp2_with (first
      | (go_at_call 104; refine (itemsUp_nat m n k h1 h2 h4 hk _ (P1.out.below hbr)).mono ?_; rintro e w2 ⟨rfl, hb2⟩)
      | (at_builtin
         refine wpList_pushed rfl (.tmp 26) (.tmp 28) _ rfl Tryd.underlying44 int_info rfl (by decide) rfl ((HM.out.below hb2).alloc _) _ rfl (by simp [go_sem]) rfl (by omega) (Nat.le_refl _) ((below_then hbr hb2).alloc (Nat.le_trans hwz hb2.size) _) ?_
         intro v' W1 Hm1 hbW1 Hk1))
    · rename_i hy
      have et := Rk.top_first HLO.out hy h1 h2 h4
      obtain ⟨A, c, rfl, g2, g3, g4⟩ := Hm1.out.form
      rw [Exit.noGoto_ret, et]
      go_ret2
      obtain ⟨g, rfl, hB, _⟩ := g4 0 (by omega)
      refine ⟨g, c, rfl, g2, g3, Nat.le_trans hb01.size hB, Lib.hid fun i hi => ?_, hb01.trans (hbW1.mono hb01.size)⟩
      obtain ⟨g', hg', _, hc⟩ := g4 i hi
      obtain rfl : g = g' := by injection hg' with h; injection h
      rw [hc]
      simp [Rk.lvF]
    · rename_i hn
      have hk4 : k < 4 := by
        rcases Nat.lt_or_ge k 4 with g | g
        · exact g
        · obtain rfl : k = 4 := by omega
          exact absurd (Rk.items_four h1 h2 h4) hn
      go_roundw
      case rel =>
        refine ⟨k + 1, by omega, fun j hj => ?_, by go_num, Hm1.out, hbW1⟩
        by_cases e : j = k
        · subst e; omega
        · exact HLO.out j (by omega)
      case measure => simp [intOf]; omega

/-- The levels, as they lie. -/
def LevX (c : Cf) (sb : Nat) (W : World) : Prop := ∀ i, i < topX c + 1 → W.cell? ⟨sb, i, none⟩ = some (.int .i64 (upX c c.cap.toNat i : Nat))
theorem LevX.below {c : Cf} {sb : Nat} {W X : World} (h : LevX c sb W) (hb : Below W.heap.size W X) : LevX c sb X := fun i hi => (hb.cell (World.block_lt_of_cell? _ _ (h i hi))).trans (h i hi)
theorem LevX.lt {c : Cf} {sb : Nat} {W : World} (h : LevX c sb W) : sb < W.heap.size := World.block_lt_of_cell? _ _ (h 0 (by omega))
/-- A shape that has been made. -/
def RetS (c : Cf) (w : World) (e : Ending) (w' : World) : Prop := ∃ sb cp : Nat, e = .returned (shX c (.slice (some ⟨sb, 0, none⟩) (topX c + 1 : Nat) cp)) ∧ topX c + 1 ≤ cp ∧ cp ≤ 9223372036854775807 ∧ w.heap.size ≤ sb ∧ LevX c sb w' ∧ Below w.heap.size w w'

set_option maxRecDepth 100000 in
set_option maxHeartbeats 4000000 in
theorem pShapeX_any {c : Cf} {C N K : Nat} (s : SzX c C N K) (w : World) (hP : Pow w) : Calls Tryd.prog 31 #[cfv c] w (RetS c w) := by
  have HL := Lib.hid (fun W hp => levels_new C N s.c1 s.c2 s.n1 s.n2 W hp)
  have hlv : ∀ i, Rk.lvF C N i = ((upX c c.cap.toNat i : Nat) : Int) := fun i => by unfold Rk.lvF; rw [s.up, s.cap']; simp only [Int.toNat_natCast]
  have HV := Lib.hid hlv
  have HP := Lib.hid hP
  have st := s.top
  rw [← st] at HL
  have sc := s.cap
  have sn := s.node
  unfold RetS LevX
  generalize topX c = T at *
  generalize upX c c.cap.toNat = U at *
  clear hP s st hlv
  unfold shX cfv
  rw [sc, sn]
  clear sc sn
  go_enter Tryd.func31, Tryd.ntmps31
  go_wp2_with (go_at_call 60; refine (HL.out _ ((HP.out.alloc _).alloc _)).mono ?_; rintro e w1 ⟨sb, cp, rfl, hc1, hc2, hsb, HC, hb1⟩; have hsb' : w.heap.size + 1 < sb := (by simp at hsb; omega); have HB := Lib.hid (below_then (below_two w _ _) hb1); obtain ⟨hcc, hff⟩ := bcell hb1; have G2 := blk_below (heap_alloc2_new w _ _) hb1; clear hb1; have HG2 := Lib.hid G2; obtain ⟨u0, u1, u2, u3⟩ := cells4q G2; clear G2)
  refine bodyPost_ret (v := .agg #[.int .i64 C, .int .i64 N, .int .i64 c.chunk, .slice (some ⟨sb, 0, none⟩) (T + 1 : Nat) cp]) ?_ rfl ?_
  · simp [results, Tryd.results31, go_sem, u0, u1, u2, u3]
  · refine ⟨sb, cp, rfl, hc1, hc2, by omega, fun i hi => ?_, ?_⟩
    · rw [← HV.out]
      have := HC.out i hi
      simpa [go_sem, World.cell?_setCell_other, show w.heap.size + 1 ≠ sb from by omega] using this
    · (repeat' (first | with_reducible exact HB.out | (with_reducible refine Below.setCell ?_ ?_ _))) <;> (simp; try omega)

set_option maxRecDepth 100000 in
set_option maxHeartbeats 4000000 in
theorem pOffX_any {c : Cf} {C N K : Nat} (s : SzX c C N K) (lb sb cp h : Nat) (i : Int) (hh : h ≤ topX c) (hi : -1 ≤ i ∧ i ≤ 300) (hcp : topX c + 1 ≤ cp ∧ cp ≤ 9223372036854775807) (w : World)
    (hl : w.cell? ⟨lb, 0, none⟩ = some (.slice (some ⟨sb, 0, none⟩) (topX c + 1 : Nat) cp)) (hL : LevX c sb w) :
    Calls Tryd.prog 98 #[.int .i64 h, .int .i64 i, .pointer (some ⟨lb, 0, none⟩)] w (Ret2 (.int .i64 ((offX c h i).toNat : Nat)) (.bool (decide (0 ≤ offX c h i))) w) := by
  have t4 := topX_le c
  have hbase : ∀ k, k ≤ topX c → baseX c k ≤ 64 := fun k hk => baseX_le s hk
  have hb0 : baseX c 0 = 1 := rfl
  have hbs : ∀ k, baseX c (k + 1) = baseX c k + upX c c.cap.toNat k := fun k => rfl
  have hU : ∀ k, k ≤ topX c → upX c c.cap.toNat k ≤ 32 := fun k hk => by rw [s.up, s.cap']; exact Rk.items_le s.c2 s.n1 s.n2 (by omega)
  have hoff : offX c h i = if 0 ≤ i ∧ i < (upX c c.cap.toNat h : Int) then (baseX c h : Int) + i else -1 := by
    unfold offX
    simp only [Int.toNat_natCast]
    by_cases g : 0 ≤ i ∧ i < (upX c c.cap.toNat h : Int)
    · rw [if_pos ⟨by omega, by omega, g.1, g.2⟩, if_pos g]
    · rw [if_neg (fun e => g e.2.2), if_neg g]
  have HL := Lib.hid hL
  have hLh := hL h (by omega)
  unfold LevX at HL
  obtain ⟨X, hX⟩ : ∃ X, offX c h i = X := ⟨_, rfl⟩
  rw [hX] at hoff ⊢
  clear hX hL s
  generalize topX c = T at *
  generalize upX c c.cap.toNat = U at *
  generalize baseX c = bs at *
  have hUh := hU h hh
  have hlt1 : (h : Int) < (T : Int) + 1 := by omega
  by_cases g1 : i < 0
  · rw [if_neg (by omega)] at hoff
    subst hoff
    clear HL hbase hbs hU
    go_enter Tryd.func98, Tryd.ntmps98
    go_wp2
    go_ret2
    exact Ret2.mk rfl rfl (Below.refl _ _)
  obtain ⟨I, rfl⟩ : ∃ I : Nat, i = I := ⟨i.toNat, by omega⟩
  by_cases g2 : I < U h
  · rw [if_pos (by omega)] at hoff
    have HB := Lib.hid (And.intro hbase (And.intro hb0 (And.intro hbs hU)))
    have HX := Lib.hid hoff
    have e2 : ¬ ((U h : Nat) : Int) ≤ (I : Int) := by omega
    clear hbase hb0 hbs hU hoff
    go_enter Tryd.func98, Tryd.ntmps98
    go_wp2
    go_loopg [5, 8, 25] h (fun g av mv kv wr => wr = w ∧ ∃ k : Nat, k ≤ h ∧ g = h - k ∧ kv = .int .i64 k ∧ av = .int .i64 (bs k + I : Nat))
    case atStart => exact ⟨rfl, 0, Nat.zero_le _, rfl, rfl, i64_eq (by rw [HB.out.2.1]; push_cast; first | rfl | omega)⟩
    case round =>
      obtain ⟨rfl, k, hk, rfl, rfl, rfl⟩ := hrel
      by_cases hkh : k < h
      · have hck := HL.out k (by omega)
        have e1 := HB.out.1 k (by omega)
        have e3 := HB.out.2.2.2 k (by omega)
        have e4 := HB.out.2.2.1 k
        have k1 : (k : Int) < (h : Int) := by omega
        generalize hbk : bs k = bk at *
        generalize hUk : U k = uk at *
        go_wp2
        go_roundg (h - (k + 1))
        case measure => omega
        case rel => exact ⟨rfl, k + 1, by omega, rfl, by go_num, i64_eq (by rw [e4]; push_cast; omega)⟩
      · obtain rfl : k = h := by omega
        have HX2 := HX.out
        subst HX2
        go_wp2
        go_ret2
        exact Ret2.mk (i64_eq (by omega)) (bool_eq (by simp; omega)) (Below.refl _ _)
  · rw [if_neg (by omega)] at hoff
    subst hoff
    have e2 : ((U h : Nat) : Int) ≤ (I : Int) := by omega
    clear HL hbase hbs hU
    go_enter Tryd.func98, Tryd.ntmps98
    go_wp2
    go_ret2
    exact Ret2.mk rfl rfl (Below.refl _ _)

/-- The closures. -/
def offFn (lb : Nat) : Value := .func (.func 98) #[] #[.pointer (some ⟨lb, 0, none⟩)]
def readFn (ob : Nat) : Value := .func (.func 99) #[] #[.pointer (some ⟨ob, 0, none⟩)]
def writeFn (ob : Nat) : Value := .func (.func 100) #[] #[.pointer (some ⟨ob, 0, none⟩)]
/-- What the closures lean on. -/
structure Leans (c : Cf) (ob : Nat) (W : World) : Prop where
  ex : ∃ lb sb cp : Nat, topX c + 1 ≤ cp ∧ cp ≤ 9223372036854775807 ∧ W.cell? ⟨ob, 0, none⟩ = some (offFn lb) ∧ W.cell? ⟨lb, 0, none⟩ = some (.slice (some ⟨sb, 0, none⟩) (topX c + 1 : Nat) cp) ∧ LevX c sb W
theorem Leans.below {c : Cf} {ob : Nat} {W X : World} (h : Leans c ob W) (hb : Below W.heap.size W X) : Leans c ob X := by
  obtain ⟨lb, sb, cp, h1, h2, h3, h4, h5⟩ := h
  exact ⟨lb, sb, cp, h1, h2, (hb.cell (World.block_lt_of_cell? _ _ h3)).trans h3, (hb.cell (World.block_lt_of_cell? _ _ h4)).trans h4, h5.below hb⟩

set_option maxRecDepth 100000 in
set_option maxHeartbeats 4000000 in
theorem pReadX_any {c : Cf} {C N K : Nat} (s : SzX c C N K) (ob h : Nat) (i : Int) (hh : h ≤ topX c) (hi : -1 ≤ i ∧ i ≤ 300) (w : World) (hl : Leans c ob w) :
    Calls Tryd.prog 99 #[.int .i64 h, .int .i64 i, .pointer (some ⟨ob, 0, none⟩)] w (Ret2 (acv ⟨1, (offX c h i).toNat, 0, 0, 0, 0, 0⟩) (.bool (decide (0 ≤ offX c h i))) w) := by
  obtain ⟨lb, sb, cp, h1, h2, h3, h4, h5⟩ := hl
  have HO := Lib.hid (fun W hl hL => pOffX_any s lb sb cp h i hh hi ⟨h1, h2⟩ W hl hL)
  have H4 := Lib.hid h4
  have H5 := Lib.hid h5
  have hlt := World.block_lt_of_cell? _ _ h4
  have hlo := World.block_lt_of_cell? _ _ h3
  clear h5 h4 s
  generalize (offX c h i).toNat = O at *
  generalize decide (0 ≤ offX c h i) = D at *
  unfold acv
  unfold offFn at h3
  simp only
  go_enter Tryd.func99, Tryd.ntmps99
  go_wp2_with (go_at_call 98; refine (HO.out _ (((below_one w _).cell hlt).trans H4.out) (H5.out.below (below_one _ _))).mono ?_; rintro e w1 ⟨rfl, hb1⟩; have HB := Lib.hid (below_then (below_one w _) hb1); have G2 := blk_below (heap_alloc_new w _) hb1; obtain ⟨u0, v0, u1, v1, u2, v2, u3, v3, u4, v4, u5, v5, u6, v6⟩ := cells7 G2; clear hb1 G2)
  refine bodyPost_ret (v := .tuple #[.agg #[.int .u8 1, .int .i64 O, .int .u64 0, .int .u64 0, .int .u64 0, .int .i64 0, .int .u32 0], .bool D]) ?_ rfl ⟨rfl, ?_⟩
  · simp [results, Tryd.results99, go_sem, u0, u1, u2, u3, u4, u5, u6]
  · (repeat' (first | with_reducible exact HB.out | (with_reducible refine Below.setCell ?_ ?_ _))) <;> (simp; try omega)

set_option maxRecDepth 100000 in
set_option maxHeartbeats 4000000 in
theorem pWriteX_any {c : Cf} {C N K : Nat} (s : SzX c C N K) (ob h : Nat) (i : Int) (a b : Nat) (hh : h ≤ topX c) (hi : -1 ≤ i ∧ i ≤ 300) (w : World) (hl : Leans c ob w) :
    Calls Tryd.prog 100 #[.int .i64 h, .int .i64 i, .int .u64 a, .int .u64 b, .pointer (some ⟨ob, 0, none⟩)] w (Ret2 (acv ⟨2, (offX c h i).toNat, a, b, 0, 0, 0⟩) (.bool (decide (0 ≤ offX c h i))) w) := by
  obtain ⟨lb, sb, cp, h1, h2, h3, h4, h5⟩ := hl
  have HO := Lib.hid (fun W hl hL => pOffX_any s lb sb cp h i hh hi ⟨h1, h2⟩ W hl hL)
  have H4 := Lib.hid h4
  have H5 := Lib.hid h5
  have hlt := World.block_lt_of_cell? _ _ h4
  have hlo := World.block_lt_of_cell? _ _ h3
  clear h5 h4 s
  generalize (offX c h i).toNat = O at *
  generalize decide (0 ≤ offX c h i) = D at *
  unfold acv
  unfold offFn at h3
  simp only
  go_enter Tryd.func100, Tryd.ntmps100
  go_wp2_with (go_at_call 98; refine (HO.out _ (((below_one w _).cell hlt).trans H4.out) (H5.out.below (below_one _ _))).mono ?_; rintro e w1 ⟨rfl, hb1⟩; have HB := Lib.hid (below_then (below_one w _) hb1); have G2 := blk_below (heap_alloc_new w _) hb1; obtain ⟨u0, v0, u1, v1, u2, v2, u3, v3, u4, v4, u5, v5, u6, v6⟩ := cells7 G2; clear hb1 G2)
  refine bodyPost_ret (v := .tuple #[.agg #[.int .u8 2, .int .i64 O, .int .u64 a, .int .u64 b, .int .u64 0, .int .i64 0, .int .u32 0], .bool D]) ?_ rfl ⟨rfl, ?_⟩
  · simp [results, Tryd.results100, go_sem, u0, u1, u2, u3, u4, u5, u6]
  · (repeat' (first | with_reducible exact HB.out | (with_reducible refine Below.setCell ?_ ?_ _))) <;> (simp; try omega)

/-- The two makers, and what they lean on. -/
def RetM (c : Cf) (w : World) (e : Ending) (w' : World) : Prop := ∃ ob : Nat, e = .returned (.tuple #[readFn ob, writeFn ob]) ∧ Leans c ob w' ∧ Below w.heap.size w w'
set_option maxRecDepth 100000 in
set_option maxHeartbeats 4000000 in
theorem pMakers_any (c : Cf) (sb cp : Nat) (hcp : topX c + 1 ≤ cp ∧ cp ≤ 9223372036854775807) (w : World) (hL : LevX c sb w) :
    Calls Tryd.prog 57 #[.slice (some ⟨sb, 0, none⟩) (topX c + 1 : Nat) cp] w (RetM c w) := by
  have HL := Lib.hid hL
  clear hL
  go_enter Tryd.func57, Tryd.ntmps57
  go_wp2
  refine bodyPost_ret (v := .tuple #[readFn (w.heap.size + 1), writeFn (w.heap.size + 1)]) ?_ rfl ⟨w.heap.size + 1, rfl, ⟨w.heap.size, sb, cp, hcp.1, hcp.2, ?_, ?_, HL.out.below (below_two w _ _)⟩, below_two w _ _⟩
  · simp [results, Tryd.results57, go_sem, readFn, writeFn]
  · simp [go_sem, offFn]
  · simp [go_sem]
end Go.Proofs.YtmkehailohgebaaDoor
