/- A region that draws its order, and the reads that it may make of what was there; worlds that get a name. A cell as a value. The document's own program of an index: its levels, offsets, what the table has, a frame's numbers. The document's own program of an index: what Pcs the table has. -/
import Derived.Test.YtmkehailohgebaaDoorGTr
import Derived.Test.YtmkehailohgebaaDoorGKit
import Derived.BigQuiet
import Derived.Deep.DeepCutAuto
import Derived.Deep.LoopGhost
import Derived.Test.YtmkehailohgebaaDoorGOpen
import Derived.Test.YtmkehailohgebaaDoorGTe1
import Derived.Test.YtmkehailohgebaaDoorGOld
import Derived.Test.YtmkehailohgebaaDoorGRr
namespace Go.Proofs.YtmkehailohgebaaDoor
open Go.RowKit Go.Lib Pt Opn

/-- What lay in W reads so in every world that has only grown. -/
theorem reads_regrown (W : World) : ∀ b o, b < W.heap.size → ∀ d os, (Go.Sort.grow (redrawn W d) os).cell? ⟨b, o, none⟩ = W.cell? ⟨b, o, none⟩ := fun b o h d os => (below_regrown W d os).cell (p := ⟨b, o, none⟩) h

section
open Go.Sort
variable {P : Program} {id : Nat} {Q : Exit → Act → World → Prop} {a : Act} {w : World} {l : List Oper}
/-- A region that draws its order, and the reads that it may make of what was there. -/
theorem wp_region_quiet_reads (hm : P.follows .mixedOrders = true) (hB : Region.lexB .any l.toArray = true)
    (h : (∀ b o, b < w.heap.size → ∀ d os, (grow (redrawn w d) os).cell? ⟨b, o, none⟩ = w.cell? ⟨b, o, none⟩) → wpQuiet P l.toArray (fun w' => ∃ p : Regrown, w' = grow (redrawn w p.d) p.os) (fun a' => ∀ w', (∃ p : Regrown, w' = grow (redrawn w p.d) p.os) → Q .normal a' w') l a) : (Code.region id l.toArray true).wp P Q a w :=
  wp_region_quiet_below hm hB (h (reads_regrown w))
theorem wp_region_tail_reads (n : Nat) (hm : P.follows .mixedOrders = true) (hB : Region.lexTailB .any l.toArray n = true)
    (h : (∀ b o, b < w.heap.size → ∀ d os, (grow (redrawn w d) os).cell? ⟨b, o, none⟩ = w.cell? ⟨b, o, none⟩) → wpQuiet P l.toArray (fun w' => ∃ p : Regrown, w' = grow (redrawn w p.d) p.os) (fun a' => ∀ w', (∃ p : Regrown, w' = grow (redrawn w p.d) p.os) → wpList P l.toArray Q (l.drop n) a' w') (l.take n) a) : (Code.region id l.toArray true).wp P Q a w :=
  wp_region_tail_below n hm hB (h (reads_regrown w))
end

/-- Two new blocks: the world gets a name. -/
theorem ent2 {P : Program} {code : Code} {Q : Exit → Act → World → Prop} {x : Act} {w : World} {a b : Obj}
    (h : ∀ W, Below w.heap.size w W → W.heap[w.heap.size]? = some a → W.heap[w.heap.size + 1]? = some b → w.heap.size < W.heap.size → w.heap.size + 1 < W.heap.size → code.wp P Q x W) : code.wp P Q x ((w.alloc a).alloc b) :=
  h _ (below_two w a b) (((below_one (w.alloc a) b).block w.heap.size (by simp)).trans (heap_alloc_new w a)) (by simpa using heap_alloc_new (w.alloc a) b) (by simp; omega) (by simp)
theorem cl12 {w : World} {g : Nat} {a0 a1 a2 a3 a4 a5 a6 a7 a8 a9 a10 a11 : Value} {t : TypeId} (hh : w.heap[g]? = some (.cells #[a0, a1, a2, a3, a4, a5, a6, a7, a8, a9, a10, a11] t (0, 0))) :
    w.cell? ⟨g, 0, none⟩ = some a0 ∧ w.cell? ⟨g, 1, none⟩ = some a1 ∧ w.cell? ⟨g, 2, none⟩ = some a2 ∧ w.cell? ⟨g, 3, none⟩ = some a3 ∧ w.cell? ⟨g, 4, none⟩ = some a4 ∧ w.cell? ⟨g, 5, none⟩ = some a5 ∧ w.cell? ⟨g, 6, none⟩ = some a6 ∧ w.cell? ⟨g, 7, none⟩ = some a7 ∧ w.cell? ⟨g, 8, none⟩ = some a8 ∧ w.cell? ⟨g, 9, none⟩ = some a9 ∧ w.cell? ⟨g, 10, none⟩ = some a10 ∧ w.cell? ⟨g, 11, none⟩ = some a11 := by
  refine ⟨?_, ?_, ?_, ?_, ?_, ?_, ?_, ?_, ?_, ?_, ?_, ?_⟩ <;> simp [World.cell?, hh]
theorem cl11 {w : World} {g : Nat} {a0 a1 a2 a3 a4 a5 a6 a7 a8 a9 a10 : Value} {t : TypeId} (hh : w.heap[g]? = some (.cells #[a0, a1, a2, a3, a4, a5, a6, a7, a8, a9, a10] t (0, 0))) :
    w.cell? ⟨g, 0, none⟩ = some a0 ∧ w.cell? ⟨g, 1, none⟩ = some a1 ∧ w.cell? ⟨g, 2, none⟩ = some a2 ∧ w.cell? ⟨g, 3, none⟩ = some a3 ∧ w.cell? ⟨g, 4, none⟩ = some a4 ∧ w.cell? ⟨g, 5, none⟩ = some a5 ∧ w.cell? ⟨g, 6, none⟩ = some a6 ∧ w.cell? ⟨g, 7, none⟩ = some a7 ∧ w.cell? ⟨g, 8, none⟩ = some a8 ∧ w.cell? ⟨g, 9, none⟩ = some a9 ∧ w.cell? ⟨g, 10, none⟩ = some a10 := by
  refine ⟨?_, ?_, ?_, ?_, ?_, ?_, ?_, ?_, ?_, ?_, ?_⟩ <;> simp [World.cell?, hh]
end Go.Proofs.YtmkehailohgebaaDoor

namespace Go.Proofs.YtmkehailohgebaaDoor
open Go.RowKit Go.Lib Opn

/-- A cell. -/
def cvT (t A B C : Nat) : Value := .agg #[.int .u64 (t : Nat), .int .u64 (A : Nat), .int .u64 (B : Nat), .int .u64 (C : Nat)]
end Go.Proofs.YtmkehailohgebaaDoor

namespace Go.Proofs.YtmkehailohgebaaDoor
open Go.RowKit Pt Opn

set_option maxHeartbeats 4000000 in
theorem rTopX_any {c : Cf} {C N K : Nat} (s : SzX c C N K) (w : World) : Calls Tryd.prog 18 #[cfv c] w (Ret (.int .i64 (topX c : Nat)) w) := by
  have HT := Lib.hid (fun W => rTop_nat C N s.c2 s.n1 s.n2 W)
  rw [s.top]
  unfold cfv
  rw [s.cap, s.node]
  clear s
  go_enter Tryd.func18, Tryd.ntmps18
  go_wp2_with (go_at_call 40; refine (HT.out _).mono ?_; rintro e w1 ⟨rfl, hb1⟩; obtain ⟨hc1, hf1⟩ := bcell hb1)
  go_ret
  exact Ret.mk rfl (below_then (below_one _ _) hb1)
set_option maxHeartbeats 4000000 in
theorem rUpX_any {c : Cf} {C N K : Nat} (s : SzX c C N K) (n h : Nat) (hn : n ≤ 32) (hh : h ≤ 4) (w : World) : Calls Tryd.prog 75 #[cfv c, .int .u8 n, .int .u8 h] w (Ret (.int .i64 (upX c n h : Nat)) w) := by
  have HI := Lib.hid (fun W => rItems_nat n N h hn s.n1 s.n2 hh W)
  rw [s.up]
  unfold cfv
  rw [s.cap, s.node]
  clear s
  go_enter Tryd.func75, Tryd.ntmps75
  go_wp2_with (go_at_call 28; refine (HI.out _).mono ?_; rintro e w1 ⟨rfl, hb1⟩; obtain ⟨hc1, hf1⟩ := bcell hb1)
  go_ret
  exact Ret.mk rfl (below_then (below_one _ _) hb1)
theorem baseX_le {c : Cf} {C N K : Nat} (s : SzX c C N K) {h : Nat} (hh : h ≤ topX c) : baseX c h ≤ 64 := by
  have := its_le (c := c) (by rw [s.cap]; have := s.c1; have := s.c2; omega) (by rw [s.node]; have := s.n1; have := s.n2; omega) (k := h) (by unfold lvs; unfold topX at hh; omega)
  rw [base_eq]
  omega
set_option maxRecDepth 100000 in
set_option maxHeartbeats 8000000 in
theorem rOffX_any {c : Cf} {C N K : Nat} (s : SzX c C N K) (h i : Int) (hh : 0 ≤ h ∧ h ≤ 255) (_hi : -1 ≤ i ∧ i ≤ 255) (w : World) : Calls Tryd.prog 27 #[cfv c, .int .i64 h, .int .i64 i] w (Ret (.int .i64 (offX c h i)) w) := by
  obtain ⟨H, rfl⟩ : ∃ H : Nat, h = H := ⟨h.toNat, by omega⟩
  have t4 := topX_le c
  have HT := Lib.hid (fun W => rTopX_any s W)
  have HI := Lib.hid (fun k (hk : k ≤ 4) W => rItems_nat C N k s.c2 s.n1 s.n2 hk W)
  have hoff := s.off H i
  have hbase : ∀ k, k ≤ topX c → baseX c k ≤ 64 := fun k hk => baseX_le s hk
  have hb0 : baseX c 0 = 1 := rfl
  have hbs : ∀ k, baseX c (k + 1) = baseX c k + Rk.items C N k := fun k => by rw [show baseX c (k + 1) = baseX c k + upX c c.cap.toNat k from rfl, s.up, s.cap']
  have hit : ∀ k, k ≤ 4 → Rk.items C N k ≤ 32 := fun k hk => Rk.items_le s.c2 s.n1 s.n2 hk
  obtain ⟨X, hX⟩ : ∃ X, offX c H i = X := ⟨_, rfl⟩
  rw [hX] at hoff ⊢
  simp only [Int.toNat_natCast] at hoff
  have HB := Lib.hid (And.intro hbase (And.intro hb0 hbs))
  unfold cfv at *
  rw [s.cap, s.node] at *
  generalize baseX c = bs at *
  generalize topX c = T at *
  clear s hX hbase hb0 hbs _hi
  by_cases h1 : H ≤ T
  case neg =>
    rw [if_neg (by omega)] at hoff
    subst hoff
    have h1' : (T : Int) < (H : Int) := by omega
    clear hit HB HI
    go_enter Tryd.func27, Tryd.ntmps27
    go_wp2_with (go_at_call 18; refine (HT.out _).mono ?_; rintro e w1 ⟨rfl, hb1⟩; obtain ⟨hc1, hf1⟩ := bcell hb1)
    go_ret
    exact Ret.mk rfl (below_then (below_one _ _) hb1)
  have h1' : ¬ (T : Int) < (H : Int) := by omega
  by_cases h2 : i < 0
  case pos =>
    rw [if_neg (by omega)] at hoff
    subst hoff
    clear hit HB HI
    go_enter Tryd.func27, Tryd.ntmps27
    go_wp2_with (go_at_call 18; refine (HT.out _).mono ?_; rintro e w1 ⟨rfl, hb1⟩; obtain ⟨hc1, hf1⟩ := bcell hb1)
    go_ret
    exact Ret.mk rfl (below_then (below_one _ _) hb1)
  obtain ⟨I, rfl⟩ : ∃ I : Nat, i = I := ⟨i.toNat, by omega⟩
  have HIH := Lib.hid (fun W => HI.out H (by omega) W)
  have hIle := hit H (by omega)
  by_cases h3 : I < Rk.items C N H
  case neg =>
    rw [if_neg (by omega)] at hoff
    subst hoff
    have h3' : ((Rk.items C N H : Nat) : Int) ≤ (I : Int) := by omega
    clear hit HB HI
    go_enter Tryd.func27, Tryd.ntmps27
    go_wp2_with (first
      | (go_at_call 18; refine (HT.out _).mono ?_; rintro e w1 ⟨rfl, hb1⟩; obtain ⟨hc1, hf1⟩ := bcell hb1)
      | (go_at_call 28; refine (HIH.out _).mono ?_; rintro e w2 ⟨rfl, hb2⟩))
    go_ret
    exact Ret.mk rfl (below_then (below_then (below_one _ _) hb1) hb2)
  rw [if_pos (by omega)] at hoff
  subst hoff
  have h3' : ¬ ((Rk.items C N H : Nat) : Int) ≤ (I : Int) := by omega
  have H4 : H ≤ 4 := by omega
  have HHT := Lib.hid h1
  have hI32 : I ≤ 32 := by omega
  clear h1 t4 h3 hIle
  go_enter Tryd.func27, Tryd.ntmps27
  go_wp2_with (first
    | (go_at_call 18; refine (HT.out _).mono ?_; rintro e w1 ⟨rfl, hb1⟩; obtain ⟨hc1, hf1⟩ := bcell hb1)
    | (go_at_call 28; refine (HIH.out _).mono ?_; rintro e w2 ⟨rfl, hb2⟩))
  have HBW := Lib.hid (below_then (below_then (below_one _ _) hb1) hb2)
  obtain ⟨hc2, hf2⟩ := bcell hb2
  have HIT := Lib.hid hit
  have z2 : w.heap.size < w2.heap.size := by have := hb1.size; have := hb2.size; simp at *; omega
  have y6 : w2.cell? ⟨w.heap.size, 6, none⟩ = some (.int .i64 C) := by rw [hc2 _ _ (by have := hb1.size; simp at this; omega), hc1 _ _ (by simp)]; simp [go_sem]
  have y7 : w2.cell? ⟨w.heap.size, 7, none⟩ = some (.int .i64 N) := by rw [hc2 _ _ (by have := hb1.size; simp at this; omega), hc1 _ _ (by simp)]; simp [go_sem]
  have HW := Lib.hid (And.intro HBW.out (And.intro z2 (And.intro y6 y7)))
  clear hb1 hb2 h1' h3' h2 hit HT HIH hc1 hf1 hc2 hf2 HBW z2 y6 y7
  rename_i q1 q2 KK hKK
  clear q1 q2
  go_loopg [7, 8] H (fun g nv kv wr => ∃ k : Nat, k ≤ H ∧ g = H - k ∧ nv = .int .i64 (bs k : Nat) ∧ kv = .int .i64 k ∧ Hid (Below w.heap.size w wr ∧ w.heap.size < wr.heap.size ∧ wr.cell? ⟨w.heap.size, 6, none⟩ = some (.int .i64 C) ∧ wr.cell? ⟨w.heap.size, 7, none⟩ = some (.int .i64 N)))
  case atStart => exact ⟨0, Nat.zero_le _, rfl, by rw [HB.out.2.1]; rfl, rfl, HW⟩
  case round =>
    obtain ⟨k, hk, rfl, rfl, rfl, HR⟩ := hrel
    obtain ⟨hbr, z2, y6, y7⟩ := HR.out
    have hbk := HB.out.1 k (by have := HHT.out; omega)
    have hik := HIT.out k (by omega)
    by_cases hlt : k < H
    · have hnext := HB.out.2.2 k
      have HNX := Lib.hid hnext
      have HIK := Lib.hid (fun W => HI.out k (by omega) W)
      have HBR := Lib.hid hbr
      clear hbr hnext HW
      go_wp2_with (go_at_call 28; refine (HIK.out _).mono ?_; rintro e w3 ⟨rfl, hb3⟩)
      go_roundg (H - (k + 1))
      case measure => omega
      case rel =>
        obtain ⟨hc3, hf3⟩ := bcell hb3
        exact ⟨k + 1, by omega, rfl, i64_eq (by rw [HNX.out]; push_cast; rfl), by go_num, Lib.hid ⟨below_then HBR.out hb3, by have := hb3.size; omega, (hc3 _ _ z2).trans y6, (hc3 _ _ z2).trans y7⟩⟩
    · obtain rfl : k = H := by omega
      go_wp2
      go_ret
      exact Ret.mk rfl hbr
end Go.Proofs.YtmkehailohgebaaDoor

namespace Go.Proofs.YtmkehailohgebaaDoor
open Go.RowKit Pt Opn

theorem lit_cell (w : World) (L : List Nat) (t : TypeId) {j u : Nat} (h : L[j]? = some u) : (w.alloc (.cells (L.map fun (x : Nat) => Value.int .u8 (x : Nat)).toArray t)).cell? ⟨w.heap.size, j, none⟩ = some (.int .u8 (u : Nat)) := by
  refine (World.cell?_alloc_mark w _ t (0, 0) j).trans ?_
  simp [h]
theorem pcs_yes {L : List Nat} {j u p : Nat} (h : L[j]? = some u) (e : u = p) : p ∈ L := e ▸ List.mem_of_getElem? h
theorem pcs_no {L : List Nat} {p : Nat} (h : ∀ m, m < L.length → L[m]? ≠ some p) : ¬ p ∈ L := fun g => by
  obtain ⟨m, hm, e⟩ := List.mem_iff_getElem.1 g
  exact h m hm (by rw [List.getElem?_eq_getElem hm, e])

set_option maxRecDepth 100000 in
set_option maxHeartbeats 4000000 in
theorem rThere_4 (p : Nat) (w : World) : Calls Tryd.prog 73 #[.int .u8 4, .int .u8 p] w (Ret (.bool (decide (ThereX 4 p))) w) := by
  have HC := Lib.hid (fun (j u : Nat) (h : ([0, 1, 4, 5, 6, 7, 8, 9, 11, 22, 23, 24] : List Nat)[j]? = some u) => (show (w.alloc (.cells #[.int .u8 0, .int .u8 1, .int .u8 4, .int .u8 5, .int .u8 6, .int .u8 7, .int .u8 8, .int .u8 9, .int .u8 11, .int .u8 22, .int .u8 23, .int .u8 24] 5)).cell? ⟨w.heap.size, j, none⟩ = some (.int .u8 (u : Nat)) from lit_cell w [0, 1, 4, 5, 6, 7, 8, 9, 11, 22, 23, 24] 5 h))
  have HS := Lib.hid (show ∀ j, j < 12 → ∃ u, ([0, 1, 4, 5, 6, 7, 8, 9, 11, 22, 23, 24] : List Nat)[j]? = some u from fun j hj => ⟨_, List.getElem?_eq_getElem (show j < ([0, 1, 4, 5, 6, 7, 8, 9, 11, 22, 23, 24] : List Nat).length from hj)⟩)
  obtain ⟨r, hr⟩ : ∃ r, decide (ThereX 4 p) = r := ⟨_, rfl⟩
  rw [hr]
  have HR := Lib.hid (show r = true ↔ p ∈ ([0, 1, 4, 5, 6, 7, 8, 9, 11, 22, 23, 24] : List Nat) by rw [← hr]; exact decide_eq_true_iff)
  clear hr
  go_enter Tryd.func73, Tryd.ntmps73
  go_wp2
  go_loop [6] (fun v => ∃ j : Nat, j ≤ 12 ∧ v = .int .i64 j ∧ Hid (∀ m, m < j → ([0, 1, 4, 5, 6, 7, 8, 9, 11, 22, 23, 24] : List Nat)[m]? ≠ some p)) (fun v => 12 - (intOf v).toNat)
  case atStart => exact ⟨0, Nat.zero_le _, rfl, Lib.hid fun m hm => absurd hm (Nat.not_lt_zero m)⟩
  case round =>
    obtain ⟨j, hj, rfl, HN⟩ := hrel
    by_cases hlt : j < 12
    · obtain ⟨u, hu⟩ := HS.out j hlt
      have hcell := HC.out j u hu
      have HU := Lib.hid hu
      clear hu
      by_cases e : u = p
      · have e2 : ((u : Int) == (p : Int)) = true := by simp [e]
        have HE := Lib.hid e
        clear e
        go_wp2
        go_ret
        exact Ret.mk (bool_eq (((HR.out).2 (pcs_yes HU.out HE.out)).symm)) (below_one _ _)
      · have e2 : ((u : Int) == (p : Int)) = false := by simp; omega
        have HE := Lib.hid e
        clear e
        go_wp2
        go_round
        case rel =>
          refine ⟨j + 1, by omega, by go_num, Lib.hid fun m hm => ?_⟩
          by_cases g : m = j
          · rw [g, HU.out]
            intro q
            injection q with q
            exact HE.out q
          · exact HN.out m (by omega)
        case measure => simp [intOf]; omega
    · obtain rfl : j = 12 := by omega
      go_wp2
      go_ret
      refine Ret.mk (bool_eq ?_) (below_one _ _)
      have := mt HR.out.1 (pcs_no (L := [0, 1, 4, 5, 6, 7, 8, 9, 11, 22, 23, 24]) HN.out)
      simp at this
      exact this.symm

set_option maxRecDepth 100000 in
set_option maxHeartbeats 4000000 in
theorem rThere_5 (p : Nat) (w : World) : Calls Tryd.prog 73 #[.int .u8 5, .int .u8 p] w (Ret (.bool (decide (ThereX 5 p))) w) := by
  have HC := Lib.hid (fun (j u : Nat) (h : ([0, 1, 8, 9, 11, 12, 13, 14, 15, 21, 25] : List Nat)[j]? = some u) => (show (w.alloc (.cells #[.int .u8 0, .int .u8 1, .int .u8 8, .int .u8 9, .int .u8 11, .int .u8 12, .int .u8 13, .int .u8 14, .int .u8 15, .int .u8 21, .int .u8 25] 5)).cell? ⟨w.heap.size, j, none⟩ = some (.int .u8 (u : Nat)) from lit_cell w [0, 1, 8, 9, 11, 12, 13, 14, 15, 21, 25] 5 h))
  have HS := Lib.hid (show ∀ j, j < 11 → ∃ u, ([0, 1, 8, 9, 11, 12, 13, 14, 15, 21, 25] : List Nat)[j]? = some u from fun j hj => ⟨_, List.getElem?_eq_getElem (show j < ([0, 1, 8, 9, 11, 12, 13, 14, 15, 21, 25] : List Nat).length from hj)⟩)
  obtain ⟨r, hr⟩ : ∃ r, decide (ThereX 5 p) = r := ⟨_, rfl⟩
  rw [hr]
  have HR := Lib.hid (show r = true ↔ p ∈ ([0, 1, 8, 9, 11, 12, 13, 14, 15, 21, 25] : List Nat) by rw [← hr]; exact decide_eq_true_iff)
  clear hr
  go_enter Tryd.func73, Tryd.ntmps73
  go_wp2
  go_loop [6] (fun v => ∃ j : Nat, j ≤ 11 ∧ v = .int .i64 j ∧ Hid (∀ m, m < j → ([0, 1, 8, 9, 11, 12, 13, 14, 15, 21, 25] : List Nat)[m]? ≠ some p)) (fun v => 11 - (intOf v).toNat)
  case atStart => exact ⟨0, Nat.zero_le _, rfl, Lib.hid fun m hm => absurd hm (Nat.not_lt_zero m)⟩
  case round =>
    obtain ⟨j, hj, rfl, HN⟩ := hrel
    by_cases hlt : j < 11
    · obtain ⟨u, hu⟩ := HS.out j hlt
      have hcell := HC.out j u hu
      have HU := Lib.hid hu
      clear hu
      by_cases e : u = p
      · have e2 : ((u : Int) == (p : Int)) = true := by simp [e]
        have HE := Lib.hid e
        clear e
        go_wp2
        go_ret
        exact Ret.mk (bool_eq (((HR.out).2 (pcs_yes HU.out HE.out)).symm)) (below_one _ _)
      · have e2 : ((u : Int) == (p : Int)) = false := by simp; omega
        have HE := Lib.hid e
        clear e
        go_wp2
        go_round
        case rel =>
          refine ⟨j + 1, by omega, by go_num, Lib.hid fun m hm => ?_⟩
          by_cases g : m = j
          · rw [g, HU.out]
            intro q
            injection q with q
            exact HE.out q
          · exact HN.out m (by omega)
        case measure => simp [intOf]; omega
    · obtain rfl : j = 11 := by omega
      go_wp2
      go_ret
      refine Ret.mk (bool_eq ?_) (below_one _ _)
      have := mt HR.out.1 (pcs_no (L := [0, 1, 8, 9, 11, 12, 13, 14, 15, 21, 25]) HN.out)
      simp at this
      exact this.symm

set_option maxRecDepth 100000 in
set_option maxHeartbeats 4000000 in
theorem rThere_6 (p : Nat) (w : World) : Calls Tryd.prog 73 #[.int .u8 6, .int .u8 p] w (Ret (.bool (decide (ThereX 6 p))) w) := by
  have HC := Lib.hid (fun (j u : Nat) (h : ([0, 1, 21, 23] : List Nat)[j]? = some u) => (show (w.alloc (.cells #[.int .u8 0, .int .u8 1, .int .u8 21, .int .u8 23] 5)).cell? ⟨w.heap.size, j, none⟩ = some (.int .u8 (u : Nat)) from lit_cell w [0, 1, 21, 23] 5 h))
  have HS := Lib.hid (show ∀ j, j < 4 → ∃ u, ([0, 1, 21, 23] : List Nat)[j]? = some u from fun j hj => ⟨_, List.getElem?_eq_getElem (show j < ([0, 1, 21, 23] : List Nat).length from hj)⟩)
  obtain ⟨r, hr⟩ : ∃ r, decide (ThereX 6 p) = r := ⟨_, rfl⟩
  rw [hr]
  have HR := Lib.hid (show r = true ↔ p ∈ ([0, 1, 21, 23] : List Nat) by rw [← hr]; exact decide_eq_true_iff)
  clear hr
  go_enter Tryd.func73, Tryd.ntmps73
  go_wp2
  go_loop [6] (fun v => ∃ j : Nat, j ≤ 4 ∧ v = .int .i64 j ∧ Hid (∀ m, m < j → ([0, 1, 21, 23] : List Nat)[m]? ≠ some p)) (fun v => 4 - (intOf v).toNat)
  case atStart => exact ⟨0, Nat.zero_le _, rfl, Lib.hid fun m hm => absurd hm (Nat.not_lt_zero m)⟩
  case round =>
    obtain ⟨j, hj, rfl, HN⟩ := hrel
    by_cases hlt : j < 4
    · obtain ⟨u, hu⟩ := HS.out j hlt
      have hcell := HC.out j u hu
      have HU := Lib.hid hu
      clear hu
      by_cases e : u = p
      · have e2 : ((u : Int) == (p : Int)) = true := by simp [e]
        have HE := Lib.hid e
        clear e
        go_wp2
        go_ret
        exact Ret.mk (bool_eq (((HR.out).2 (pcs_yes HU.out HE.out)).symm)) (below_one _ _)
      · have e2 : ((u : Int) == (p : Int)) = false := by simp; omega
        have HE := Lib.hid e
        clear e
        go_wp2
        go_round
        case rel =>
          refine ⟨j + 1, by omega, by go_num, Lib.hid fun m hm => ?_⟩
          by_cases g : m = j
          · rw [g, HU.out]
            intro q
            injection q with q
            exact HE.out q
          · exact HN.out m (by omega)
        case measure => simp [intOf]; omega
    · obtain rfl : j = 4 := by omega
      go_wp2
      go_ret
      refine Ret.mk (bool_eq ?_) (below_one _ _)
      have := mt HR.out.1 (pcs_no (L := [0, 1, 21, 23]) HN.out)
      simp at this
      exact this.symm

set_option maxRecDepth 100000 in
set_option maxHeartbeats 4000000 in
theorem rThere_7 (p : Nat) (w : World) : Calls Tryd.prog 73 #[.int .u8 7, .int .u8 p] w (Ret (.bool (decide (ThereX 7 p))) w) := by
  have HC := Lib.hid (fun (j u : Nat) (h : ([0, 1, 3, 20, 21] : List Nat)[j]? = some u) => (show (w.alloc (.cells #[.int .u8 0, .int .u8 1, .int .u8 3, .int .u8 20, .int .u8 21] 5)).cell? ⟨w.heap.size, j, none⟩ = some (.int .u8 (u : Nat)) from lit_cell w [0, 1, 3, 20, 21] 5 h))
  have HS := Lib.hid (show ∀ j, j < 5 → ∃ u, ([0, 1, 3, 20, 21] : List Nat)[j]? = some u from fun j hj => ⟨_, List.getElem?_eq_getElem (show j < ([0, 1, 3, 20, 21] : List Nat).length from hj)⟩)
  obtain ⟨r, hr⟩ : ∃ r, decide (ThereX 7 p) = r := ⟨_, rfl⟩
  rw [hr]
  have HR := Lib.hid (show r = true ↔ p ∈ ([0, 1, 3, 20, 21] : List Nat) by rw [← hr]; exact decide_eq_true_iff)
  clear hr
  go_enter Tryd.func73, Tryd.ntmps73
  go_wp2
  go_loop [6] (fun v => ∃ j : Nat, j ≤ 5 ∧ v = .int .i64 j ∧ Hid (∀ m, m < j → ([0, 1, 3, 20, 21] : List Nat)[m]? ≠ some p)) (fun v => 5 - (intOf v).toNat)
  case atStart => exact ⟨0, Nat.zero_le _, rfl, Lib.hid fun m hm => absurd hm (Nat.not_lt_zero m)⟩
  case round =>
    obtain ⟨j, hj, rfl, HN⟩ := hrel
    by_cases hlt : j < 5
    · obtain ⟨u, hu⟩ := HS.out j hlt
      have hcell := HC.out j u hu
      have HU := Lib.hid hu
      clear hu
      by_cases e : u = p
      · have e2 : ((u : Int) == (p : Int)) = true := by simp [e]
        have HE := Lib.hid e
        clear e
        go_wp2
        go_ret
        exact Ret.mk (bool_eq (((HR.out).2 (pcs_yes HU.out HE.out)).symm)) (below_one _ _)
      · have e2 : ((u : Int) == (p : Int)) = false := by simp; omega
        have HE := Lib.hid e
        clear e
        go_wp2
        go_round
        case rel =>
          refine ⟨j + 1, by omega, by go_num, Lib.hid fun m hm => ?_⟩
          by_cases g : m = j
          · rw [g, HU.out]
            intro q
            injection q with q
            exact HE.out q
          · exact HN.out m (by omega)
        case measure => simp [intOf]; omega
    · obtain rfl : j = 5 := by omega
      go_wp2
      go_ret
      refine Ret.mk (bool_eq ?_) (below_one _ _)
      have := mt HR.out.1 (pcs_no (L := [0, 1, 3, 20, 21]) HN.out)
      simp at this
      exact this.symm

set_option maxRecDepth 100000 in
set_option maxHeartbeats 4000000 in
theorem rThere_8 (p : Nat) (w : World) : Calls Tryd.prog 73 #[.int .u8 8, .int .u8 p] w (Ret (.bool (decide (ThereX 8 p))) w) := by
  have HC := Lib.hid (fun (j u : Nat) (h : ([0, 1, 16, 17, 20] : List Nat)[j]? = some u) => (show (w.alloc (.cells #[.int .u8 0, .int .u8 1, .int .u8 16, .int .u8 17, .int .u8 20] 5)).cell? ⟨w.heap.size, j, none⟩ = some (.int .u8 (u : Nat)) from lit_cell w [0, 1, 16, 17, 20] 5 h))
  have HS := Lib.hid (show ∀ j, j < 5 → ∃ u, ([0, 1, 16, 17, 20] : List Nat)[j]? = some u from fun j hj => ⟨_, List.getElem?_eq_getElem (show j < ([0, 1, 16, 17, 20] : List Nat).length from hj)⟩)
  obtain ⟨r, hr⟩ : ∃ r, decide (ThereX 8 p) = r := ⟨_, rfl⟩
  rw [hr]
  have HR := Lib.hid (show r = true ↔ p ∈ ([0, 1, 16, 17, 20] : List Nat) by rw [← hr]; exact decide_eq_true_iff)
  clear hr
  go_enter Tryd.func73, Tryd.ntmps73
  go_wp2
  go_loop [6] (fun v => ∃ j : Nat, j ≤ 5 ∧ v = .int .i64 j ∧ Hid (∀ m, m < j → ([0, 1, 16, 17, 20] : List Nat)[m]? ≠ some p)) (fun v => 5 - (intOf v).toNat)
  case atStart => exact ⟨0, Nat.zero_le _, rfl, Lib.hid fun m hm => absurd hm (Nat.not_lt_zero m)⟩
  case round =>
    obtain ⟨j, hj, rfl, HN⟩ := hrel
    by_cases hlt : j < 5
    · obtain ⟨u, hu⟩ := HS.out j hlt
      have hcell := HC.out j u hu
      have HU := Lib.hid hu
      clear hu
      by_cases e : u = p
      · have e2 : ((u : Int) == (p : Int)) = true := by simp [e]
        have HE := Lib.hid e
        clear e
        go_wp2
        go_ret
        exact Ret.mk (bool_eq (((HR.out).2 (pcs_yes HU.out HE.out)).symm)) (below_one _ _)
      · have e2 : ((u : Int) == (p : Int)) = false := by simp; omega
        have HE := Lib.hid e
        clear e
        go_wp2
        go_round
        case rel =>
          refine ⟨j + 1, by omega, by go_num, Lib.hid fun m hm => ?_⟩
          by_cases g : m = j
          · rw [g, HU.out]
            intro q
            injection q with q
            exact HE.out q
          · exact HN.out m (by omega)
        case measure => simp [intOf]; omega
    · obtain rfl : j = 5 := by omega
      go_wp2
      go_ret
      refine Ret.mk (bool_eq ?_) (below_one _ _)
      have := mt HR.out.1 (pcs_no (L := [0, 1, 16, 17, 20]) HN.out)
      simp at this
      exact this.symm

set_option maxRecDepth 100000 in
set_option maxHeartbeats 4000000 in
theorem rThereX_any (k p : Nat) (w : World) : Calls Tryd.prog 73 #[.int .u8 k, .int .u8 p] w (Ret (.bool (decide (ThereX k p))) w) := by
  by_cases e4 : k = 4
  · subst e4; exact rThere_4 p w
  by_cases e5 : k = 5
  · subst e5; exact rThere_5 p w
  by_cases e6 : k = 6
  · subst e6; exact rThere_6 p w
  by_cases e7 : k = 7
  · subst e7; exact rThere_7 p w
  by_cases e8 : k = 8
  · subst e8; exact rThere_8 p w
  have h4 : ((k : Int) == 4) = false := by simp; omega
  have h5 : ((k : Int) == 5) = false := by simp; omega
  have h6 : ((k : Int) == 6) = false := by simp; omega
  have h7 : ((k : Int) == 7) = false := by simp; omega
  have h8 : ((k : Int) == 8) = false := by simp; omega
  have hr : decide (ThereX k p) = false := by
    refine decide_eq_false ?_
    rw [thereX_iff]
    omega
  rw [hr]
  clear hr
  go_enter Tryd.func73, Tryd.ntmps73
  go_wp2
  go_loop [6] (fun v => v = .int .i64 0) (fun v => 0)
  case atStart => rfl
  case round =>
    obtain rfl := hrel
    go_wp2
    go_ret
    exact Ret.mk rfl (Below.refl _ _)
end Go.Proofs.YtmkehailohgebaaDoor
