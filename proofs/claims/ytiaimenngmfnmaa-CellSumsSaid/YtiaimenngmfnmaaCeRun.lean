/- A row of accesses, one behind the other. -/
import Derived.Test.YtiaimenngmfnmaaCeDid
namespace Go.Proofs.Ytiaimenngmfnmaa
open Go.RowKit Ce

theorem seen_info : (Try.prog.info? 27).map (fun i => (i.zero, i.size, i.bytes)) = some (some (.agg #[.int .u64 0, .int .u64 0, .int .u64 0, .int .u64 0, .bool false]), 5, 40) := by kernel_rfl

/-- make([]api.Seen, n). -/
theorem run_make_seen (n : Nat) (hn : n ≤ 1000000) (w : World) : (Instr.makeSlice 36 (.int .i64 (n : Nat)) (.int .i64 (n : Nat))).run Try.prog w =
    .ok (.slice (some ⟨w.heap.size, 0, none⟩) n n) (w.alloc (.cells (madeCells #[.int .u64 0, .int .u64 0, .int .u64 0, .int .u64 0, .bool false] (n * 5)) 27)) := by
  obtain ⟨i0, hi, hz0, hz1, hz2⟩ := info_parts seen_info
  have h := run_make (P := Try.prog) w 36 27 i0 _ Try.underlying36 hi hz0 .i64 .i64 n n (by omega) (by omega) (by rw [hz2]; omega) (by omega)
  rw [h, hz1]
  simp [Value.cells]
theorem row_made (w : World) (z : Array Value) (n : Nat) (t : TypeId) : ∃ F, (w.alloc (.cells (madeCells z n) t)).rowIs w.heap.size t n F :=
  ⟨fun i => (madeCells z n)[i]?.getD (.bool false), madeCells z n, heap_alloc_new w _, size_madeCells z n, fun i hi => by
    have : i < (madeCells z n).size := by rw [size_madeCells]; exact hi
    simp [this]⟩

/-- Five cells of a row are laid anew. -/
theorem set5 {w : World} {g m : Nat} {e : TypeId} {F : Nat → Value} (hr : w.rowIs g e m F) (i : Nat) (x : C4) (d : Bool) :
    ∃ G, (((((w.setCell ⟨g, i * 5, none⟩ (.int .u64 x.t)).setCell ⟨g, i * 5 + 1, none⟩ (.int .u64 x.a)).setCell ⟨g, i * 5 + 2, none⟩ (.int .u64 x.b)).setCell ⟨g, i * 5 + 3, none⟩ (.int .u64 x.c)).setCell ⟨g, i * 5 + 4, none⟩ (.bool d)).rowIs g e m G ∧
      HasL G (i * 5) (l5 x d) ∧ ∀ k l, k ≠ i → HasL F (k * 5) l → l.length = 5 → HasL G (k * 5) l := by
  refine ⟨_, ((((hr.set _ _).set _ _).set _ _).set _ _).set _ _, fun j u hu => ?_, fun k l hk hF hl j u hu => ?_⟩
  · match j, hu with
    | 0, hu => simpa [l5] using hu
    | 1, hu => simpa [l5] using hu
    | 2, hu => simpa [l5] using hu
    | 3, hu => simpa [l5] using hu
    | 4, hu => simpa [l5] using hu
  · have hj : j < 5 := by rw [← hl]; exact (List.getElem?_eq_some_iff.1 hu).1
    have := hF j u hu
    simp only
    rw [if_neg (by omega), if_neg (by omega), if_neg (by omega), if_neg (by omega), if_neg (by omega)]
    exact this

def RunBad (z : Int) (w : World) (e : Ending) (w' : World) : Prop := e = .returned (.tuple #[.slice none 0 0, .slice none 0 0, .int .i64 z]) ∧ Below w.heap.size w w'
def RunOk (n M : Nat) (cg sc : Nat → C4) (sd : Nat → Bool) (w : World) (e : Ending) (w' : World) : Prop :=
  ∃ A c S, e = .returned (.tuple #[.slice A n c, .slice S M M, .int .i64 0]) ∧ (A = none → n = 0 ∧ c = 0) ∧ Own w' w.heap.size 25 4 A n c (fun i => l4 (cg i)) ∧ IsSeen w' S M sc sd ∧
    (∀ g o g' o', A = some ⟨g, o, none⟩ → S = some ⟨g', o', none⟩ → 0 < n → g ≠ g') ∧ Below w.heap.size w w'

set_option maxHeartbeats 1000000 in
theorem run_long (A T : Option Addr) (n c M d : Nat) (h : 65536 < M) (w : World) : Calls Try.prog 11 #[.slice A n c, .slice T M d] w (RunBad 4 w) := by
  go_enter Try.func11, Try.ntmps11
  go_wp2
  exact bodyPost_ret (v := .tuple #[.slice none 0 0, .slice none 0 0, .int .i64 4]) (by simp [results, Try.results11, go_sem]) rfl ⟨rfl, Below.refl _ _⟩

set_option maxHeartbeats 1000000 in
theorem run_many (A T : Option Addr) (n c M d : Nat) (h : M ≤ 65536) (hn : 1024 < n) (w : World) : Calls Try.prog 11 #[.slice A n c, .slice T M d] w (RunBad 4 w) := by
  have t1 : decide ((65536 : Int) < M) = false := by simp; omega
  go_enter Try.func11, Try.ntmps11
  go_wp2_with (go_at_call 10; refine (new_many _ _ _ hn _).mono ?_; rintro e w1 ⟨rfl, hb1⟩)
  exact bodyPost_ret (v := .tuple #[.slice none 0 0, .slice none 0 0, .int .i64 4]) (by simp [results, Try.results11, go_sem]) rfl ⟨rfl, hb1⟩

/-- What is asked of Run where both lengths are kept. -/
def RunPost (n M : Nat) (cf : Nat → C4) (af : Nat → Acc) (w : World) (e : Ending) (w' : World) : Prop :=
  (okTo n af M = true → RunOk n M (st n cf af M) (sawC n cf af) (sawD n cf af) w e w') ∧ (okTo n af M = false → RunBad 2 w e w')
/-- Behind the first k accesses. -/
def RunAt (w : World) (gm gr gs : Nat) (A : Option Addr) (n c M : Nat) (cf : Nat → C4) (af : Nat → Acc) (k : Nat) (wr : World) : Prop :=
  Mem wr gm gr A n c (st n cf af k) ∧ Below w.heap.size w wr ∧ ∃ F, wr.rowIs gs 27 (M * 5) F ∧ ∀ j, j < k → HasL F (j * 5) (l5 (sawC n cf af j) (sawD n cf af j))
theorem at10_flat {w : World} {g o : Nat} {a : Acc} (h : At10 w g o a) : w.cell? ⟨g, o, none⟩ = some (.int .u8 a.k) ∧ w.cell? ⟨g, o + 1, none⟩ = some (.int .i64 a.i) ∧ w.cell? ⟨g, o + 2, none⟩ = some (.int .u64 a.o.t) ∧ w.cell? ⟨g, o + 3, none⟩ = some (.int .u64 a.o.a) ∧ w.cell? ⟨g, o + 4, none⟩ = some (.int .u64 a.o.b) ∧ w.cell? ⟨g, o + 5, none⟩ = some (.int .u64 a.o.c) ∧
    w.cell? ⟨g, o + 6, none⟩ = some (.int .u64 a.n.t) ∧ w.cell? ⟨g, o + 7, none⟩ = some (.int .u64 a.n.a) ∧ w.cell? ⟨g, o + 8, none⟩ = some (.int .u64 a.n.b) ∧ w.cell? ⟨g, o + 9, none⟩ = some (.int .u64 a.n.c) :=
  ⟨h.1, h.2.1, h.2.2.1.1, h.2.2.1.2.1, h.2.2.1.2.2.1, h.2.2.1.2.2.2, h.2.2.2.1, h.2.2.2.2.1, h.2.2.2.2.2.1, h.2.2.2.2.2.2⟩

theorem run_step {w wr w2 : World} {o : Obj} {gm gr gs : Nat} {A : Option Addr} {n c M k : Nat} {cf : Nat → C4} {af : Nat → Acc} (hs : w.heap.size ≤ gs) (hr0 : w.heap.size ≤ gr) (hgm : gs ≠ gm) (hgr : gs ≠ gr) (hm : mayB n (af k) = true) (h : RunAt w gm gr gs A n c M cf af k wr)
    (hM : Mem w2 gm gr A n c (upd (st n cf af k) (af k).i.toNat (becomes (st n cf af k (af k).i.toNat) (af k)))) (hO : Only (fun k => k = gr) (wr.alloc o) w2) :
    RunAt w gm gr gs A n c M cf af (k + 1) (((((w2.setCell ⟨gs, k * 5, none⟩ (.int .u64 (st n cf af k (af k).i.toNat).t)).setCell ⟨gs, k * 5 + 1, none⟩ (.int .u64 (st n cf af k (af k).i.toNat).a)).setCell ⟨gs, k * 5 + 2, none⟩ (.int .u64 (st n cf af k (af k).i.toNat).b)).setCell ⟨gs, k * 5 + 3, none⟩ (.int .u64 (st n cf af k (af k).i.toNat).c)).setCell ⟨gs, k * 5 + 4, none⟩ (.bool (doneB (st n cf af k (af k).i.toNat) (af k)))) := by
  obtain ⟨_, hb, F, hF, hj⟩ := h
  have hF1 := hF.alloc o
  have hF2 := hF1.of_block (hO.block gs hF1.lt hgr)
  obtain ⟨G, hG, g1, g2⟩ := set5 hF2 k (st n cf af k (af k).i.toNat) (doneB (st n cf af k (af k).i.toNat) (af k))
  have e1 : sawC n cf af k = st n cf af k (af k).i.toNat := by unfold sawC; rw [if_pos hm]
  have e2 : sawD n cf af k = doneB (st n cf af k (af k).i.toNat) (af k) := by unfold sawD; rw [if_pos hm]
  have e3 : st n cf af (k + 1) = upd (st n cf af k) (af k).i.toNat (becomes (st n cf af k (af k).i.toNat) (af k)) := by show Ce.step n _ _ = _; unfold Ce.step; rw [if_pos hm]
  refine ⟨by rw [e3]; exact ((((hM.setCell hgm hgr).setCell hgm hgr).setCell hgm hgr).setCell hgm hgr).setCell hgm hgr, ?_, G, hG, fun j hjk => ?_⟩
  · have h1 : Below w.heap.size w w2 := (Only.then_below (n := w.heap.size) (Nat.le_refl _) (hb.alloc hb.size o) hO fun k hk => by rw [hk]; exact hr0)
    exact ((((h1.setCell (p := ⟨gs, k * 5, none⟩) hs _).setCell (p := ⟨gs, k * 5 + 1, none⟩) hs _).setCell (p := ⟨gs, k * 5 + 2, none⟩) hs _).setCell (p := ⟨gs, k * 5 + 3, none⟩) hs _).setCell (p := ⟨gs, k * 5 + 4, none⟩) hs _
  · by_cases e : j = k
    · subst e; rw [e1, e2]; exact g1
    · exact g2 j _ e (hj j (by omega)) rfl

theorem run_left {w wr w2 : World} {o : Obj} {gs k : Nat} {v0 v1 v2 v3 v4 : Value} (hs : w.heap.size ≤ gs) (hb : Below w.heap.size w wr) (hb2 : Below (wr.alloc o).heap.size (wr.alloc o) w2) :
    Below w.heap.size w (((((w2.setCell ⟨gs, k * 5, none⟩ v0).setCell ⟨gs, k * 5 + 1, none⟩ v1).setCell ⟨gs, k * 5 + 2, none⟩ v2).setCell ⟨gs, k * 5 + 3, none⟩ v3).setCell ⟨gs, k * 5 + 4, none⟩ v4) := by
  have h1 := below_then hb (below_then (below_one wr o) hb2)
  exact ((((h1.setCell (p := ⟨gs, k * 5, none⟩) hs _).setCell (p := ⟨gs, k * 5 + 1, none⟩) hs _).setCell (p := ⟨gs, k * 5 + 2, none⟩) hs _).setCell (p := ⟨gs, k * 5 + 3, none⟩) hs _).setCell (p := ⟨gs, k * 5 + 4, none⟩) hs _
theorem run_seen {w wr w2 : World} {gm gr gs : Nat} {A : Option Addr} {n c k : Nat} {cf : Nat → C4} {af : Nat → Acc} (h : RunAt w gm gr gs A n c k cf af k wr) (hb : Below wr.heap.size wr w2) : IsSeen w2 (some ⟨gs, 0, none⟩) k (sawC n cf af) (sawD n cf af) := fun j hj => by
  obtain ⟨_, _, F, hF, hh⟩ := h
  exact ⟨gs, 0, rfl, by rw [Nat.zero_add]; exact at5_of (hF.of_block (hb.block gs hF.lt)) (by omega) (hh j hj)⟩
theorem run_apart {w wr w2 : World} {gm gr gs : Nat} {A A2 : Option Addr} {n c c2 k : Nat} {cf cg : Nat → C4} {af : Nat → Acc} (h : RunAt w gm gr gs A n c k cf af k wr) (ho : Own w2 wr.heap.size 25 4 A2 n c2 (fun i => l4 (cg i))) :
    ∀ g o g' o', A2 = some ⟨g, o, none⟩ → (some ⟨gs, 0, none⟩ : Option Addr) = some ⟨g', o', none⟩ → 0 < n → g ≠ g' := by
  intro g o g' o' h1 h2 hn
  obtain ⟨_, _, F, hF, _⟩ := h
  obtain ⟨q, e, hq, _⟩ := ho.2.2 hn
  have e1 : g = q := congrArg Addr.block (Option.some.inj (h1.symm.trans e))
  have e2 : gs = g' := congrArg Addr.block (Option.some.inj h2)
  have := hF.lt
  omega

set_option maxRecDepth 100000 in
set_option maxHeartbeats 2000000 in
theorem run_walk (A T : Option Addr) (n c M d : Nat) (hA : A = none → n = 0 ∧ c = 0) (hd : M ≤ d ∧ d ≤ 9223372036854775807) (hM : M ≤ 65536) (hn : n ≤ 1024) (cf : Nat → C4) (af : Nat → Acc) (w : World) (hI : IsCells w A n cf) (hT : IsAccs w T M af) :
    Calls Try.prog 11 #[.slice A n c, .slice T M d] w (RunPost n M cf af w) := by
  have HI := Lib.hid hI
  have HT := Lib.hid hT
  have HA := Lib.hid hA
  clear hI hT hA
  have t1 : decide ((65536 : Int) < M) = false := by simp; omega
  have hmk := run_make_seen M (by omega)
  go_enter Try.func11, Try.ntmps11
  go_wp2_with (go_at_call 10; refine (new_ok _ _ _ HA.out hn cf _ HI.out).mono ?_; rintro e w1 ⟨gm, gr, A1, c1, rfl, hgm, hgr, hA1, hMem, hb1⟩; have HMem := Lib.hid hMem; have HA1 := Lib.hid hA1; clear hMem hA1)
  obtain ⟨W, hW⟩ : ∃ W, W = w1.alloc (.cells (madeCells #[.int .u64 0, .int .u64 0, .int .u64 0, .int .u64 0, .bool false] (M * 5)) 27) := ⟨_, rfl⟩
  have hR : RunAt w gm gr w1.heap.size A1 n c1 M cf af 0 W := by
    obtain ⟨F, hF⟩ := row_made w1 #[.int .u64 0, .int .u64 0, .int .u64 0, .int .u64 0, .bool false] (M * 5) 27
    rw [hW]
    exact ⟨HMem.out.same (below_one _ _).block, hb1.alloc hb1.size _, F, hF, fun j hj => by omega⟩
  have hs0 : w.heap.size ≤ w1.heap.size := hb1.size
  have g1 : w1.heap.size ≠ gm := by have := World.block_lt_of_cell? _ _ HMem.out.1; simp at this; omega
  have g2 : 0 < n → w1.heap.size ≠ gr := fun h => by obtain ⟨_, m, F, hr, _⟩ := HMem.out.2.2.2.2 h; have := hr.lt; omega
  rw [← hW]
  have G1 := Lib.hid g1
  have G2 := Lib.hid g2
  have HR := Lib.hid hR
  clear hR hW g1 g2 hb1 hmk
  generalize w1.heap.size = gs at *
  go_loopw [5, 6, 26] (fun s e i wr => ∃ k : Nat, k ≤ M ∧ i = .int .i64 k ∧ e = .int .i64 0 ∧ s = .slice (some ⟨gs, 0, none⟩) M M ∧ Hid (RunAt w gm gr gs A1 n c1 M cf af k wr) ∧ Hid (okTo n af k = true)) (fun _ _ i _ => M - (intOf i).toNat)
  case atStart => exact ⟨0, Nat.zero_le _, rfl, rfl, rfl, HR, rfl⟩
  case round =>
    clear HR
    obtain ⟨k, hk, rfl, rfl, rfl, HR, HO⟩ := hrel
    by_cases hlt : k < M
    · obtain ⟨b, off, rfl, h10⟩ := HT.out k hlt
      obtain ⟨a0, a1, a2, a3, a4, a5, a6, a7, a8, a9⟩ := at10_flat (h10.same (HR.out.2.1.block _ h10.lt))
      have i1 : (0 : Int) ≤ (k : Int) := by omega
      have i2 : (k : Int) < (M : Int) := by omega
      clear h10
      cases hm : mayB n (af k) with
      | true =>
        have hnn : 0 < n := by have := may_true hm; omega
        have g2 := G2.out hnn
        have HG := Lib.hid g2
        have HK := Lib.hid hm
        have HO2 : Hid (okTo n af (k + 1) = true) := Lib.hid (by show (okTo n af k && mayB n (af k)) = true; rw [HO.out, hm]; rfl)
        clear hm g2
        go_wp2_with (go_at_call 9; refine (do_ok gm gr A1 n c1 _ (af k) HK.out _ (HR.out.1.same (below_one _ _).block)).mono ?_; rintro e w2 ⟨rfl, hM2, hO⟩
                     have HM2 := Lib.hid hM2; clear hM2
                     obtain ⟨F, hF, _⟩ := HR.out.2.2
                     have hF1 := (hF.alloc _).of_block (hO.block gs (hF.alloc _).lt HG.out)
                     have z0 := hF1.cell (i := k * 5) (by omega)
                     have z1 := hF1.cell (i := k * 5 + 1) (by omega)
                     have z2 := hF1.cell (i := k * 5 + 2) (by omega)
                     have z3 := hF1.cell (i := k * 5 + 3) (by omega)
                     have z4 := hF1.cell (i := k * 5 + 4) (by omega)
                     have zf := hF1.frozen
                     clear hF1 hF)
        go_roundw
        case rel => exact ⟨k + 1, by omega, by go_num, rfl, rfl, run_step hs0 hgr G1.out HG.out HK.out HR.out HM2.out hO, HO2⟩
        case measure => simp [intOf]; omega
      | false =>
        have HK := Lib.hid hm
        have HO2 := Lib.hid (okTo_false (n := n) (af := af) hlt hm)
        clear hm
        go_wp2_with (go_at_call 9; refine (do_bad gm gr A1 n c1 _ (af k) HK.out _ (HR.out.1.same (below_one _ _).block)).mono ?_; rintro e w2 ⟨rfl, hb2⟩
                     obtain ⟨F, hF, _⟩ := HR.out.2.2
                     have hF1 := (hF.alloc _).of_block (hb2.block gs (hF.alloc _).lt)
                     have z0 := hF1.cell (i := k * 5) (by omega)
                     have z1 := hF1.cell (i := k * 5 + 1) (by omega)
                     have z2 := hF1.cell (i := k * 5 + 2) (by omega)
                     have z3 := hF1.cell (i := k * 5 + 3) (by omega)
                     have z4 := hF1.cell (i := k * 5 + 4) (by omega)
                     have zf := hF1.frozen
                     clear hF1 hF)
        exact bodyPost_ret (v := .tuple #[.slice none 0 0, .slice none 0 0, .int .i64 2]) (by simp [results, Try.results11, go_sem]) rfl ⟨(fun h => by rw [HO2.out] at h; cases h), fun _ => ⟨rfl, run_left hs0 HR.out.2.1 hb2⟩⟩
    · obtain rfl : k = M := by omega
      go_wp2_with (go_at_call 13; refine (cells_any gm gr A1 n c1 HA1.out hn _ _ HR.out.1).mono ?_; rintro e w2 ⟨A2, c2, rfl, hA2, hO2, hb2⟩; have HA2 := Lib.hid hA2; have HOw := Lib.hid hO2; clear hA2 hO2)
      exact bodyPost_ret (v := .tuple #[.slice A2 n c2, .slice (some ⟨gs, 0, none⟩) k k, .int .i64 0]) (by simp [results, Try.results11, go_sem]) rfl
        ⟨fun _ => ⟨A2, c2, _, rfl, HA2.out, HOw.out.mono HR.out.2.1.size, run_seen HR.out hb2, run_apart HR.out HOw.out, below_then HR.out.2.1 hb2⟩, fun h => by rw [HO.out] at h; cases h⟩
end Go.Proofs.Ytiaimenngmfnmaa
