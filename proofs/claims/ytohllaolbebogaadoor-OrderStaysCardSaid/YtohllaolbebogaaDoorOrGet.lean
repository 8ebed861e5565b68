/- The program's own reading of an index: a value's word, what is got, a floor. -/
import Derived.Test.YtohllaolbebogaaDoorOrSeek
import Derived.Test.YtohllaolbebogaaDoorOrReads
import Derived.Test.YtohllaolbebogaaDoorTbOwn
import Derived.Test.YtohllaolbebogaaDoorOpMath
namespace Go.Proofs.YtohllaolbebogaaDoor
open Go.RowKit Go.Lib Tb Pt Opn

set_option maxHeartbeats 400000 in
theorem oword_any (v : Nat) (hv : v ≤ 2147483647) (w : World) : Calls Tryd.prog 39 #[.int .u64 v] w (Ret (.int .u32 ((v + 1) % 4294967296 : Nat)) w) := by
  have e : IntKind.u32.wrap ((v : Int) + 1) = (((v + 1) % 4294967296 : Nat) : Int) := by rw [IntKind.wrap_u32]; omega
  have e2 : IntKind.u32.wrap (v : Int) = (v : Int) := by rw [IntKind.wrap_u32]; omega
  generalize (v + 1) % 4294967296 = z at *
  go_enter Tryd.func39, Tryd.ntmps39
  go_wp2
  go_ret
  exact Ret.mk rfl (Below.refl _ _)

/-- What a look at a key answers. -/
def getR (l : List R) (a : Nat) : Int × Int := match Tb.get l a with | some v => (0, ((v + 1) % 4294967296 : Nat)) | none => (6, 0)
theorem getR_read (l : List R) (a b : Nat) : readR l 6 a b = ((getR l a).1, (getR l a).2, []) := by
  unfold readR getR
  rw [if_pos rfl]
  cases Tb.get l a <;> rfl

set_option maxHeartbeats 4000000 in
set_option maxRecDepth 100000 in
theorem oget_any (A : Option Addr) (l : List R) (d : Nat) (o : O) (ho : Wf o) (hl : l.length ≤ 1000000) (hu : Up l) (hv : ∀ x ∈ l, x.2 ≤ 2147483647) (w : World) (h : IsR w A l) :
    Calls Tryd.prog 27 #[.slice A l.length d, opv o] w (Ret (resv (getR l o.a).1 (getR l o.a).2 none 0 0) w) := by
  have HAA := Lib.hid h
  have HSK := Lib.hid (fun W hA => oseek_any A l d hl hu o.a ho.2.1 W hA)
  have HV := Lib.hid hv
  have HU := Lib.hid hu
  obtain ⟨s, hs⟩ : ∃ s, getR l o.a = s := ⟨_, rfl⟩
  rw [hs]
  have HS := Lib.hid hs
  obtain ⟨N, hN⟩ : ∃ N, l.length = N := ⟨_, rfl⟩
  have HNL := Lib.hid hN
  rw [hN] at hl HSK ⊢
  clear hs hu hv h hN
  unfold opv resv
  obtain ⟨W, hW⟩ : ∃ W, W = (w.alloc (.cells #[.int .u8 (o.k : Nat), .int .u32 (o.a : Nat), .int .u32 (o.b : Nat), .int .u32 (o.c : Nat)] 34)).alloc (.cells #[.int .i64 0, .int .u32 0, .slice none 0 0] 27) := ⟨_, rfl⟩
  have hbW : Below w.heap.size w W := by rw [hW]; exact below_two _ _ _
  have hww : W.heap.size = w.heap.size + 2 := by rw [hW]; simp
  have HRES : W.heap[w.heap.size + 1]? = some (.cells #[.int .i64 0, .int .u32 0, .slice none 0 0] 27 (0, 0)) := by
    rw [hW]
    exact heap_alloc_new (w.alloc (.cells #[.int .u8 (o.k : Nat), .int .u32 (o.a : Nat), .int .u32 (o.b : Nat), .int .u32 (o.c : Nat)] 34)) _ |> fun h => by simpa using h
  have HAx := Lib.hid (HAA.out.below hbW)
  have HW := Lib.hid hW
  clear hW
  go_enter Tryd.func27, Tryd.ntmps27
  go_wp2_with fail
  rw [← HW.out]
  refine (HSK.out _ HAx.out).mono ?_
  rintro e w2 ⟨rfl, hb2⟩
  have HR2 := Lib.hid ((hb2.block _ (by omega)).trans HRES)
  obtain ⟨r0, f0, r1, f1, r2, f2⟩ := res_cells HR2.out
  have hb3 := hbW.trans (hb2.mono hbW.size)
  rcases hget : Tb.get l o.a with _ | u
  · have ES := Lib.hid (show s = (6, 0) by rw [← HS.out]; unfold getR; rw [hget])
    clear hget
    simp only [Option.isSome]
    go_wp2
    refine bodyPost_ret (v := .agg #[.int .i64 6, .int .u32 0, .slice none 0 0]) ?_ rfl ⟨by rw [ES.out], ?_⟩
    · simp [results, Tryd.results27, go_sem, r0, r1, r2]
    · exact below_set3 hb3 (by omega) _ _ _
  · have HGT := Lib.hid hget
    have HIT := Lib.hid (up_there HU.out HGT.out)
    obtain ⟨hpl, hlp⟩ := there_at HIT.out.1
    have hp : pos l o.a = (lo l o.a).length := rfl
    rw [hp]
    have hhop : u ≤ 2147483647 := HV.out (o.a, u) (by rw [← hlp]; exact List.getElem_mem hpl)
    obtain ⟨p, hpp⟩ : ∃ p, (lo l o.a).length = p := ⟨_, rfl⟩
    obtain ⟨bk, off, eA, x0, x1⟩ := HAx.out.row hpl
    rw [hlp] at x0 x1
    rw [hpp] at x0 x1 ⊢
    have hpN : p < N := by rw [← hpp, ← HNL.out]; exact hpl
    replace x1 := (hb2.cell (World.block_lt_of_cell? _ _ x1)).trans x1
    clear hp hpp hpl hlp x0
    subst eA
    have i1 : (0 : Int) ≤ (p : Int) := by omega
    have i2 : (p : Int) < (N : Int) := by omega
    have HTE := Lib.hid (oword_any u hhop)
    obtain ⟨y, hy⟩ : ∃ y, (u + 1) % 4294967296 = y := ⟨_, rfl⟩
    rw [hy] at HTE
    have es : s = (0, (y : Int)) := by rw [← HS.out, ← hy]; unfold getR; rw [HGT.out]
    have ES := Lib.hid es
    simp only [Option.isSome]
    clear es hy hget
    go_wp2_with (go_at_call 39; refine (HTE.out _).mono ?_; rintro e w3 ⟨rfl, hb3⟩; have HR3 := Lib.hid ((hb3.block (w.heap.size + 1) (by have := hb2.size; omega)).trans HR2.out); obtain ⟨q0, g0, q1, g1, q2, g2⟩ := res_cells HR3.out)
    refine bodyPost_ret (v := .agg #[.int .i64 0, .int .u32 y, .slice none 0 0]) ?_ rfl ⟨by rw [ES.out], ?_⟩
    · simp [results, Tryd.results27, go_sem, q0, q1, q2]
    · exact below_set3 (below_then (hbW.trans (hb2.mono hbW.size)) hb3) (by omega) _ _ _

theorem flo_at {l : List R} (hu : Up l) (a : Nat) : (pos l (a + 1) = 0 ∧ flo l a = []) ∨ ∃ p, ∃ h : p < l.length, pos l (a + 1) = p + 1 ∧ flo l a = [l[p]] := by
  have e : (l.filter fun x => decide (x.1 ≤ a)) = lo l (a + 1) := by
    unfold lo; congr 1; funext x; exact decide_eq_decide.2 (by omega)
  have e2 : lo l (a + 1) = l.take (pos l (a + 1)) := by
    have h := split_at (a + 1) hu
    have h2 := congrArg (List.take (lo l (a + 1)).length) h
    rw [List.append_assoc, List.take_left] at h2
    exact h2.symm
  unfold flo
  rw [e, e2]
  have hle := pos_le l (a + 1)
  cases hp : pos l (a + 1) with
  | zero => left; exact ⟨rfl, by simp⟩
  | succ p =>
    right
    rw [hp] at hle
    exact ⟨p, by omega, rfl, by rw [List.take_succ_eq_append_getElem (by omega), List.getLast?_concat]⟩

set_option maxHeartbeats 4000000 in
set_option maxRecDepth 100000 in
theorem ofloor_any (A : Option Addr) (l : List R) (d : Nat) (o : O) (ha : o.a ≤ 2147483647) (hl : l.length ≤ 1000000) (hu : Up l) (w : World) (h : IsR w A l) :
    Calls Tryd.prog 28 #[.slice A l.length d, opv o] w (ResR (if flo l o.a = [] then 6 else 0, 0, flo l o.a) w) := by
  have HAA := Lib.hid h
  have HSK := Lib.hid (fun W hA => oseek_any A l d hl hu (o.a + 1) (by omega) W hA)
  have hfl := flo_at hu o.a
  obtain ⟨s, hs⟩ : ∃ s : Int × Int × List R, (if flo l o.a = [] then 6 else 0, 0, flo l o.a) = s := ⟨_, rfl⟩
  rw [hs]
  have HS := Lib.hid hs
  have hw1 : IntKind.u32.wrap ((o.a : Int) + 1) = ((o.a + 1 : Nat) : Int) := by rw [IntKind.wrap_u32]; omega
  obtain ⟨N, hN⟩ : ∃ N, l.length = N := ⟨_, rfl⟩
  have HNL := Lib.hid hN
  rw [hN] at hl HSK ⊢
  clear hu h hN hs
  unfold opv
  obtain ⟨W, hW⟩ : ∃ W, W = (w.alloc (.cells #[.int .u8 (o.k : Nat), .int .u32 (o.a : Nat), .int .u32 (o.b : Nat), .int .u32 (o.c : Nat)] 34)).alloc (.cells #[.int .i64 0, .int .u32 0, .slice none 0 0] 27) := ⟨_, rfl⟩
  have hbW : Below w.heap.size w W := by rw [hW]; exact below_two _ _ _
  have hww : W.heap.size = w.heap.size + 2 := by rw [hW]; simp
  have HRES : W.heap[w.heap.size + 1]? = some (.cells #[.int .i64 0, .int .u32 0, .slice none 0 0] 27 (0, 0)) := by
    rw [hW]
    exact heap_alloc_new (w.alloc (.cells #[.int .u8 (o.k : Nat), .int .u32 (o.a : Nat), .int .u32 (o.b : Nat), .int .u32 (o.c : Nat)] 34)) _ |> fun h => by simpa using h
  have HAx := Lib.hid (HAA.out.below hbW)
  have HW := Lib.hid hW
  clear hW
  go_enter Tryd.func28, Tryd.ntmps28
  go_wp2_with fail
  rw [← HW.out]
  refine (HSK.out _ HAx.out).mono ?_
  rintro e w2 ⟨rfl, hb2⟩
  have HR2 := Lib.hid ((hb2.block _ (by omega)).trans HRES)
  obtain ⟨r0, f0, r1, f1, r2, f2⟩ := res_cells HR2.out
  have hb3 := hbW.trans (hb2.mono hbW.size)
  rcases hfl with ⟨hp, hf⟩ | ⟨p, hpl, hp, hf⟩
  · rw [hp]
    have ES := Lib.hid (show s = (6, 0, []) by rw [← HS.out, hf]; rfl)
    clear hp hf
    go_wp2
    refine bodyPost_ret (v := .agg #[.int .i64 6, .int .u32 0, .slice none 0 0]) ?_ rfl ⟨.slice none 0 0, by rw [ES.out], by rw [ES.out]; exact MadeX.nil _ _ _ _ _, ?_⟩
    · simp [results, Tryd.results28, go_sem, r0, r1, r2]
    · exact below_set3 hb3 (by omega) _ _ _
  · rw [hp]
    obtain ⟨bk, off, rfl, x0, x1⟩ := HAx.out.row hpl
    obtain ⟨q1, e1⟩ : ∃ q, l[p].1 = q := ⟨_, rfl⟩
    obtain ⟨q2, e2⟩ : ∃ q, l[p].2 = q := ⟨_, rfl⟩
    have hpN : p < N := by rw [← HNL.out]; exact hpl
    have E := Lib.hid (Prod.ext e1 e2 : l[p] = (q1, q2))
    rw [e1] at x0
    rw [e2] at x1
    have ES := Lib.hid (show s = (0, 0, [(q1, q2)]) by rw [← HS.out, hf, E.out]; rfl)
    replace x0 := (hb2.cell (World.block_lt_of_cell? _ _ x0)).trans x0
    replace x1 := (hb2.cell (World.block_lt_of_cell? _ _ x1)).trans x1
    clear hp hf e1 e2 E
    have i0 : ¬ ((p + 1 : Nat) : Int) = 0 := by omega
    have i1 : (0 : Int) ≤ (p : Int) := by omega
    have i2 : (p : Int) < (N : Int) := by omega
    have i3 : IntKind.i64.wrap (((p + 1 : Nat) : Int) - 1) = (p : Int) := by rw [IntKind.wrap_i64]; omega
    have hs2 := hb2.size
    have n1 : w.heap.size + 1 < w2.heap.size := by omega
    obtain ⟨z, hz⟩ : ∃ z : Int, ((p + 1 : Nat) : Int) = z := ⟨_, rfl⟩
    rw [hz] at i0 i3 ⊢
    clear hz
    have HM := Lib.hid (show ∀ x y z, MadeX ((((w2.setCell ⟨w.heap.size + 1, 0, none⟩ x).setCell ⟨w.heap.size + 1, 1, none⟩ y).setCell ⟨w.heap.size + 1, 2, none⟩ z).alloc (.cells #[.int .u64 q1, .int .u64 q2] 37)) w.heap.size 37 2 rowL (.slice (some ⟨w2.heap.size, 0, none⟩) 1 1) [(q1, q2)] from fun x y z => by
      have e0 : (((w2.setCell ⟨w.heap.size + 1, 0, none⟩ x).setCell ⟨w.heap.size + 1, 1, none⟩ y).setCell ⟨w.heap.size + 1, 2, none⟩ z).heap.size = w2.heap.size := by simp [World.setCell]
      have h := World.ownsRow_lit (((w2.setCell ⟨w.heap.size + 1, 0, none⟩ x).setCell ⟨w.heap.size + 1, 1, none⟩ y).setCell ⟨w.heap.size + 1, 2, none⟩ z) (e := 37) (base := w.heap.size) (size := 2) #[.int .u64 q1, .int .u64 q2] 1 (by rw [e0]; omega) (by unfold maxLen; omega) rfl
      rw [e0] at h
      exact h)
    go_wp2
    refine bodyPost_ret (v := .agg #[.int .i64 0, .int .u32 0, .slice (some ⟨w2.heap.size, 0, none⟩) 1 1]) ?_ rfl ⟨.slice (some ⟨w2.heap.size, 0, none⟩) 1 1, by rw [ES.out], ?_, ?_⟩
    · simp [results, Tryd.results28, go_sem, r0, r1, r2, n1]
    · rw [ES.out]; exact HM.out _ _ _
    · exact (below_set3 hb3 (g := w.heap.size + 1) (by omega) _ _ _).alloc (below_set3 hb3 (g := w.heap.size + 1) (by omega) _ _ _).size _
end Go.Proofs.YtohllaolbebogaaDoor
