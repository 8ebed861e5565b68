/- Rows and lists of operations that come in. -/
import Derived.Test.YtjhgccfnihbokaaDoorGOpen
import Derived.Test.YtjhgccfnihbokaaDoorGRow
namespace Go.Proofs.YtjhgccfnihbokaaDoor
open Go.ChangeShapes Go.WideShapes Go.ChangeAt Go.RowKit Go.Deep Opn Tb

set_option maxRecDepth 100000 in
theorem u64_nat' {x : Int} (h : (Lit.int .u64 x).wf = true) : ∃ n : Nat, x = n ∧ n < 18446744073709551616 := u64_nat h

/-- A row that fits two words. -/
abbrev RB := {x : R // x.1 < 18446744073709551616 ∧ x.2 < 18446744073709551616}

section
variable {H : Type} {enc : TypeId × Value → H} {W : World} {b : Nat} {sp : Nat → Bool} {hd : Bool} {r : Reach} {base : Nat}

set_option maxRecDepth 100000 in
theorem row_of {n : Nat} {cs : List Value} {y : DataW H × List MemPlace} (h : DataW.trod enc Tryd.prog W b sp hd n 88 cs = some y) : ∃ x, cs = rowL x := by
  obtain ⟨xs, m, _, _, hlen, hl, hf⟩ := DataW.trod_struct Tryd.underlying88 h
  rw [show Tryd.prog.cellsOf 88 = 2 by kernel_rfl] at hlen
  have g : ∀ j, j < 2 → ∃ y, xs[j]? = some y := fun j hj => ⟨_, List.getElem?_eq_getElem (by rw [hl]; exact hj)⟩
  have q0 : DataW.trod enc Tryd.prog W b sp hd m 22 ((cs.drop 0).take (Tryd.prog.cellsOf 22)) = xs[0]? := hf 0 _ rfl
  have q1 : DataW.trod enc Tryd.prog W b sp hd m 22 ((cs.drop 1).take (Tryd.prog.cellsOf 22)) = xs[1]? := hf 1 _ rfl
  obtain ⟨k0, h0, w0⟩ := word_of Tryd.underlying22 (by kernel_rfl) (g 0 (by omega)) q0
  obtain ⟨k1, h1, w1⟩ := word_of Tryd.underlying22 (by kernel_rfl) (g 1 (by omega)) q1
  obtain ⟨n0, rfl, _⟩ := u64_nat w0
  obtain ⟨n1, rfl, _⟩ := u64_nat w1
  refine ⟨(n0, n1), ?_⟩
  match cs, hlen with
  | [a, c], _ =>
    simp at h0 h1
    rw [h0, h1]; rfl

set_option maxRecDepth 100000 in
/-- From a row by numbers to a list. -/
theorem isl_of {X : Type} {A : Option Addr} {N s : Nat} {L : X → List Value} {f : Nat → X} (h : IsRow W A N s (fun i => L (f i))) : IsL W A s L ((List.range N).map f) := fun i x hx => by
  rw [List.getElem?_map, Option.map_eq_some_iff] at hx
  obtain ⟨j, hj, rfl⟩ := hx
  obtain ⟨hj1, hj2⟩ := List.getElem?_eq_some_iff.1 hj
  rw [List.length_range] at hj1
  have : j = i := by rw [← hj2]; simp
  subst this
  exact h j hj1

set_option maxRecDepth 100000 in
theorem open_tab {v : Value} {d : DataW H} {p : List MemPlace} (hv : Value.okWide Tryd.prog W r base 57 v) (h : DataW.Trod enc Tryd.prog W b (fun _ => true) hd 57 v d p) :
    ∃ A c, ∃ l : List R, v = .slice A l.length c ∧ (l.length ≤ c ∧ c ≤ 9223372036854775807) ∧ (A = none → l.length = 0 ∧ c = 0) ∧ IsR W A l := by
  obtain ⟨A, N, c, f, rfl, h1, h2, h3, _⟩ := open_rows (0, 0) rowL (s := 2) Tryd.underlying57 (by kernel_rfl) (by decide) rowL_len (fun n cs y h => row_of h) hv h
  have e : ((List.range N).map f).length = N := by simp
  exact ⟨A, c, (List.range N).map f, by rw [e], by rw [e]; exact h1, by rw [e]; exact h2, isl_of h3⟩

set_option maxRecDepth 100000 in
/-- .. with the numbers' bounds. -/
theorem row_ofB {n : Nat} {cs : List Value} {y : DataW H × List MemPlace} (h : DataW.trod enc Tryd.prog W b sp hd n 88 cs = some y) : ∃ x : RB, cs = rowL x.1 := by
  obtain ⟨xs, m, _, _, hlen, hl, hf⟩ := DataW.trod_struct Tryd.underlying88 h
  rw [show Tryd.prog.cellsOf 88 = 2 by kernel_rfl] at hlen
  have g : ∀ j, j < 2 → ∃ y, xs[j]? = some y := fun j hj => ⟨_, List.getElem?_eq_getElem (by rw [hl]; exact hj)⟩
  have q0 : DataW.trod enc Tryd.prog W b sp hd m 22 ((cs.drop 0).take (Tryd.prog.cellsOf 22)) = xs[0]? := hf 0 _ rfl
  have q1 : DataW.trod enc Tryd.prog W b sp hd m 22 ((cs.drop 1).take (Tryd.prog.cellsOf 22)) = xs[1]? := hf 1 _ rfl
  obtain ⟨k0, h0, w0⟩ := word_of Tryd.underlying22 (by kernel_rfl) (g 0 (by omega)) q0
  obtain ⟨k1, h1, w1⟩ := word_of Tryd.underlying22 (by kernel_rfl) (g 1 (by omega)) q1
  obtain ⟨n0, rfl, b0⟩ := u64_nat w0
  obtain ⟨n1, rfl, b1⟩ := u64_nat w1
  refine ⟨⟨(n0, n1), b0, b1⟩, ?_⟩
  match cs, hlen with
  | [a, c], _ =>
    simp at h0 h1
    rw [h0, h1]; rfl

set_option maxRecDepth 100000 in
theorem open_tabB {v : Value} {d : DataW H} {p : List MemPlace} (hv : Value.okWide Tryd.prog W r base 57 v) (h : DataW.Trod enc Tryd.prog W b (fun _ => true) hd 57 v d p) :
    ∃ A c, ∃ l : List R, (∀ x ∈ l, x.1 < 18446744073709551616 ∧ x.2 < 18446744073709551616) ∧ v = .slice A l.length c ∧ (l.length ≤ c ∧ c ≤ 9223372036854775807) ∧ (A = none → l.length = 0 ∧ c = 0) ∧ IsR W A l := by
  obtain ⟨A, N, c, f, rfl, h1, h2, h3, _⟩ := open_rows (⟨(0, 0), by decide, by decide⟩ : RB) (fun x : RB => rowL x.1) (s := 2) Tryd.underlying57 (by kernel_rfl) (by decide) (fun x => rowL_len x.1) (fun n cs y h => row_ofB h) hv h
  have e : ((List.range N).map fun i => (f i).1).length = N := by simp
  exact ⟨A, c, (List.range N).map fun i => (f i).1, fun x hx => by obtain ⟨i, _, rfl⟩ := List.mem_map.1 hx; exact (f i).2, by rw [e], by rw [e]; exact h1, by rw [e]; exact h2, isl_of (f := fun i => (f i).1) h3⟩

abbrev OW := {o : O // Wf o}
set_option maxRecDepth 100000 in
theorem opc_len (o : OW) : (opc o).length = 4 := rfl
set_option maxRecDepth 100000 in
theorem open_ops {v : Value} {d : DataW H} {p : List MemPlace} (hv : Value.okWide Tryd.prog W r base 55 v) (h : DataW.Trod enc Tryd.prog W b (fun _ => true) hd 55 v d p) :
    ∃ A c, ∃ l : List OW, v = .slice A l.length c ∧ (A = none → l.length = 0 ∧ c = 0) ∧ IsL W A 4 opc l := by
  obtain ⟨A, N, c, f, rfl, h1, h2, h3, _⟩ := open_rows (⟨⟨0, 0, 0, 0⟩, by unfold Wf; decide⟩ : OW) opc (s := 4) Tryd.underlying55 (by kernel_rfl) (by decide) opc_len (fun n cs y h => op_of h) hv h
  have e : ((List.range N).map f).length = N := by simp
  exact ⟨A, c, (List.range N).map f, by rw [e], by rw [e]; exact h2, isl_of h3⟩
end
end Go.Proofs.YtjhgccfnihbokaaDoor
