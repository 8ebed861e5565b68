/- From 'the call returns true and leaves all that was there as it was' to a law's row, for parameters of whatever types. Rows that come in, of elements of whatever plain type: one opening for all. Operations that come in. Cells that come in. Configs that come in. Descs and frames as values; two of them compared; those that come in. Acts of programs as values; two of them compared. Descs that come in. -/
import Derived.Test.YtljhcegkekdjgaaDoorRows
import Derived.Test.YtljhcegkekdjgaaDoorGMath
import Derived.ProofKit
import Derived.OpenShut
import Derived.ChangeOld
import Derived.Deep.Slices
import Derived.Deep.Fields
import Derived.ChangeSame
import Derived.ChangeSlices
import Derived.Test.YtljhcegkekdjgaaDoorProg
namespace Go.Proofs.YtljhcegkekdjgaaDoor
open Go.ChangeShapes Go.WideShapes Go.ChangeAt Go.RowKit

theorem own : ownKnob Tryd.prog.godebug = none := by kernel_rfl
theorem laidOut : laidOutB Tryd.prog = true := by kernel_rfl

section
variable {H : Type} {enc : TypeId × Value → H}

/-- Types that can be read again. -/
def readB (P : Program) (ts : List TypeId) : Bool := ts.all fun t => P.readableRec t && decide (t < P.types.size)

theorem trodAll_length {P : Program} {w : World} {b : Nat} {sp : Nat → Bool} {hd : Bool} : ∀ {ts : List TypeId} {vs : List Value} {ds : List (DataW H)} {ps : List MemPlace},
    DataW.TrodAll enc P w b sp hd ts vs ds ps → vs.length = ts.length ∧ ds.length = ts.length
  | [], vs, ds, ps, h => by obtain ⟨rfl, rfl, _⟩ := trodAll_nil h; exact ⟨rfl, rfl⟩
  | t :: ts, vs, ds, ps, h => by
    obtain ⟨v, vs', d, ds', p, q, rfl, rfl, _, _, hr⟩ := trodAll_cons h
    have := trodAll_length hr
    exact ⟨by simp [this.1], by simp [this.2]⟩

/-- All arguments read again as they did. -/
theorem trodAll_again {P : Program} (hl : laidOutB P = true) {W W' : World} (hb : Below W.heap.size W W') : ∀ {ts : List TypeId} {vs : List Value} {ds : List (DataW H)} {ps : List MemPlace},
    readB P ts = true → DataW.TrodAll enc P W 0 (fun _ => true) true ts vs ds ps → DataW.TrodAll enc P W' 0 (fun b => decide (b < W.heap.size)) true ts vs ds ps
  | [], vs, ds, ps, _, h => by obtain ⟨rfl, rfl, rfl⟩ := trodAll_nil h; exact trodAll_mk0
  | t :: ts, vs, ds, ps, hr, h => by
    obtain ⟨v, vs', d, ds', p, q, rfl, rfl, rfl, h1, h2⟩ := trodAll_cons h
    unfold readB at hr
    rw [List.all_cons, Bool.and_eq_true, Bool.and_eq_true] at hr
    have lt : ∀ x ∈ p, x.block < W.heap.size := by obtain ⟨m, hm⟩ := h1; exact DataW.trod_lt m _ _ _ hm
    exact trodAll_cons_mk (Below.trod hl hr.1.1 (of_decide_eq_true hr.1.2) h1 hb lt) (trodAll_again hl hb hr.2 h2)

theorem law_of {P : Program} {n : FuncId} {fn : Func} {s : ChangeSpec} {tb : TypeId} (hl : laidOutB P = true) (hr : readB P fn.params.toList = true) (hrt : fn.resultTypes = #[tb]) (htb : P.underlying tb = some .bool)
    (hv : s.vars = []) (hs : ∀ ds : List (DataW H), ds.length = fn.params.toList.length → s.fn H ds = { results := [.lit (.bool true)], args := ds })
    {W : World} {args : Array Value} {ds gs : List (DataW H)} {before : List MemPlace}
    (hW : DataW.Whole enc P fn.params.toList s.vars false W args.toList ds gs before)
    (walk : ∀ p, DataW.TrodAll enc P W 0 (fun _ => true) true fn.params.toList args.toList ds p → Calls P n args W (Ret (.bool true) W)) :
    Calls P n args W fun e W' => ∃ v, e = .returned v ∧ s.post enc P fn false true false false W args v W' := by
  have hW' := hW
  obtain ⟨p, q, hA, hV, rfl, hfz, hnd⟩ := hW
  rw [hv] at hV
  obtain ⟨rfl, rfl⟩ := trodVars_none hV
  refine (walk p hA).mono ?_
  rintro e W' ⟨rfl, hb⟩
  have hf := hs ds (trodAll_length hA).2
  refine ⟨_, rfl, ds, [], _, [], p, [], hW', ?_, ?_, ?_, hb.frame _, fun h => by cases h⟩
  · rw [List.append_nil, hf, hrt]; exact trodAll_mk1 (shut_bool htb true)
  · rw [List.append_nil, hf]; exact trodAll_again hl hb hr hA
  · rw [List.append_nil, hf, hv]; rfl
end
end Go.Proofs.YtljhcegkekdjgaaDoor

namespace Go.Proofs.YtljhcegkekdjgaaDoor
open Go.ChangeShapes Go.WideShapes Go.ChangeAt Go.RowKit Go.Deep

set_option maxRecDepth 100000 in
theorem addr_none {w : World} {a : Addr} {n : Nat} {v : Value} (hn : n = 0) (h : w.cell? (a.add n) = some v) : ∃ bk off, a = ⟨bk, off, none⟩ := by
  subst hn
  obtain ⟨bk, off, v'⟩ := a
  cases v' with
  | none => exact ⟨bk, off, rfl⟩
  | some x =>
    exfalso
    simp only [Addr.add, World.cell?] at h
    split at h
    · split at h <;> simp_all
    · cases h
set_option maxRecDepth 100000 in
theorem addr_add (bk off n : Nat) : (⟨bk, off, none⟩ : Addr).add n = ⟨bk, off + n, none⟩ := by
  unfold Addr.add
  split
  · rename_i h; subst h; rfl
  · rfl

/-- n elements of s cells each lie at A: those of number i are L i. -/
def IsRow (w : World) (A : Option Addr) (n s : Nat) (L : Nat → List Value) : Prop := ∀ i, i < n → ∃ b off, A = some ⟨b, off, none⟩ ∧ ∀ j u, (L i)[j]? = some u → w.cell? ⟨b, off + i * s + j, none⟩ = some u
set_option maxRecDepth 100000 in
theorem IsRow.same {w w' : World} {A : Option Addr} {n s : Nat} {L : Nat → List Value} (h : IsRow w A n s L) (hs : ∀ k, k < w.heap.size → w'.heap[k]? = w.heap[k]?) : IsRow w' A n s L := fun i hi => by
  obtain ⟨b, off, e, h1⟩ := h i hi
  refine ⟨b, off, e, fun j u hu => ?_⟩
  have h2 := h1 j u hu
  exact (World.cell?_of_block (w := w) (hs b (World.block_lt_of_cell? _ _ h2))).trans h2
set_option maxRecDepth 100000 in
theorem IsRow.congr {w : World} {A : Option Addr} {n s : Nat} {L M : Nat → List Value} (h : IsRow w A n s L) (e : ∀ i, i < n → L i = M i) : IsRow w A n s M := fun i hi => by rw [← e i hi]; exact h i hi

section
variable {H : Type} {enc : TypeId × Value → H} {W : World} {b : Nat} {sp : Nat → Bool} {hd : Bool} {r : Reach} {base : Nat}

set_option maxRecDepth 100000 in
theorem open_rows {X : Type} (x0 : X) (L : X → List Value) {t e : TypeId} {s : Nat} (ht : Tryd.prog.underlying t = some (.slice e)) (hs : Tryd.prog.cellsOf e = s) (hs0 : 0 < s) (hL : ∀ x, (L x).length = s)
    (each : ∀ n cs y, DataW.trod enc Tryd.prog W b (fun _ => true) hd n e cs = some y → ∃ x, cs = L x)
    {v : Value} {d : DataW H} {p : List MemPlace} (hv : Value.okWide Tryd.prog W r base t v) (h : DataW.Trod enc Tryd.prog W b (fun _ => true) hd t v d p) :
    ∃ A N c, ∃ f : Nat → X, v = .slice A N c ∧ (N ≤ c ∧ c ≤ 9223372036854775807) ∧ (A = none → N = 0 ∧ c = 0) ∧ IsRow W A N s (fun i => L (f i)) ∧ (N = 0 ∨ ∃ E S, d = .slice E S ∧ E.length = N) := by
  obtain ⟨a, len, cap, rfl⟩ := okWide_slice ht hv
  obtain ⟨fuel, hf⟩ := h
  rcases open_slice ht hf with ⟨hcs, _⟩ | ⟨a', len', cap', m, n, D, Pl, hcs, _, hl, hm, hmm, hdat, hi⟩
  · simp [Value.cells] at hcs
    obtain ⟨rfl, rfl, rfl⟩ := hcs
    exact ⟨none, 0, 0, fun _ => x0, rfl, by omega, fun _ => ⟨rfl, rfl⟩, (fun i hi => by omega), .inl rfl⟩
  · simp [Value.cells] at hcs
    obtain ⟨rfl, rfl, rfl⟩ := hcs
    simp only [if_true] at hmm
    subst hmm
    have one : ∀ i, ∃ x : X, i < len → ∀ j u, (L x)[j]? = some u → W.cell? (a'.add (i * s + j)) = some u := fun i => by
      by_cases hlt : i < len
      · obtain ⟨cs', hc, ht'⟩ := hi i (by omega)
        rw [hs] at hc
        obtain ⟨x, rfl⟩ := each _ _ _ ht'
        obtain ⟨_, _, hat⟩ := World.cells?_some hc
        refine ⟨x, fun _ j u hu => ?_⟩
        have hj : j < s := by rw [← hL x]; exact (List.getElem?_eq_some_iff.1 hu).1
        have := hat j hj
        rw [← Go.Deep.add_add, this]
        exact hu
      · exact ⟨x0, fun h => absurd h hlt⟩
    obtain ⟨f, hf⟩ := Classical.axiomOfChoice one
    refine ⟨_, len, _, f, rfl, ⟨hl, by unfold maxLen at hm; omega⟩, (fun h => by cases h), (fun i hlt => ?_), .inr ⟨_, _, (Prod.mk.inj hdat).1, by simp⟩⟩
    obtain ⟨u0, h0⟩ : ∃ u, (L (f 0))[0]? = some u := ⟨_, List.getElem?_eq_getElem (by rw [hL]; exact hs0)⟩
    obtain ⟨bk, off, rfl⟩ : ∃ bk off, a' = ⟨bk, off, none⟩ := addr_none (w := W) (n := 0 * s + 0) (by omega) (hf 0 (by omega) 0 _ h0)
    refine ⟨bk, off, rfl, fun j u hu => ?_⟩
    have := hf i hlt j u hu
    rwa [addr_add, ← Nat.add_assoc] at this

set_option maxRecDepth 100000 in
/-- A struct that comes in by value. -/
theorem open_value {X : Type} (L : X → List Value) {t : TypeId} {fs : Array Field} (ht : Tryd.prog.underlying t = some (.struct fs))
    (each : ∀ n cs y, DataW.trod enc Tryd.prog W b sp hd n t cs = some y → ∃ x, cs = L x)
    {v : Value} {d : DataW H} {p : List MemPlace} (hv : Value.okWide Tryd.prog W r base t v) (h : DataW.Trod enc Tryd.prog W b sp hd t v d p) : ∃ x, v = .agg (L x).toArray := by
  obtain ⟨cs, rfl, _⟩ := okWide_struct ht hv
  obtain ⟨fuel, hf⟩ := h
  obtain ⟨x, hx⟩ := each _ _ _ hf
  refine ⟨x, ?_⟩
  rw [← hx]
  simp [Value.cells]

/-- One word of a struct. -/
theorem word_of {n : Nat} {t : TypeId} {k : IntKind} (ht : Tryd.prog.underlying t = some (.int k)) (hc : Tryd.prog.cellsOf t = 1) {cs : List Value} {off : Nat} {y : Option (DataW H × List MemPlace)} (hy : ∃ z, y = some z)
    (h : DataW.trod enc Tryd.prog W b sp hd n t ((cs.drop off).take (Tryd.prog.cellsOf t)) = y) : ∃ x, cs[off]? = some (.int k x) ∧ (Lit.int k x).wf = true := by
  obtain ⟨z, rfl⟩ := hy
  rw [hc] at h
  obtain ⟨x, f, _, hw⟩ := DataW.trod_int ht h
  refine ⟨x, ?_, hw⟩
  have : ((cs.drop off).take 1)[0]? = some (.int k x) := by rw [f]; rfl
  simpa [List.getElem?_take, List.getElem?_drop] using this
end
end Go.Proofs.YtljhcegkekdjgaaDoor

namespace Go.Proofs.YtljhcegkekdjgaaDoor
open Go.ChangeShapes Go.WideShapes Go.ChangeAt Go.RowKit Go.Deep Opn

set_option maxRecDepth 100000 in
theorem u32_nat {x : Int} (h : (Lit.int .u32 x).wf = true) : ∃ n : Nat, x = n ∧ n < 4294967296 := by
  have hx : 0 ≤ x ∧ x ≤ 4294967295 := by simpa [Lit.wf, IntKind.min, IntKind.max, IntKind.signed, IntKind.bits] using h
  exact ⟨x.toNat, by omega, by omega⟩
set_option maxRecDepth 100000 in
theorem u8_nat {x : Int} (h : (Lit.int .u8 x).wf = true) : ∃ n : Nat, x = n ∧ n < 256 := by
  have hx : 0 ≤ x ∧ x ≤ 255 := by simpa [Lit.wf, IntKind.min, IntKind.max, IntKind.signed, IntKind.bits] using h
  exact ⟨x.toNat, by omega, by omega⟩

section
variable {H : Type} {enc : TypeId × Value → H} {W : World} {b : Nat} {sp : Nat → Bool} {hd : Bool} {r : Reach} {base : Nat}

def opc (o : {o : O // Wf o}) : List Value := [.int .u8 (o.1.k : Nat), .int .u32 (o.1.a : Nat), .int .u32 (o.1.b : Nat), .int .u32 (o.1.c : Nat)]
set_option maxRecDepth 100000 in
theorem op_of {n : Nat} {cs : List Value} {y : DataW H × List MemPlace} (h : DataW.trod enc Tryd.prog W b sp hd n 46 cs = some y) : ∃ o, cs = opc o := by
  obtain ⟨xs, m, _, _, hlen, hl, hf⟩ := DataW.trod_struct Tryd.underlying46 h
  rw [show Tryd.prog.cellsOf 46 = 4 by kernel_rfl] at hlen
  have g : ∀ j, j < 4 → ∃ y, xs[j]? = some y := fun j hj => ⟨_, List.getElem?_eq_getElem (by rw [hl]; exact hj)⟩
  have q0 : DataW.trod enc Tryd.prog W b sp hd m 5 ((cs.drop 0).take (Tryd.prog.cellsOf 5)) = xs[0]? := hf 0 _ rfl
  have q1 : DataW.trod enc Tryd.prog W b sp hd m 24 ((cs.drop 1).take (Tryd.prog.cellsOf 24)) = xs[1]? := hf 1 _ rfl
  have q2 : DataW.trod enc Tryd.prog W b sp hd m 24 ((cs.drop 2).take (Tryd.prog.cellsOf 24)) = xs[2]? := hf 2 _ rfl
  have q3 : DataW.trod enc Tryd.prog W b sp hd m 24 ((cs.drop 3).take (Tryd.prog.cellsOf 24)) = xs[3]? := hf 3 _ rfl
  obtain ⟨k0, h0, w0⟩ := word_of Tryd.underlying5 (by kernel_rfl) (g 0 (by omega)) q0
  obtain ⟨k1, h1, w1⟩ := word_of Tryd.underlying24 (by kernel_rfl) (g 1 (by omega)) q1
  obtain ⟨k2, h2, w2⟩ := word_of Tryd.underlying24 (by kernel_rfl) (g 2 (by omega)) q2
  obtain ⟨k3, h3, w3⟩ := word_of Tryd.underlying24 (by kernel_rfl) (g 3 (by omega)) q3
  obtain ⟨n0, rfl, l0⟩ := u8_nat w0
  obtain ⟨n1, rfl, l1⟩ := u32_nat w1
  obtain ⟨n2, rfl, l2⟩ := u32_nat w2
  obtain ⟨n3, rfl, l3⟩ := u32_nat w3
  match cs, hlen with
  | [v0, v1, v2, v3], _ =>
    simp at h0 h1 h2 h3
    refine ⟨⟨⟨n0, n1, n2, n3⟩, l0, l1, l2, l3⟩, ?_⟩
    simp [opc, h0, h1, h2, h3]

set_option maxRecDepth 100000 in
theorem open_op {v : Value} {d : DataW H} {p : List MemPlace} (hv : Value.okWide Tryd.prog W r base 46 v) (h : DataW.Trod enc Tryd.prog W b sp hd 46 v d p) : ∃ o : O, Wf o ∧ v = opv o := by
  obtain ⟨a, rfl⟩ := open_value (fun a : {o : O // Wf o} => opc a) Tryd.underlying46 (fun _ _ _ h => op_of h) hv h
  exact ⟨a.1, a.2, rfl⟩
end
end Go.Proofs.YtljhcegkekdjgaaDoor

namespace Go.Proofs.YtljhcegkekdjgaaDoor
open Go.ChangeShapes Go.WideShapes Go.ChangeAt Go.RowKit Go.Deep

/-- A cell's words. -/
structure W4 where
  t : Nat
  a : Nat
  b : Nat
  c : Nat
  ht : t < 18446744073709551616
  ha : a < 18446744073709551616
  hb : b < 18446744073709551616
  hc : c < 18446744073709551616
def cec (y : W4) : List Value := [.int .u64 (y.t : Nat), .int .u64 (y.a : Nat), .int .u64 (y.b : Nat), .int .u64 (y.c : Nat)]


section
variable {H : Type} {enc : TypeId × Value → H} {W : World} {b : Nat} {sp : Nat → Bool} {hd : Bool} {r : Reach} {base : Nat}

set_option maxRecDepth 100000 in
theorem cell_of {n : Nat} {cs : List Value} {y : DataW H × List MemPlace} (h : DataW.trod enc Tryd.prog W b sp hd n 37 cs = some y) : ∃ o, cs = cec o := by
  obtain ⟨xs, m, _, _, hlen, hl, hf⟩ := DataW.trod_struct Tryd.underlying37 h
  rw [show Tryd.prog.cellsOf 37 = 4 by kernel_rfl] at hlen
  have g : ∀ j, j < 4 → ∃ y, xs[j]? = some y := fun j hj => ⟨_, List.getElem?_eq_getElem (by rw [hl]; exact hj)⟩
  have q0 : DataW.trod enc Tryd.prog W b sp hd m 22 ((cs.drop 0).take (Tryd.prog.cellsOf 22)) = xs[0]? := hf 0 _ rfl
  have q1 : DataW.trod enc Tryd.prog W b sp hd m 22 ((cs.drop 1).take (Tryd.prog.cellsOf 22)) = xs[1]? := hf 1 _ rfl
  have q2 : DataW.trod enc Tryd.prog W b sp hd m 22 ((cs.drop 2).take (Tryd.prog.cellsOf 22)) = xs[2]? := hf 2 _ rfl
  have q3 : DataW.trod enc Tryd.prog W b sp hd m 22 ((cs.drop 3).take (Tryd.prog.cellsOf 22)) = xs[3]? := hf 3 _ rfl
  obtain ⟨k0, h0, w0⟩ := word_of Tryd.underlying22 (by kernel_rfl) (g 0 (by omega)) q0
  obtain ⟨k1, h1, w1⟩ := word_of Tryd.underlying22 (by kernel_rfl) (g 1 (by omega)) q1
  obtain ⟨k2, h2, w2⟩ := word_of Tryd.underlying22 (by kernel_rfl) (g 2 (by omega)) q2
  obtain ⟨k3, h3, w3⟩ := word_of Tryd.underlying22 (by kernel_rfl) (g 3 (by omega)) q3
  obtain ⟨n0, rfl, l0⟩ := u64_nat w0
  obtain ⟨n1, rfl, l1⟩ := u64_nat w1
  obtain ⟨n2, rfl, l2⟩ := u64_nat w2
  obtain ⟨n3, rfl, l3⟩ := u64_nat w3
  match cs, hlen with
  | [v0, v1, v2, v3], _ =>
    simp at h0 h1 h2 h3
    refine ⟨⟨n0, n1, n2, n3, l0, l1, l2, l3⟩, ?_⟩
    simp [cec, h0, h1, h2, h3]

set_option maxRecDepth 100000 in
theorem open_cell {v : Value} {d : DataW H} {p : List MemPlace} (hv : Value.okWide Tryd.prog W r base 37 v) (h : DataW.Trod enc Tryd.prog W b sp hd 37 v d p) : ∃ y : W4, v = .agg #[.int .u64 (y.t : Nat), .int .u64 (y.a : Nat), .int .u64 (y.b : Nat), .int .u64 (y.c : Nat)] := by
  obtain ⟨a, rfl⟩ := open_value (fun a : W4 => cec a) Tryd.underlying37 (fun _ _ _ h => cell_of h) hv h
  exact ⟨a, rfl⟩
end
end Go.Proofs.YtljhcegkekdjgaaDoor

namespace Go.Proofs.YtljhcegkekdjgaaDoor
open Go.ChangeShapes Go.WideShapes Go.ChangeAt Go.RowKit Go.Deep Pt

section
variable {H : Type} {enc : TypeId × Value → H} {W : World} {b : Nat} {sp : Nat → Bool} {hd : Bool} {r : Reach} {base : Nat}

set_option maxRecDepth 100000 in
theorem cfg_of {n : Nat} {cs : List Value} {y : DataW H × List MemPlace} (h : DataW.trod enc Tryd.prog W b sp hd n 30 cs = some y) : ∃ a : Cf, cs = cl a := by
  obtain ⟨xs, m, _, _, hlen, hl, hf⟩ := DataW.trod_struct Tryd.underlying30 h
  rw [show Tryd.prog.cellsOf 30 = 12 by kernel_rfl] at hlen
  have g : ∀ j, j < 12 → ∃ y, xs[j]? = some y := fun j hj => ⟨_, List.getElem?_eq_getElem (by rw [hl]; exact hj)⟩
  have q0 : DataW.trod enc Tryd.prog W b sp hd m 5 ((cs.drop 0).take (Tryd.prog.cellsOf 5)) = xs[0]? := hf 0 _ rfl
  have q1 : DataW.trod enc Tryd.prog W b sp hd m 3 ((cs.drop 1).take (Tryd.prog.cellsOf 3)) = xs[1]? := hf 1 _ rfl
  have q2 : DataW.trod enc Tryd.prog W b sp hd m 3 ((cs.drop 2).take (Tryd.prog.cellsOf 3)) = xs[2]? := hf 2 _ rfl
  have q3 : DataW.trod enc Tryd.prog W b sp hd m 5 ((cs.drop 3).take (Tryd.prog.cellsOf 5)) = xs[3]? := hf 3 _ rfl
  have q4 : DataW.trod enc Tryd.prog W b sp hd m 3 ((cs.drop 4).take (Tryd.prog.cellsOf 3)) = xs[4]? := hf 4 _ rfl
  have q5 : DataW.trod enc Tryd.prog W b sp hd m 3 ((cs.drop 5).take (Tryd.prog.cellsOf 3)) = xs[5]? := hf 5 _ rfl
  have q6 : DataW.trod enc Tryd.prog W b sp hd m 3 ((cs.drop 6).take (Tryd.prog.cellsOf 3)) = xs[6]? := hf 6 _ rfl
  have q7 : DataW.trod enc Tryd.prog W b sp hd m 3 ((cs.drop 7).take (Tryd.prog.cellsOf 3)) = xs[7]? := hf 7 _ rfl
  have q8 : DataW.trod enc Tryd.prog W b sp hd m 3 ((cs.drop 8).take (Tryd.prog.cellsOf 3)) = xs[8]? := hf 8 _ rfl
  have q9 : DataW.trod enc Tryd.prog W b sp hd m 3 ((cs.drop 9).take (Tryd.prog.cellsOf 3)) = xs[9]? := hf 9 _ rfl
  have q10 : DataW.trod enc Tryd.prog W b sp hd m 22 ((cs.drop 10).take (Tryd.prog.cellsOf 22)) = xs[10]? := hf 10 _ rfl
  have q11 : DataW.trod enc Tryd.prog W b sp hd m 22 ((cs.drop 11).take (Tryd.prog.cellsOf 22)) = xs[11]? := hf 11 _ rfl
  obtain ⟨k0, h0, _⟩ := word_of Tryd.underlying5 (by kernel_rfl) (g 0 (by omega)) q0
  obtain ⟨k1, h1, _⟩ := word_of Tryd.underlying3 (by kernel_rfl) (g 1 (by omega)) q1
  obtain ⟨k2, h2, _⟩ := word_of Tryd.underlying3 (by kernel_rfl) (g 2 (by omega)) q2
  obtain ⟨k3, h3, _⟩ := word_of Tryd.underlying5 (by kernel_rfl) (g 3 (by omega)) q3
  obtain ⟨k4, h4, _⟩ := word_of Tryd.underlying3 (by kernel_rfl) (g 4 (by omega)) q4
  obtain ⟨k5, h5, _⟩ := word_of Tryd.underlying3 (by kernel_rfl) (g 5 (by omega)) q5
  obtain ⟨k6, h6, _⟩ := word_of Tryd.underlying3 (by kernel_rfl) (g 6 (by omega)) q6
  obtain ⟨k7, h7, _⟩ := word_of Tryd.underlying3 (by kernel_rfl) (g 7 (by omega)) q7
  obtain ⟨k8, h8, _⟩ := word_of Tryd.underlying3 (by kernel_rfl) (g 8 (by omega)) q8
  obtain ⟨k9, h9, _⟩ := word_of Tryd.underlying3 (by kernel_rfl) (g 9 (by omega)) q9
  obtain ⟨k10, h10, _⟩ := word_of Tryd.underlying22 (by kernel_rfl) (g 10 (by omega)) q10
  obtain ⟨k11, h11, _⟩ := word_of Tryd.underlying22 (by kernel_rfl) (g 11 (by omega)) q11
  match cs, hlen with
  | [v0, v1, v2, v3, v4, v5, v6, v7, v8, v9, v10, v11], _ =>
    simp at h0 h1 h2 h3 h4 h5 h6 h7 h8 h9 h10 h11
    refine ⟨⟨k0, k1, k2, k3, k4, k5, k6, k7, k8, k9, k10, k11⟩, ?_⟩
    simp [cl, h0, h1, h2, h3, h4, h5, h6, h7, h8, h9, h10, h11]

set_option maxRecDepth 100000 in
theorem open_cfg {v : Value} {d : DataW H} {p : List MemPlace} (hv : Value.okWide Tryd.prog W r base 30 v) (h : DataW.Trod enc Tryd.prog W b sp hd 30 v d p) : ∃ c : Cf, v = cfv c := by
  obtain ⟨a, rfl⟩ := open_value (fun a : Cf => cl a) Tryd.underlying30 (fun _ _ _ h => cfg_of h) hv h
  exact ⟨a, rfl⟩
end
end Go.Proofs.YtljhcegkekdjgaaDoor

namespace Go.Proofs.YtljhcegkekdjgaaDoor
open Go.ChangeShapes Go.WideShapes Go.ChangeAt Go.RowKit Go.Deep Opn

/-- A frame. -/
def frv (d : Ds) : Value := .agg #[.int .u8 (d.kind : Nat), .int .u32 (d.a : Nat), .int .u32 (d.b : Nat), .int .u8 (d.pc : Nat), .int .u8 (d.i : Nat), .int .u8 (d.j : Nat), .int .u8 (d.n : Nat), .int .u8 (d.p : Nat), .int .u8 (d.h : Nat), .int .u32 (d.x : Nat), .int .u32 (d.y : Nat)]
/-- A desc. -/
def dsv (d : Ds) : Value := .agg #[.int .u64 (d.tag : Nat), .int .u8 (d.k : Nat), .int .u8 (d.seq : Nat), .int .u8 (d.kind : Nat), .int .u32 (d.a : Nat), .int .u32 (d.b : Nat), .int .u8 (d.pc : Nat), .int .u8 (d.i : Nat), .int .u8 (d.j : Nat), .int .u8 (d.n : Nat), .int .u8 (d.p : Nat), .int .u8 (d.h : Nat), .int .u32 (d.x : Nat), .int .u32 (d.y : Nat)]

set_option maxRecDepth 100000 in
set_option maxHeartbeats 4000000 in
theorem eq_frame_int (kindl al bl pcl il jl nl pl hl xl yl kindr ar br pcr ir jr nr pr hr xr yr : Int) (W : World) :
    (binOp .eql 32 (.agg #[.int .u8 kindl, .int .u32 al, .int .u32 bl, .int .u8 pcl, .int .u8 il, .int .u8 jl, .int .u8 nl, .int .u8 pl, .int .u8 hl, .int .u32 xl, .int .u32 yl]) (.agg #[.int .u8 kindr, .int .u32 ar, .int .u32 br, .int .u8 pcr, .int .u8 ir, .int .u8 jr, .int .u8 nr, .int .u8 pr, .int .u8 hr, .int .u32 xr, .int .u32 yr])).run Tryd.prog W = .ok (.bool (decide (kindl = kindr ∧ al = ar ∧ bl = br ∧ pcl = pcr ∧ il = ir ∧ jl = jr ∧ nl = nr ∧ pl = pr ∧ hl = hr ∧ xl = xr ∧ yl = yr))) W := by
  by_cases h0 : kindl = kindr
  · by_cases h1 : al = ar
    · by_cases h2 : bl = br
      · by_cases h3 : pcl = pcr
        · by_cases h4 : il = ir
          · by_cases h5 : jl = jr
            · by_cases h6 : nl = nr
              · by_cases h7 : pl = pr
                · by_cases h8 : hl = hr
                  · by_cases h9 : xl = xr
                    · by_cases h10 : yl = yr
                      · go_simp
                      · go_simp
                    · go_simp
                  · go_simp
                · go_simp
              · go_simp
            · go_simp
          · go_simp
        · go_simp
      · go_simp
    · go_simp
  · go_simp
set_option maxRecDepth 100000 in
theorem eq_frame (d e : Ds) (r : Bool) (hr : decide (d.kind = e.kind ∧ d.a = e.a ∧ d.b = e.b ∧ d.pc = e.pc ∧ d.i = e.i ∧ d.j = e.j ∧ d.n = e.n ∧ d.p = e.p ∧ d.h = e.h ∧ d.x = e.x ∧ d.y = e.y) = r) (W : World) :
    (binOp .eql 32 (.agg #[.int .u8 (d.kind : Nat), .int .u32 (d.a : Nat), .int .u32 (d.b : Nat), .int .u8 (d.pc : Nat), .int .u8 (d.i : Nat), .int .u8 (d.j : Nat), .int .u8 (d.n : Nat), .int .u8 (d.p : Nat), .int .u8 (d.h : Nat), .int .u32 (d.x : Nat), .int .u32 (d.y : Nat)]) (.agg #[.int .u8 (e.kind : Nat), .int .u32 (e.a : Nat), .int .u32 (e.b : Nat), .int .u8 (e.pc : Nat), .int .u8 (e.i : Nat), .int .u8 (e.j : Nat), .int .u8 (e.n : Nat), .int .u8 (e.p : Nat), .int .u8 (e.h : Nat), .int .u32 (e.x : Nat), .int .u32 (e.y : Nat)])).run Tryd.prog W = .ok (.bool r) W := by
  rw [eq_frame_int, ← hr]
  congr 2
  rw [decide_eq_decide]
  omega

set_option maxRecDepth 100000 in
set_option maxHeartbeats 4000000 in
theorem eq_desc_int (tagl kl seql kindl al bl pcl il jl nl pl hl xl yl tagr kr seqr kindr ar br pcr ir jr nr pr hr xr yr : Int) (W : World) :
    (binOp .eql 52 (.agg #[.int .u64 tagl, .int .u8 kl, .int .u8 seql, .int .u8 kindl, .int .u32 al, .int .u32 bl, .int .u8 pcl, .int .u8 il, .int .u8 jl, .int .u8 nl, .int .u8 pl, .int .u8 hl, .int .u32 xl, .int .u32 yl]) (.agg #[.int .u64 tagr, .int .u8 kr, .int .u8 seqr, .int .u8 kindr, .int .u32 ar, .int .u32 br, .int .u8 pcr, .int .u8 ir, .int .u8 jr, .int .u8 nr, .int .u8 pr, .int .u8 hr, .int .u32 xr, .int .u32 yr])).run Tryd.prog W = .ok (.bool (decide (tagl = tagr ∧ kl = kr ∧ seql = seqr ∧ kindl = kindr ∧ al = ar ∧ bl = br ∧ pcl = pcr ∧ il = ir ∧ jl = jr ∧ nl = nr ∧ pl = pr ∧ hl = hr ∧ xl = xr ∧ yl = yr))) W := by
  by_cases h0 : tagl = tagr
  · by_cases h1 : kl = kr
    · by_cases h2 : seql = seqr
      · by_cases h3 : kindl = kindr
        · by_cases h4 : al = ar
          · by_cases h5 : bl = br
            · by_cases h6 : pcl = pcr
              · by_cases h7 : il = ir
                · by_cases h8 : jl = jr
                  · by_cases h9 : nl = nr
                    · by_cases h10 : pl = pr
                      · by_cases h11 : hl = hr
                        · by_cases h12 : xl = xr
                          · by_cases h13 : yl = yr
                            · go_simp
                            · go_simp
                          · go_simp
                        · go_simp
                      · go_simp
                    · go_simp
                  · go_simp
                · go_simp
              · go_simp
            · go_simp
          · go_simp
        · go_simp
      · go_simp
    · go_simp
  · go_simp
set_option maxRecDepth 100000 in
theorem eq_desc (d e : Ds) (r : Bool) (hr : decide (d.tag = e.tag ∧ d.k = e.k ∧ d.seq = e.seq ∧ d.kind = e.kind ∧ d.a = e.a ∧ d.b = e.b ∧ d.pc = e.pc ∧ d.i = e.i ∧ d.j = e.j ∧ d.n = e.n ∧ d.p = e.p ∧ d.h = e.h ∧ d.x = e.x ∧ d.y = e.y) = r) (W : World) :
    (binOp .eql 52 (.agg #[.int .u64 (d.tag : Nat), .int .u8 (d.k : Nat), .int .u8 (d.seq : Nat), .int .u8 (d.kind : Nat), .int .u32 (d.a : Nat), .int .u32 (d.b : Nat), .int .u8 (d.pc : Nat), .int .u8 (d.i : Nat), .int .u8 (d.j : Nat), .int .u8 (d.n : Nat), .int .u8 (d.p : Nat), .int .u8 (d.h : Nat), .int .u32 (d.x : Nat), .int .u32 (d.y : Nat)]) (.agg #[.int .u64 (e.tag : Nat), .int .u8 (e.k : Nat), .int .u8 (e.seq : Nat), .int .u8 (e.kind : Nat), .int .u32 (e.a : Nat), .int .u32 (e.b : Nat), .int .u8 (e.pc : Nat), .int .u8 (e.i : Nat), .int .u8 (e.j : Nat), .int .u8 (e.n : Nat), .int .u8 (e.p : Nat), .int .u8 (e.h : Nat), .int .u32 (e.x : Nat), .int .u32 (e.y : Nat)])).run Tryd.prog W = .ok (.bool r) W := by
  rw [eq_desc_int, ← hr]
  congr 2
  rw [decide_eq_decide]
  omega
/-- What Laid answers: a cell, an error. -/
def laidD (d : Ds) : (Nat × Nat × Nat × Nat) × Int := if DFits d then ((d.tag, dA d, dB d, dC d), 0) else ((0, 0, 0, 0), 10)
def clv (c : Nat × Nat × Nat × Nat) : Value := .agg #[.int .u64 (c.1 : Nat), .int .u64 (c.2.1 : Nat), .int .u64 (c.2.2.1 : Nat), .int .u64 (c.2.2.2 : Nat)]
end Go.Proofs.YtljhcegkekdjgaaDoor

namespace Go.Proofs.YtljhcegkekdjgaaDoor
open Go.RowKit Go.Lib Opn

/-- An act. -/
def acv (x : Ac) : Value := .agg #[.int .u8 (x.kind : Nat), .int .i64 (x.pl : Nat), .int .u64 (x.a : Nat), .int .u64 (x.b : Nat), .int .u64 (x.c : Nat), .int .i64 x.code, .int .u32 (x.v : Nat)]

set_option maxRecDepth 100000 in
set_option maxHeartbeats 4000000 in
theorem eq_act_int (kindl pll al bl cl codel vl kindr plr ar br cr coder vr : Int) (W : World) :
    (binOp .eql 26 (.agg #[.int .u8 kindl, .int .i64 pll, .int .u64 al, .int .u64 bl, .int .u64 cl, .int .i64 codel, .int .u32 vl]) (.agg #[.int .u8 kindr, .int .i64 plr, .int .u64 ar, .int .u64 br, .int .u64 cr, .int .i64 coder, .int .u32 vr])).run Tryd.prog W = .ok (.bool (decide (kindl = kindr ∧ pll = plr ∧ al = ar ∧ bl = br ∧ cl = cr ∧ codel = coder ∧ vl = vr))) W := by
  by_cases h0 : kindl = kindr
  · by_cases h1 : pll = plr
    · by_cases h2 : al = ar
      · by_cases h3 : bl = br
        · by_cases h4 : cl = cr
          · by_cases h5 : codel = coder
            · by_cases h6 : vl = vr
              · go_simp
              · go_simp
            · go_simp
          · go_simp
        · go_simp
      · go_simp
    · go_simp
  · go_simp
theorem eq_act_same (x : Ac) (W : World) : (binOp .eql 26 (acv x) (acv x)).run Tryd.prog W = .ok (.bool true) W := by
  unfold acv
  rw [eq_act_int]
  simp
theorem eq_frame_same (d : Ds) (W : World) : (binOp .eql 32 (frv d) (frv d)).run Tryd.prog W = .ok (.bool true) W := by
  unfold frv
  exact eq_frame d d true (by simp) W
end Go.Proofs.YtljhcegkekdjgaaDoor

namespace Go.Proofs.YtljhcegkekdjgaaDoor
open Go.ChangeShapes Go.WideShapes Go.ChangeAt Go.RowKit Go.Deep Opn

section
variable {H : Type} {enc : TypeId × Value → H} {W : World} {b : Nat} {sp : Nat → Bool} {hd : Bool} {r : Reach} {base : Nat}

abbrev DW := {d : Ds // DWf d}
def frc (d : Ds) : List Value := [.int .u8 (d.kind : Nat), .int .u32 (d.a : Nat), .int .u32 (d.b : Nat), .int .u8 (d.pc : Nat), .int .u8 (d.i : Nat), .int .u8 (d.j : Nat), .int .u8 (d.n : Nat), .int .u8 (d.p : Nat), .int .u8 (d.h : Nat), .int .u32 (d.x : Nat), .int .u32 (d.y : Nat)]
def dsc (d : DW) : List Value := [.int .u64 (d.1.tag : Nat), .int .u8 (d.1.k : Nat), .int .u8 (d.1.seq : Nat), .int .u8 (d.1.kind : Nat), .int .u32 (d.1.a : Nat), .int .u32 (d.1.b : Nat), .int .u8 (d.1.pc : Nat), .int .u8 (d.1.i : Nat), .int .u8 (d.1.j : Nat), .int .u8 (d.1.n : Nat), .int .u8 (d.1.p : Nat), .int .u8 (d.1.h : Nat), .int .u32 (d.1.x : Nat), .int .u32 (d.1.y : Nat)]
set_option maxRecDepth 100000 in
set_option maxHeartbeats 2000000 in
theorem frame_of {n : Nat} {cs : List Value} {y : DataW H × List MemPlace} (h : DataW.trod enc Tryd.prog W b sp hd n 32 cs = some y) :
    ∃ n0 n1 n2 n3 n4 n5 n6 n7 n8 n9 n10 : Nat, (n0 < 256 ∧ n1 < 4294967296 ∧ n2 < 4294967296 ∧ n3 < 256 ∧ n4 < 256 ∧ n5 < 256 ∧ n6 < 256 ∧ n7 < 256 ∧ n8 < 256 ∧ n9 < 4294967296 ∧ n10 < 4294967296) ∧ cs = [.int .u8 (n0 : Nat), .int .u32 (n1 : Nat), .int .u32 (n2 : Nat), .int .u8 (n3 : Nat), .int .u8 (n4 : Nat), .int .u8 (n5 : Nat), .int .u8 (n6 : Nat), .int .u8 (n7 : Nat), .int .u8 (n8 : Nat), .int .u32 (n9 : Nat), .int .u32 (n10 : Nat)] := by
  obtain ⟨xs, m, _, _, hlen, hl, hf⟩ := DataW.trod_struct Tryd.underlying32 h
  rw [show Tryd.prog.cellsOf 32 = 11 by kernel_rfl] at hlen
  have g : ∀ j, j < 11 → ∃ y, xs[j]? = some y := fun j hj => ⟨_, List.getElem?_eq_getElem (by rw [hl]; exact hj)⟩
  have q0 : DataW.trod enc Tryd.prog W b sp hd m 5 ((cs.drop 0).take (Tryd.prog.cellsOf 5)) = xs[0]? := hf 0 _ rfl
  have q1 : DataW.trod enc Tryd.prog W b sp hd m 24 ((cs.drop 1).take (Tryd.prog.cellsOf 24)) = xs[1]? := hf 1 _ rfl
  have q2 : DataW.trod enc Tryd.prog W b sp hd m 24 ((cs.drop 2).take (Tryd.prog.cellsOf 24)) = xs[2]? := hf 2 _ rfl
  have q3 : DataW.trod enc Tryd.prog W b sp hd m 5 ((cs.drop 3).take (Tryd.prog.cellsOf 5)) = xs[3]? := hf 3 _ rfl
  have q4 : DataW.trod enc Tryd.prog W b sp hd m 5 ((cs.drop 4).take (Tryd.prog.cellsOf 5)) = xs[4]? := hf 4 _ rfl
  have q5 : DataW.trod enc Tryd.prog W b sp hd m 5 ((cs.drop 5).take (Tryd.prog.cellsOf 5)) = xs[5]? := hf 5 _ rfl
  have q6 : DataW.trod enc Tryd.prog W b sp hd m 5 ((cs.drop 6).take (Tryd.prog.cellsOf 5)) = xs[6]? := hf 6 _ rfl
  have q7 : DataW.trod enc Tryd.prog W b sp hd m 5 ((cs.drop 7).take (Tryd.prog.cellsOf 5)) = xs[7]? := hf 7 _ rfl
  have q8 : DataW.trod enc Tryd.prog W b sp hd m 5 ((cs.drop 8).take (Tryd.prog.cellsOf 5)) = xs[8]? := hf 8 _ rfl
  have q9 : DataW.trod enc Tryd.prog W b sp hd m 24 ((cs.drop 9).take (Tryd.prog.cellsOf 24)) = xs[9]? := hf 9 _ rfl
  have q10 : DataW.trod enc Tryd.prog W b sp hd m 24 ((cs.drop 10).take (Tryd.prog.cellsOf 24)) = xs[10]? := hf 10 _ rfl
  obtain ⟨k0, h0, w0⟩ := word_of Tryd.underlying5 (by kernel_rfl) (g 0 (by omega)) q0
  obtain ⟨k1, h1, w1⟩ := word_of Tryd.underlying24 (by kernel_rfl) (g 1 (by omega)) q1
  obtain ⟨k2, h2, w2⟩ := word_of Tryd.underlying24 (by kernel_rfl) (g 2 (by omega)) q2
  obtain ⟨k3, h3, w3⟩ := word_of Tryd.underlying5 (by kernel_rfl) (g 3 (by omega)) q3
  obtain ⟨k4, h4, w4⟩ := word_of Tryd.underlying5 (by kernel_rfl) (g 4 (by omega)) q4
  obtain ⟨k5, h5, w5⟩ := word_of Tryd.underlying5 (by kernel_rfl) (g 5 (by omega)) q5
  obtain ⟨k6, h6, w6⟩ := word_of Tryd.underlying5 (by kernel_rfl) (g 6 (by omega)) q6
  obtain ⟨k7, h7, w7⟩ := word_of Tryd.underlying5 (by kernel_rfl) (g 7 (by omega)) q7
  obtain ⟨k8, h8, w8⟩ := word_of Tryd.underlying5 (by kernel_rfl) (g 8 (by omega)) q8
  obtain ⟨k9, h9, w9⟩ := word_of Tryd.underlying24 (by kernel_rfl) (g 9 (by omega)) q9
  obtain ⟨k10, h10, w10⟩ := word_of Tryd.underlying24 (by kernel_rfl) (g 10 (by omega)) q10
  obtain ⟨n0, rfl, l0⟩ := u8_nat w0
  obtain ⟨n1, rfl, l1⟩ := u32_nat w1
  obtain ⟨n2, rfl, l2⟩ := u32_nat w2
  obtain ⟨n3, rfl, l3⟩ := u8_nat w3
  obtain ⟨n4, rfl, l4⟩ := u8_nat w4
  obtain ⟨n5, rfl, l5⟩ := u8_nat w5
  obtain ⟨n6, rfl, l6⟩ := u8_nat w6
  obtain ⟨n7, rfl, l7⟩ := u8_nat w7
  obtain ⟨n8, rfl, l8⟩ := u8_nat w8
  obtain ⟨n9, rfl, l9⟩ := u32_nat w9
  obtain ⟨n10, rfl, l10⟩ := u32_nat w10
  match cs, hlen with
  | [v0, v1, v2, v3, v4, v5, v6, v7, v8, v9, v10], _ =>
    simp at h0 h1 h2 h3 h4 h5 h6 h7 h8 h9 h10
    exact ⟨n0, n1, n2, n3, n4, n5, n6, n7, n8, n9, n10, ⟨l0, l1, l2, l3, l4, l5, l6, l7, l8, l9, l10⟩, by rw [h0, h1, h2, h3, h4, h5, h6, h7, h8, h9, h10]⟩
set_option maxRecDepth 100000 in
set_option maxHeartbeats 2000000 in
theorem desc_of {n : Nat} {cs : List Value} {y : DataW H × List MemPlace} (h : DataW.trod enc Tryd.prog W b sp hd n 52 cs = some y) : ∃ d, cs = dsc d := by
  obtain ⟨xs, m, _, _, hlen, hl, hf⟩ := DataW.trod_struct Tryd.underlying52 h
  rw [show Tryd.prog.cellsOf 52 = 14 by kernel_rfl] at hlen
  have g : ∀ j, j < 4 → ∃ y, xs[j]? = some y := fun j hj => ⟨_, List.getElem?_eq_getElem (by rw [hl]; exact hj)⟩
  have q0 : DataW.trod enc Tryd.prog W b sp hd m 22 ((cs.drop 0).take (Tryd.prog.cellsOf 22)) = xs[0]? := hf 0 _ rfl
  have q1 : DataW.trod enc Tryd.prog W b sp hd m 5 ((cs.drop 1).take (Tryd.prog.cellsOf 5)) = xs[1]? := hf 1 _ rfl
  have q2 : DataW.trod enc Tryd.prog W b sp hd m 5 ((cs.drop 2).take (Tryd.prog.cellsOf 5)) = xs[2]? := hf 2 _ rfl
  have q3 : DataW.trod enc Tryd.prog W b sp hd m 32 ((cs.drop 3).take (Tryd.prog.cellsOf 32)) = xs[3]? := hf 3 _ rfl
  obtain ⟨k0, h0, w0⟩ := word_of Tryd.underlying22 (by kernel_rfl) (g 0 (by omega)) q0
  obtain ⟨k1, h1, w1⟩ := word_of Tryd.underlying5 (by kernel_rfl) (g 1 (by omega)) q1
  obtain ⟨k2, h2, w2⟩ := word_of Tryd.underlying5 (by kernel_rfl) (g 2 (by omega)) q2
  obtain ⟨y3, hy3⟩ := g 3 (by omega)
  rw [hy3, show Tryd.prog.cellsOf 32 = 11 by kernel_rfl] at q3
  obtain ⟨n0, n1, n2, n3, n4, n5, n6, n7, n8, n9, n10, ⟨l0, l1, l2, l3, l4, l5, l6, l7, l8, l9, l10⟩, hfr⟩ := frame_of q3
  obtain ⟨m0, rfl, b0⟩ := u64_nat w0
  obtain ⟨m1, rfl, b1⟩ := u8_nat w1
  obtain ⟨m2, rfl, b2⟩ := u8_nat w2
  match cs, hlen with
  | [v0, v1, v2, v3, v4, v5, v6, v7, v8, v9, v10, v11, v12, v13], _ =>
    simp at h0 h1 h2 hfr
    obtain ⟨rfl, rfl, rfl, rfl, rfl, rfl, rfl, rfl, rfl, rfl, rfl⟩ := hfr
    refine ⟨⟨⟨m0, m1, m2, n0, n1, n2, n3, n4, n5, n6, n7, n8, n9, n10⟩, ⟨b0, b1, b2, l0, l1, l2, l3, l4, l5, l6, l7, l8, l9, l10⟩⟩, ?_⟩
    simp only [dsc]
    rw [h0, h1, h2]
set_option maxRecDepth 100000 in
set_option maxHeartbeats 2000000 in
theorem open_desc {v : Value} {d : DataW H} {p : List MemPlace} (hv : Value.okWide Tryd.prog W r base 52 v) (h : DataW.Trod enc Tryd.prog W b sp hd 52 v d p) : ∃ d : Ds, DWf d ∧ v = dsv d := by
  obtain ⟨a, rfl⟩ := open_value (fun a : DW => dsc a) Tryd.underlying52 (fun _ _ _ h => desc_of h) hv h
  exact ⟨a.1, a.2, rfl⟩
set_option maxRecDepth 100000 in
set_option maxHeartbeats 2000000 in
theorem open_frame {v : Value} {d : DataW H} {p : List MemPlace} (hv : Value.okWide Tryd.prog W r base 32 v) (h : DataW.Trod enc Tryd.prog W b sp hd 32 v d p) : ∃ d : Ds, DWf d ∧ v = frv d := by
  obtain ⟨a, rfl⟩ := open_value (fun a : DW => frc a.1) Tryd.underlying32 (fun _ cs _ h => by
    obtain ⟨n0, n1, n2, n3, n4, n5, n6, n7, n8, n9, n10, hl, e⟩ := frame_of h
    exact ⟨⟨⟨0, 0, 0, n0, n1, n2, n3, n4, n5, n6, n7, n8, n9, n10⟩, by unfold DWf; simp only; omega⟩, e⟩) hv h
  exact ⟨a.1, a.2, rfl⟩
end
end Go.Proofs.YtljhcegkekdjgaaDoor
