/- From 'the call returns true and leaves all that was there as it was' to a law's row, for parameters of whatever types. Rows that come in, of elements of whatever plain type: one opening for all. Configs that come in. Operations that come in. A constant table of numbers, a row or rows of rows, as the form's condition lays it: where its cells lie. What the rows' condition says of package op's table of objects. Rows and lists of operations that come in. -/
import Derived.Test.YtnepdbfnbikplaaGreatDoorRows
import Derived.Test.YtnepdbfnbikplaaGreatDoorGMath
import Derived.ProofKit
import Derived.OpenShut
import Derived.ChangeOld
import Derived.Deep.Slices
import Derived.Deep.Fields
import Derived.ChangeSame
import Derived.ChangeSlices
import Derived.Test.YtnepdbfnbikplaaGreatDoorProg
import Derived.LaidMore
import Derived.Stop.Joined
import Derived.Test.YtnepdbfnbikplaaGreatDoorGOp
import Derived.Test.YtnepdbfnbikplaaGreatDoorTie
import Derived.Test.YtnepdbfnbikplaaGreatDoorCards
import Derived.SevenTiedAt
import Derived.Test.YtnepdbfnbikplaaGreatDoorGRow
namespace Go.Proofs.YtnepdbfnbikplaaGreatDoor
open Go.ChangeShapes Go.WideShapes Go.ChangeAt Go.RowKit

theorem own : ownKnob Tryz.prog.godebug = none := by kernel_rfl
theorem laidOut : laidOutB Tryz.prog = true := by kernel_rfl

section
variable {H : Type} {enc : TypeId × Value → H}

/-- Types that can be read again. -/
def readB (P : Program) (ts : List TypeId) : Bool := ts.all fun t => P.readableRec t && decide (t < P.types.size)

theorem trodAll_length {P : Program} {w : World} {b : Nat} {sp : Nat → Bool} {hd : Bool} : ∀ {ts : List TypeId} {vs : List Value} {ds : List (DataW H)} {ps : List MemPlace},
    DataW.TrodAll enc P w b sp hd ts vs ds ps → vs.length = ts.length ∧ ds.length = ts.length
  | [], vs, ds, ps, h => by obtain ⟨rfl, rfl, _⟩ := trodAll_nil h; exact ⟨rfl, rfl⟩
  | t :: ts, vs, ds, ps, h => by
    obtain ⟨v, vs', d, ds', p, q, rfl, rfl, _, _, hr⟩ := trodAll_cons h
    have := trodAll_length hr
    exact ⟨by simp [this.1], by simp [this.2]⟩

/-- All arguments read again as they did. -/
theorem trodAll_again {P : Program} (hl : laidOutB P = true) {W W' : World} (hb : Below W.heap.size W W') : ∀ {ts : List TypeId} {vs : List Value} {ds : List (DataW H)} {ps : List MemPlace},
    readB P ts = true → DataW.TrodAll enc P W 0 (fun _ => true) true ts vs ds ps → DataW.TrodAll enc P W' 0 (fun b => decide (b < W.heap.size)) true ts vs ds ps
  | [], vs, ds, ps, _, h => by obtain ⟨rfl, rfl, rfl⟩ := trodAll_nil h; exact trodAll_mk0
  | t :: ts, vs, ds, ps, hr, h => by
    obtain ⟨v, vs', d, ds', p, q, rfl, rfl, rfl, h1, h2⟩ := trodAll_cons h
    unfold readB at hr
    rw [List.all_cons, Bool.and_eq_true, Bool.and_eq_true] at hr
    have lt : ∀ x ∈ p, x.block < W.heap.size := by obtain ⟨m, hm⟩ := h1; exact DataW.trod_lt m _ _ _ hm
    exact trodAll_cons_mk (Below.trod hl hr.1.1 (of_decide_eq_true hr.1.2) h1 hb lt) (trodAll_again hl hb hr.2 h2)

theorem law_of {P : Program} {n : FuncId} {fn : Func} {s : ChangeSpec} {tb : TypeId} (hl : laidOutB P = true) (hr : readB P fn.params.toList = true) (hrt : fn.resultTypes = #[tb]) (htb : P.underlying tb = some .bool)
    (hv : s.vars = []) (hs : ∀ ds : List (DataW H), ds.length = fn.params.toList.length → s.fn H ds = { results := [.lit (.bool true)], args := ds })
    {W : World} {args : Array Value} {ds gs : List (DataW H)} {before : List MemPlace}
    (hW : DataW.Whole enc P fn.params.toList s.vars false W args.toList ds gs before)
    (walk : ∀ p, DataW.TrodAll enc P W 0 (fun _ => true) true fn.params.toList args.toList ds p → Calls P n args W (Ret (.bool true) W)) :
    Calls P n args W fun e W' => ∃ v, e = .returned v ∧ s.post enc P fn false true false false W args v W' := by
  have hW' := hW
  obtain ⟨p, q, hA, hV, rfl, hfz, hnd⟩ := hW
  rw [hv] at hV
  obtain ⟨rfl, rfl⟩ := trodVars_none hV
  refine (walk p hA).mono ?_
  rintro e W' ⟨rfl, hb⟩
  have hf := hs ds (trodAll_length hA).2
  refine ⟨_, rfl, ds, [], _, [], p, [], hW', ?_, ?_, ?_, hb.frame _, fun h => by cases h⟩
  · rw [List.append_nil, hf, hrt]; exact trodAll_mk1 (shut_bool htb true)
  · rw [List.append_nil, hf]; exact trodAll_again hl hb hr hA
  · rw [List.append_nil, hf, hv]; rfl
end
end Go.Proofs.YtnepdbfnbikplaaGreatDoor

namespace Go.Proofs.YtnepdbfnbikplaaGreatDoor
open Go.ChangeShapes Go.WideShapes Go.ChangeAt Go.RowKit Go.Deep

set_option maxRecDepth 100000 in
theorem addr_none {w : World} {a : Addr} {n : Nat} {v : Value} (hn : n = 0) (h : w.cell? (a.add n) = some v) : ∃ bk off, a = ⟨bk, off, none⟩ := by
  subst hn
  obtain ⟨bk, off, v'⟩ := a
  cases v' with
  | none => exact ⟨bk, off, rfl⟩
  | some x =>
    exfalso
    simp only [Addr.add, World.cell?] at h
    split at h
    · split at h <;> simp_all
    · cases h
set_option maxRecDepth 100000 in
theorem addr_add (bk off n : Nat) : (⟨bk, off, none⟩ : Addr).add n = ⟨bk, off + n, none⟩ := by
  unfold Addr.add
  split
  · rename_i h; subst h; rfl
  · rfl

/-- n elements of s cells each lie at A: those of number i are L i. -/
def IsRow (w : World) (A : Option Addr) (n s : Nat) (L : Nat → List Value) : Prop := ∀ i, i < n → ∃ b off, A = some ⟨b, off, none⟩ ∧ ∀ j u, (L i)[j]? = some u → w.cell? ⟨b, off + i * s + j, none⟩ = some u
set_option maxRecDepth 100000 in
theorem IsRow.same {w w' : World} {A : Option Addr} {n s : Nat} {L : Nat → List Value} (h : IsRow w A n s L) (hs : ∀ k, k < w.heap.size → w'.heap[k]? = w.heap[k]?) : IsRow w' A n s L := fun i hi => by
  obtain ⟨b, off, e, h1⟩ := h i hi
  refine ⟨b, off, e, fun j u hu => ?_⟩
  have h2 := h1 j u hu
  exact (World.cell?_of_block (w := w) (hs b (World.block_lt_of_cell? _ _ h2))).trans h2
set_option maxRecDepth 100000 in
theorem IsRow.congr {w : World} {A : Option Addr} {n s : Nat} {L M : Nat → List Value} (h : IsRow w A n s L) (e : ∀ i, i < n → L i = M i) : IsRow w A n s M := fun i hi => by rw [← e i hi]; exact h i hi

section
variable {H : Type} {enc : TypeId × Value → H} {W : World} {b : Nat} {sp : Nat → Bool} {hd : Bool} {r : Reach} {base : Nat}

set_option maxRecDepth 100000 in
theorem open_rows {X : Type} (x0 : X) (L : X → List Value) {t e : TypeId} {s : Nat} (ht : Tryz.prog.underlying t = some (.slice e)) (hs : Tryz.prog.cellsOf e = s) (hs0 : 0 < s) (hL : ∀ x, (L x).length = s)
    (each : ∀ n cs y, DataW.trod enc Tryz.prog W b (fun _ => true) hd n e cs = some y → ∃ x, cs = L x)
    {v : Value} {d : DataW H} {p : List MemPlace} (hv : Value.okWide Tryz.prog W r base t v) (h : DataW.Trod enc Tryz.prog W b (fun _ => true) hd t v d p) :
    ∃ A N c, ∃ f : Nat → X, v = .slice A N c ∧ (N ≤ c ∧ c ≤ 9223372036854775807) ∧ (A = none → N = 0 ∧ c = 0) ∧ IsRow W A N s (fun i => L (f i)) ∧ (N = 0 ∨ ∃ E S, d = .slice E S ∧ E.length = N) := by
  obtain ⟨a, len, cap, rfl⟩ := okWide_slice ht hv
  obtain ⟨fuel, hf⟩ := h
  rcases open_slice ht hf with ⟨hcs, _⟩ | ⟨a', len', cap', m, n, D, Pl, hcs, _, hl, hm, hmm, hdat, hi⟩
  · simp [Value.cells] at hcs
    obtain ⟨rfl, rfl, rfl⟩ := hcs
    exact ⟨none, 0, 0, fun _ => x0, rfl, by omega, fun _ => ⟨rfl, rfl⟩, (fun i hi => by omega), .inl rfl⟩
  · simp [Value.cells] at hcs
    obtain ⟨rfl, rfl, rfl⟩ := hcs
    simp only [if_true] at hmm
    subst hmm
    have one : ∀ i, ∃ x : X, i < len → ∀ j u, (L x)[j]? = some u → W.cell? (a'.add (i * s + j)) = some u := fun i => by
      by_cases hlt : i < len
      · obtain ⟨cs', hc, ht'⟩ := hi i (by omega)
        rw [hs] at hc
        obtain ⟨x, rfl⟩ := each _ _ _ ht'
        obtain ⟨_, _, hat⟩ := World.cells?_some hc
        refine ⟨x, fun _ j u hu => ?_⟩
        have hj : j < s := by rw [← hL x]; exact (List.getElem?_eq_some_iff.1 hu).1
        have := hat j hj
        rw [← Go.Deep.add_add, this]
        exact hu
      · exact ⟨x0, fun h => absurd h hlt⟩
    obtain ⟨f, hf⟩ := Classical.axiomOfChoice one
    refine ⟨_, len, _, f, rfl, ⟨hl, by unfold maxLen at hm; omega⟩, (fun h => by cases h), (fun i hlt => ?_), .inr ⟨_, _, (Prod.mk.inj hdat).1, by simp⟩⟩
    obtain ⟨u0, h0⟩ : ∃ u, (L (f 0))[0]? = some u := ⟨_, List.getElem?_eq_getElem (by rw [hL]; exact hs0)⟩
    obtain ⟨bk, off, rfl⟩ : ∃ bk off, a' = ⟨bk, off, none⟩ := addr_none (w := W) (n := 0 * s + 0) (by omega) (hf 0 (by omega) 0 _ h0)
    refine ⟨bk, off, rfl, fun j u hu => ?_⟩
    have := hf i hlt j u hu
    rwa [addr_add, ← Nat.add_assoc] at this

set_option maxRecDepth 100000 in
/-- A struct that comes in by value. -/
theorem open_value {X : Type} (L : X → List Value) {t : TypeId} {fs : Array Field} (ht : Tryz.prog.underlying t = some (.struct fs))
    (each : ∀ n cs y, DataW.trod enc Tryz.prog W b sp hd n t cs = some y → ∃ x, cs = L x)
    {v : Value} {d : DataW H} {p : List MemPlace} (hv : Value.okWide Tryz.prog W r base t v) (h : DataW.Trod enc Tryz.prog W b sp hd t v d p) : ∃ x, v = .agg (L x).toArray := by
  obtain ⟨cs, rfl, _⟩ := okWide_struct ht hv
  obtain ⟨fuel, hf⟩ := h
  obtain ⟨x, hx⟩ := each _ _ _ hf
  refine ⟨x, ?_⟩
  rw [← hx]
  simp [Value.cells]

/-- One word of a struct. -/
theorem word_of {n : Nat} {t : TypeId} {k : IntKind} (ht : Tryz.prog.underlying t = some (.int k)) (hc : Tryz.prog.cellsOf t = 1) {cs : List Value} {off : Nat} {y : Option (DataW H × List MemPlace)} (hy : ∃ z, y = some z)
    (h : DataW.trod enc Tryz.prog W b sp hd n t ((cs.drop off).take (Tryz.prog.cellsOf t)) = y) : ∃ x, cs[off]? = some (.int k x) ∧ (Lit.int k x).wf = true := by
  obtain ⟨z, rfl⟩ := hy
  rw [hc] at h
  obtain ⟨x, f, _, hw⟩ := DataW.trod_int ht h
  refine ⟨x, ?_, hw⟩
  have : ((cs.drop off).take 1)[0]? = some (.int k x) := by rw [f]; rfl
  simpa [List.getElem?_take, List.getElem?_drop] using this
end
end Go.Proofs.YtnepdbfnbikplaaGreatDoor

namespace Go.Proofs.YtnepdbfnbikplaaGreatDoor
open Go.ChangeShapes Go.WideShapes Go.ChangeAt Go.RowKit Go.Deep Pt

section
variable {H : Type} {enc : TypeId × Value → H} {W : World} {b : Nat} {sp : Nat → Bool} {hd : Bool} {r : Reach} {base : Nat}

set_option maxRecDepth 100000 in
theorem cfg_of {n : Nat} {cs : List Value} {y : DataW H × List MemPlace} (h : DataW.trod enc Tryz.prog W b sp hd n 24 cs = some y) : ∃ a : Cf, cs = cl a := by
  obtain ⟨xs, m, _, _, hlen, hl, hf⟩ := DataW.trod_struct Tryz.underlying24 h
  rw [show Tryz.prog.cellsOf 24 = 12 by kernel_rfl] at hlen
  have g : ∀ j, j < 12 → ∃ y, xs[j]? = some y := fun j hj => ⟨_, List.getElem?_eq_getElem (by rw [hl]; exact hj)⟩
  have q0 : DataW.trod enc Tryz.prog W b sp hd m 5 ((cs.drop 0).take (Tryz.prog.cellsOf 5)) = xs[0]? := hf 0 _ rfl
  have q1 : DataW.trod enc Tryz.prog W b sp hd m 3 ((cs.drop 1).take (Tryz.prog.cellsOf 3)) = xs[1]? := hf 1 _ rfl
  have q2 : DataW.trod enc Tryz.prog W b sp hd m 3 ((cs.drop 2).take (Tryz.prog.cellsOf 3)) = xs[2]? := hf 2 _ rfl
  have q3 : DataW.trod enc Tryz.prog W b sp hd m 5 ((cs.drop 3).take (Tryz.prog.cellsOf 5)) = xs[3]? := hf 3 _ rfl
  have q4 : DataW.trod enc Tryz.prog W b sp hd m 3 ((cs.drop 4).take (Tryz.prog.cellsOf 3)) = xs[4]? := hf 4 _ rfl
  have q5 : DataW.trod enc Tryz.prog W b sp hd m 3 ((cs.drop 5).take (Tryz.prog.cellsOf 3)) = xs[5]? := hf 5 _ rfl
  have q6 : DataW.trod enc Tryz.prog W b sp hd m 3 ((cs.drop 6).take (Tryz.prog.cellsOf 3)) = xs[6]? := hf 6 _ rfl
  have q7 : DataW.trod enc Tryz.prog W b sp hd m 3 ((cs.drop 7).take (Tryz.prog.cellsOf 3)) = xs[7]? := hf 7 _ rfl
  have q8 : DataW.trod enc Tryz.prog W b sp hd m 3 ((cs.drop 8).take (Tryz.prog.cellsOf 3)) = xs[8]? := hf 8 _ rfl
  have q9 : DataW.trod enc Tryz.prog W b sp hd m 3 ((cs.drop 9).take (Tryz.prog.cellsOf 3)) = xs[9]? := hf 9 _ rfl
  have q10 : DataW.trod enc Tryz.prog W b sp hd m 22 ((cs.drop 10).take (Tryz.prog.cellsOf 22)) = xs[10]? := hf 10 _ rfl
  have q11 : DataW.trod enc Tryz.prog W b sp hd m 22 ((cs.drop 11).take (Tryz.prog.cellsOf 22)) = xs[11]? := hf 11 _ rfl
  obtain ⟨k0, h0, _⟩ := word_of Tryz.underlying5 (by kernel_rfl) (g 0 (by omega)) q0
  obtain ⟨k1, h1, _⟩ := word_of Tryz.underlying3 (by kernel_rfl) (g 1 (by omega)) q1
  obtain ⟨k2, h2, _⟩ := word_of Tryz.underlying3 (by kernel_rfl) (g 2 (by omega)) q2
  obtain ⟨k3, h3, _⟩ := word_of Tryz.underlying5 (by kernel_rfl) (g 3 (by omega)) q3
  obtain ⟨k4, h4, _⟩ := word_of Tryz.underlying3 (by kernel_rfl) (g 4 (by omega)) q4
  obtain ⟨k5, h5, _⟩ := word_of Tryz.underlying3 (by kernel_rfl) (g 5 (by omega)) q5
  obtain ⟨k6, h6, _⟩ := word_of Tryz.underlying3 (by kernel_rfl) (g 6 (by omega)) q6
  obtain ⟨k7, h7, _⟩ := word_of Tryz.underlying3 (by kernel_rfl) (g 7 (by omega)) q7
  obtain ⟨k8, h8, _⟩ := word_of Tryz.underlying3 (by kernel_rfl) (g 8 (by omega)) q8
  obtain ⟨k9, h9, _⟩ := word_of Tryz.underlying3 (by kernel_rfl) (g 9 (by omega)) q9
  obtain ⟨k10, h10, _⟩ := word_of Tryz.underlying22 (by kernel_rfl) (g 10 (by omega)) q10
  obtain ⟨k11, h11, _⟩ := word_of Tryz.underlying22 (by kernel_rfl) (g 11 (by omega)) q11
  match cs, hlen with
  | [v0, v1, v2, v3, v4, v5, v6, v7, v8, v9, v10, v11], _ =>
    simp at h0 h1 h2 h3 h4 h5 h6 h7 h8 h9 h10 h11
    refine ⟨⟨k0, k1, k2, k3, k4, k5, k6, k7, k8, k9, k10, k11⟩, ?_⟩
    simp [cl, h0, h1, h2, h3, h4, h5, h6, h7, h8, h9, h10, h11]

set_option maxRecDepth 100000 in
theorem open_cfg {v : Value} {d : DataW H} {p : List MemPlace} (hv : Value.okWide Tryz.prog W r base 24 v) (h : DataW.Trod enc Tryz.prog W b sp hd 24 v d p) : ∃ c : Cf, v = cfv c := by
  obtain ⟨a, rfl⟩ := open_value (fun a : Cf => cl a) Tryz.underlying24 (fun _ _ _ h => cfg_of h) hv h
  exact ⟨a, rfl⟩
end
end Go.Proofs.YtnepdbfnbikplaaGreatDoor

namespace Go.Proofs.YtnepdbfnbikplaaGreatDoor
open Go.ChangeShapes Go.WideShapes Go.ChangeAt Go.RowKit Go.Deep Opn

set_option maxRecDepth 100000 in
theorem u32_nat {x : Int} (h : (Lit.int .u32 x).wf = true) : ∃ n : Nat, x = n ∧ n < 4294967296 := by
  have hx : 0 ≤ x ∧ x ≤ 4294967295 := by simpa [Lit.wf, IntKind.min, IntKind.max, IntKind.signed, IntKind.bits] using h
  exact ⟨x.toNat, by omega, by omega⟩
set_option maxRecDepth 100000 in
theorem u8_nat {x : Int} (h : (Lit.int .u8 x).wf = true) : ∃ n : Nat, x = n ∧ n < 256 := by
  have hx : 0 ≤ x ∧ x ≤ 255 := by simpa [Lit.wf, IntKind.min, IntKind.max, IntKind.signed, IntKind.bits] using h
  exact ⟨x.toNat, by omega, by omega⟩

section
variable {H : Type} {enc : TypeId × Value → H} {W : World} {b : Nat} {sp : Nat → Bool} {hd : Bool} {r : Reach} {base : Nat}

def opc (o : {o : O // Wf o}) : List Value := [.int .u8 (o.1.k : Nat), .int .u32 (o.1.a : Nat), .int .u32 (o.1.b : Nat), .int .u32 (o.1.c : Nat)]
set_option maxRecDepth 100000 in
theorem op_of {n : Nat} {cs : List Value} {y : DataW H × List MemPlace} (h : DataW.trod enc Tryz.prog W b sp hd n 28 cs = some y) : ∃ o, cs = opc o := by
  obtain ⟨xs, m, _, _, hlen, hl, hf⟩ := DataW.trod_struct Tryz.underlying28 h
  rw [show Tryz.prog.cellsOf 28 = 4 by kernel_rfl] at hlen
  have g : ∀ j, j < 4 → ∃ y, xs[j]? = some y := fun j hj => ⟨_, List.getElem?_eq_getElem (by rw [hl]; exact hj)⟩
  have q0 : DataW.trod enc Tryz.prog W b sp hd m 5 ((cs.drop 0).take (Tryz.prog.cellsOf 5)) = xs[0]? := hf 0 _ rfl
  have q1 : DataW.trod enc Tryz.prog W b sp hd m 26 ((cs.drop 1).take (Tryz.prog.cellsOf 26)) = xs[1]? := hf 1 _ rfl
  have q2 : DataW.trod enc Tryz.prog W b sp hd m 26 ((cs.drop 2).take (Tryz.prog.cellsOf 26)) = xs[2]? := hf 2 _ rfl
  have q3 : DataW.trod enc Tryz.prog W b sp hd m 26 ((cs.drop 3).take (Tryz.prog.cellsOf 26)) = xs[3]? := hf 3 _ rfl
  obtain ⟨k0, h0, w0⟩ := word_of Tryz.underlying5 (by kernel_rfl) (g 0 (by omega)) q0
  obtain ⟨k1, h1, w1⟩ := word_of Tryz.underlying26 (by kernel_rfl) (g 1 (by omega)) q1
  obtain ⟨k2, h2, w2⟩ := word_of Tryz.underlying26 (by kernel_rfl) (g 2 (by omega)) q2
  obtain ⟨k3, h3, w3⟩ := word_of Tryz.underlying26 (by kernel_rfl) (g 3 (by omega)) q3
  obtain ⟨n0, rfl, l0⟩ := u8_nat w0
  obtain ⟨n1, rfl, l1⟩ := u32_nat w1
  obtain ⟨n2, rfl, l2⟩ := u32_nat w2
  obtain ⟨n3, rfl, l3⟩ := u32_nat w3
  match cs, hlen with
  | [v0, v1, v2, v3], _ =>
    simp at h0 h1 h2 h3
    refine ⟨⟨⟨n0, n1, n2, n3⟩, l0, l1, l2, l3⟩, ?_⟩
    simp [opc, h0, h1, h2, h3]

set_option maxRecDepth 100000 in
theorem open_op {v : Value} {d : DataW H} {p : List MemPlace} (hv : Value.okWide Tryz.prog W r base 28 v) (h : DataW.Trod enc Tryz.prog W b sp hd 28 v d p) : ∃ o : O, Wf o ∧ v = opv o := by
  obtain ⟨a, rfl⟩ := open_value (fun a : {o : O // Wf o} => opc a) Tryz.underlying28 (fun _ _ _ h => op_of h) hv h
  exact ⟨a.1, a.2, rfl⟩
end
end Go.Proofs.YtnepdbfnbikplaaGreatDoor

namespace Go.Proofs.YtnepdbfnbikplaaGreatDoor
open Go.ChangeShapes Go.WideShapes Go.ChangeAt Go.RowKit

section
variable {H : Type} {enc : TypeId × Value → H} {P : Program} {w : World} {base : Nat} {spare : Nat → Bool} {held : Bool}

def rowData (k : IntKind) (ds : List Int) : DataW H := .agg (ds.map fun z => .lit (.int k z))

theorem ints_row {fuel : Nat} {t e : TypeId} {C : Nat} {k : IntKind} {cs : List Value} {x : DataW H × List MemPlace} (ht : P.underlying t = some (.array C e)) (he : P.underlying e = some (.int k)) (hc : P.cellsOf e = 1)
    (h : DataW.trod enc P w base spare held fuel t cs = some x) (ds : List Int) (hx : x.1 = rowData k ds) : ∀ (j : Nat) (z : Int), ds[j]? = some z → cs[j]? = some (.int k z) := by
  obtain ⟨xs, m, rfl, rfl, _, hn, hel⟩ := DataW.trod_array ht h
  intro j z hj
  simp only [rowData, DataW.agg.injEq] at hx
  have h1 : (xs.map (·.1))[j]? = some (.lit (.int k z)) := by rw [hx, List.getElem?_map, hj]; rfl
  rw [List.getElem?_map, Option.map_eq_some_iff] at h1
  obtain ⟨y, hy, hy1⟩ := h1
  have hjn : j < C := by rw [← hn]; exact (List.getElem?_eq_some_iff.1 hy).1
  have h2 := hel j hjn
  rw [hy, hc, Nat.mul_one] at h2
  obtain ⟨k', e1, rfl, _⟩ := DataW.trod_int he h2
  have : k' = z := by simpa using hy1
  subst this
  have h3 := congrArg (fun l : List Value => l[0]?) e1
  simpa [List.getElem?_take] using h3

theorem ints_rows {fuel : Nat} {T t e : TypeId} {R C : Nat} {k : IntKind} {cs : List Value} {x : DataW H × List MemPlace} (hT : P.underlying T = some (.array R t)) (ht : P.underlying t = some (.array C e)) (he : P.underlying e = some (.int k)) (hc : P.cellsOf e = 1) (hC : P.cellsOf t = C)
    (h : DataW.trod enc P w base spare held fuel T cs = some x) (ds : List (List Int)) (hx : x.1 = .agg (ds.map (rowData k))) : ∀ (i j : Nat) (r : List Int) (z : Int), ds[i]? = some r → r[j]? = some z → j < C → cs[i * C + j]? = some (.int k z) := by
  obtain ⟨xs, m, rfl, rfl, _, hn, hel⟩ := DataW.trod_array hT h
  intro i j r z hi hj hjC
  simp only [DataW.agg.injEq] at hx
  have h1 : (xs.map (·.1))[i]? = some (rowData k r) := by rw [hx, List.getElem?_map, hi]; rfl
  rw [List.getElem?_map, Option.map_eq_some_iff] at h1
  obtain ⟨y, hy, hy1⟩ := h1
  have hin : i < R := by rw [← hn]; exact (List.getElem?_eq_some_iff.1 hy).1
  have h2 := hel i hin
  rw [hy, hC] at h2
  have h3 := ints_row ht he hc h2 r hy1 j z hj
  rw [List.getElem?_take, if_pos hjC, List.getElem?_drop] at h3
  exact h3
end
end Go.Proofs.YtnepdbfnbikplaaGreatDoor

namespace Go.Proofs.YtnepdbfnbikplaaGreatDoor
open Go.ChangeShapes Go.WideShapes Go.ChangeAt Go.RowKit Opn

/-- What the rows list. -/
abbrev laidL : List (String × DataW Unit) := [("bascule/op.objects", Rows.laid_bascule_op_objects)]

theorem gObjects : Tryz.prog.globalNamed "bascule/op.objects" = some 0 := by kernel_rfl
theorem tObjects : (Tryz.prog.globals[0]?).map (·.type) = some 60 := by kernel_rfl
theorem cByte : Tryz.prog.cellsOf 5 = 1 := by kernel_rfl

theorem of_laid {W : World} (h : laidMetH Tryz.prog laidL W) : Obs W := by
  rw [MakeChecks.laidMetH_plain _ _ _ (by kernel_rfl)] at h
  obtain ⟨ps, ⟨g0, t0, cs0, f0, p0, q0, hg0, ht0, hv0, hd0, _⟩, _⟩ := h
  obtain rfl := Option.some.inj (gObjects.symm.trans hg0)
  obtain rfl := Option.some.inj (tObjects.symm.trans ht0)
  have key := ints_row Tryz.underlying60 Tryz.underlying5 cByte hd0 [0, 1, 1, 1, 2, 2, 2, 2, 2, 3, 3, 3, 4, 4, 4] rfl
  intro j hj
  have hc := World.var?_cell hg0 hv0 j
  rw [hc]
  have hk : ∀ i : Fin 15, ([0, 1, 1, 1, 2, 2, 2, 2, 2, 3, 3, 3, 4, 4, 4] : List Int)[i.val]? = some ((objAt i.val : Nat) : Int) := by decide +kernel
  have := key j _ (hk ⟨j, hj⟩)
  rw [← Array.getElem?_toList, this]

theorem door_met (os : Os) (args : Array Value) : laidMetH Tryz.prog laidL ((World.doorLaid Tryz.prog 400 os).forCall (fun _ _ => 0) ⟨#[], args, []⟩).memory :=
  laidMetH_of_parts3 (fuel := 8) (laidMet_of_run' 8 (by kernel_rfl) (by kernel_rfl)) (by kernel_rfl) (by kernel_rfl)
theorem Obs.keep {W X : World} (h : Obs W) (k : W.heap.size ≤ X.heap.size ∧ ∀ b j, b < W.heap.size → X.cell? ⟨b, j, none⟩ = W.cell? ⟨b, j, none⟩) : Obs X := fun j hj =>
  (k.2 _ _ (World.block_lt_of_cell? _ _ (h j hj))).trans (h j hj)
end Go.Proofs.YtnepdbfnbikplaaGreatDoor

namespace Go.Proofs.YtnepdbfnbikplaaGreatDoor
open Go.ChangeShapes Go.WideShapes Go.ChangeAt Go.RowKit Go.Deep Opn Tb

set_option maxRecDepth 100000 in
theorem u64_nat' {x : Int} (h : (Lit.int .u64 x).wf = true) : ∃ n : Nat, x = n ∧ n < 18446744073709551616 := u64_nat h

/-- A row that fits two words. -/
abbrev RB := {x : R // x.1 < 18446744073709551616 ∧ x.2 < 18446744073709551616}

section
variable {H : Type} {enc : TypeId × Value → H} {W : World} {b : Nat} {sp : Nat → Bool} {hd : Bool} {r : Reach} {base : Nat}

set_option maxRecDepth 100000 in
theorem row_of {n : Nat} {cs : List Value} {y : DataW H × List MemPlace} (h : DataW.trod enc Tryz.prog W b sp hd n 44 cs = some y) : ∃ x, cs = rowL x := by
  obtain ⟨xs, m, _, _, hlen, hl, hf⟩ := DataW.trod_struct Tryz.underlying44 h
  rw [show Tryz.prog.cellsOf 44 = 2 by kernel_rfl] at hlen
  have g : ∀ j, j < 2 → ∃ y, xs[j]? = some y := fun j hj => ⟨_, List.getElem?_eq_getElem (by rw [hl]; exact hj)⟩
  have q0 : DataW.trod enc Tryz.prog W b sp hd m 22 ((cs.drop 0).take (Tryz.prog.cellsOf 22)) = xs[0]? := hf 0 _ rfl
  have q1 : DataW.trod enc Tryz.prog W b sp hd m 22 ((cs.drop 1).take (Tryz.prog.cellsOf 22)) = xs[1]? := hf 1 _ rfl
  obtain ⟨k0, h0, w0⟩ := word_of Tryz.underlying22 (by kernel_rfl) (g 0 (by omega)) q0
  obtain ⟨k1, h1, w1⟩ := word_of Tryz.underlying22 (by kernel_rfl) (g 1 (by omega)) q1
  obtain ⟨n0, rfl, _⟩ := u64_nat w0
  obtain ⟨n1, rfl, _⟩ := u64_nat w1
  refine ⟨(n0, n1), ?_⟩
  match cs, hlen with
  | [a, c], _ =>
    simp at h0 h1
    rw [h0, h1]; rfl

set_option maxRecDepth 100000 in
/-- From a row by numbers to a list. -/
theorem isl_of {X : Type} {A : Option Addr} {N s : Nat} {L : X → List Value} {f : Nat → X} (h : IsRow W A N s (fun i => L (f i))) : IsL W A s L ((List.range N).map f) := fun i x hx => by
  rw [List.getElem?_map, Option.map_eq_some_iff] at hx
  obtain ⟨j, hj, rfl⟩ := hx
  obtain ⟨hj1, hj2⟩ := List.getElem?_eq_some_iff.1 hj
  rw [List.length_range] at hj1
  have : j = i := by rw [← hj2]; simp
  subst this
  exact h j hj1

set_option maxRecDepth 100000 in
theorem open_tab {v : Value} {d : DataW H} {p : List MemPlace} (hv : Value.okWide Tryz.prog W r base 30 v) (h : DataW.Trod enc Tryz.prog W b (fun _ => true) hd 30 v d p) :
    ∃ A c, ∃ l : List R, v = .slice A l.length c ∧ (l.length ≤ c ∧ c ≤ 9223372036854775807) ∧ (A = none → l.length = 0 ∧ c = 0) ∧ IsR W A l := by
  obtain ⟨A, N, c, f, rfl, h1, h2, h3, _⟩ := open_rows (0, 0) rowL (s := 2) Tryz.underlying30 (by kernel_rfl) (by decide) rowL_len (fun n cs y h => row_of h) hv h
  have e : ((List.range N).map f).length = N := by simp
  exact ⟨A, c, (List.range N).map f, by rw [e], by rw [e]; exact h1, by rw [e]; exact h2, isl_of h3⟩

set_option maxRecDepth 100000 in
/-- .. with the numbers' bounds. -/
theorem row_ofB {n : Nat} {cs : List Value} {y : DataW H × List MemPlace} (h : DataW.trod enc Tryz.prog W b sp hd n 44 cs = some y) : ∃ x : RB, cs = rowL x.1 := by
  obtain ⟨xs, m, _, _, hlen, hl, hf⟩ := DataW.trod_struct Tryz.underlying44 h
  rw [show Tryz.prog.cellsOf 44 = 2 by kernel_rfl] at hlen
  have g : ∀ j, j < 2 → ∃ y, xs[j]? = some y := fun j hj => ⟨_, List.getElem?_eq_getElem (by rw [hl]; exact hj)⟩
  have q0 : DataW.trod enc Tryz.prog W b sp hd m 22 ((cs.drop 0).take (Tryz.prog.cellsOf 22)) = xs[0]? := hf 0 _ rfl
  have q1 : DataW.trod enc Tryz.prog W b sp hd m 22 ((cs.drop 1).take (Tryz.prog.cellsOf 22)) = xs[1]? := hf 1 _ rfl
  obtain ⟨k0, h0, w0⟩ := word_of Tryz.underlying22 (by kernel_rfl) (g 0 (by omega)) q0
  obtain ⟨k1, h1, w1⟩ := word_of Tryz.underlying22 (by kernel_rfl) (g 1 (by omega)) q1
  obtain ⟨n0, rfl, b0⟩ := u64_nat w0
  obtain ⟨n1, rfl, b1⟩ := u64_nat w1
  refine ⟨⟨(n0, n1), b0, b1⟩, ?_⟩
  match cs, hlen with
  | [a, c], _ =>
    simp at h0 h1
    rw [h0, h1]; rfl

set_option maxRecDepth 100000 in
theorem open_tabB {v : Value} {d : DataW H} {p : List MemPlace} (hv : Value.okWide Tryz.prog W r base 30 v) (h : DataW.Trod enc Tryz.prog W b (fun _ => true) hd 30 v d p) :
    ∃ A c, ∃ l : List R, (∀ x ∈ l, x.1 < 18446744073709551616 ∧ x.2 < 18446744073709551616) ∧ v = .slice A l.length c ∧ (l.length ≤ c ∧ c ≤ 9223372036854775807) ∧ (A = none → l.length = 0 ∧ c = 0) ∧ IsR W A l := by
  obtain ⟨A, N, c, f, rfl, h1, h2, h3, _⟩ := open_rows (⟨(0, 0), by decide, by decide⟩ : RB) (fun x : RB => rowL x.1) (s := 2) Tryz.underlying30 (by kernel_rfl) (by decide) (fun x => rowL_len x.1) (fun n cs y h => row_ofB h) hv h
  have e : ((List.range N).map fun i => (f i).1).length = N := by simp
  exact ⟨A, c, (List.range N).map fun i => (f i).1, fun x hx => by obtain ⟨i, _, rfl⟩ := List.mem_map.1 hx; exact (f i).2, by rw [e], by rw [e]; exact h1, by rw [e]; exact h2, isl_of (f := fun i => (f i).1) h3⟩

abbrev OW := {o : O // Wf o}
set_option maxRecDepth 100000 in
theorem opc_len (o : OW) : (opc o).length = 4 := rfl
set_option maxRecDepth 100000 in
theorem open_ops {v : Value} {d : DataW H} {p : List MemPlace} (hv : Value.okWide Tryz.prog W r base 25 v) (h : DataW.Trod enc Tryz.prog W b (fun _ => true) hd 25 v d p) :
    ∃ A c, ∃ l : List OW, v = .slice A l.length c ∧ (A = none → l.length = 0 ∧ c = 0) ∧ IsL W A 4 opc l := by
  obtain ⟨A, N, c, f, rfl, h1, h2, h3, _⟩ := open_rows (⟨⟨0, 0, 0, 0⟩, by unfold Wf; decide⟩ : OW) opc (s := 4) Tryz.underlying25 (by kernel_rfl) (by decide) opc_len (fun n cs y h => op_of h) hv h
  have e : ((List.range N).map f).length = N := by simp
  exact ⟨A, c, (List.range N).map f, by rw [e], by rw [e]; exact h2, isl_of h3⟩
end
end Go.Proofs.YtnepdbfnbikplaaGreatDoor
