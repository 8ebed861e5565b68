/- The program of an index: plain numbers. What a frame does, and what becomes of it. The program of an index goes on by frames that may be, and ends: plain numbers. The program of an index goes on by frames that may be, and ends: Pc by Pc. The program of an index: each act leads on to a frame that may be, with less left. The program of an index: each act leads on to a frame that may be, with less left: Pc by Pc. The program of an index ends, touches cells that there are, and its frames fit into a cell: plain numbers. -/
import Derived.Test.YtmkehailohgebaaDoorGOpen
import Derived.Test.YtmkehailohgebaaDoorGMath
namespace Go.Proofs.YtmkehailohgebaaDoor
open Pt Opn

/-- The top level; how many items there are so many levels up; where a level begins. -/
def topX (c : Cf) : Nat := Rk.top c.cap.toNat c.node.toNat
def upX (c : Cf) (n h : Nat) : Nat := Rk.items n c.node.toNat h
def baseX (c : Cf) : Nat → Nat
  | 0 => 1
  | k + 1 => baseX c k + upX c c.cap.toNat k
/-- The offset of an item of a level; -1: there is no such cell. -/
def offX (c : Cf) (h i : Int) : Int := if 0 ≤ h ∧ h ≤ (topX c : Int) ∧ 0 ≤ i ∧ i < (upX c c.cap.toNat h.toNat : Int) then (baseX c h.toNat : Int) + i else -1
/-- Has the table such a Pc? -/
def pcsX (k : Nat) : List Nat :=
  if k = 4 then [0, 1, 4, 5, 6, 7, 8, 9, 11, 22, 23, 24] else if k = 5 then [0, 1, 8, 9, 11, 12, 13, 14, 15, 21, 25] else if k = 6 then [0, 1, 21, 23]
  else if k = 7 then [0, 1, 3, 20, 21] else if k = 8 then [0, 1, 16, 17, 20] else []
def ThereX (k p : Nat) : Prop := p ∈ pcsX k
instance (k p : Nat) : Decidable (ThereX k p) := by unfold ThereX; infer_instance
/-- The operation that a frame is of. -/
def frX (f : Ds) : O := ⟨f.kind, f.a, if f.kind = 5 then 0 else f.b, 0⟩
/-- Are a frame's numbers as they should be? -/
def NumX (c : Cf) (f : Ds) : Prop := ((f.n : Int) ≤ c.cap ∧ (f.p : Int) ≤ c.cap ∧ (f.j : Int) ≤ c.chunk ∧ f.h ≤ topX c) ∧
  (f.pc = 6 → 1 ≤ f.i) ∧ (f.pc = 9 ∨ f.pc = 11 → 1 ≤ f.h ∧ f.i < upX c f.n f.h) ∧ (f.pc = 12 → 1 ≤ f.h)
instance (c : Cf) (f : Ds) : Decidable (NumX c f) := by unfold NumX; infer_instance
/-- The place that its act names. -/
def placeX (c : Cf) (f : Ds) : Int :=
  if f.pc = 1 then offX c f.h f.i
  else if f.pc = 3 then offX c 0 (f.p - 1)
  else if f.pc = 4 ∨ f.pc = 7 then offX c 0 f.p
  else if f.pc = 5 then offX c 0 (f.i - 1)
  else if f.pc = 6 then offX c 0 f.i
  else if f.pc = 9 then offX c (f.h - 1) (Rk.lst f.n c.node f.h f.i)
  else if f.pc = 11 then offX c f.h f.i
  else if f.pc = 12 then offX c f.h (upX c f.n f.h : Nat)
  else if f.pc = 13 then offX c 0 f.i
  else if f.pc = 14 then offX c 0 (f.i - 1)
  else if f.pc = 15 then offX c 0 (f.n - 1)
  else if f.pc = 17 then offX c 0 f.p
  else 0
/-- What kind of act it is; the words; the code; the value. -/
def kindX (p : Nat) : Nat := if p = 4 ∨ p = 6 ∨ p = 7 ∨ p = 8 ∨ p = 11 ∨ p = 12 ∨ p = 14 ∨ p = 15 then 2 else if p = 16 then 3 else if p = 0 ∨ p = 1 ∨ p = 3 ∨ p = 5 ∨ p = 9 ∨ p = 13 ∨ p = 17 then 1 else 4
def wordX (f : Ds) : Nat := if f.pc = 4 ∨ f.pc = 7 then f.a else if f.pc = 6 ∨ f.pc = 11 ∨ f.pc = 14 then f.x else if f.pc = 8 then f.n else 0
def wordY (f : Ds) : Nat := if f.pc = 4 ∨ f.pc = 7 then f.b else if f.pc = 6 ∨ f.pc = 14 then f.y else 0
def codeX (p : Nat) : Int := if p = 21 then 6 else if p = 22 then 9 else 0
def valX (f : Ds) : Nat := if f.pc = 23 then (f.y + 1) % 4294967296 else if f.pc = 25 then f.b else 0
/-- Its act. -/
def stepX (c : Cf) (f : Ds) : Ac := ⟨kindX f.pc, (placeX c f).toNat, wordX f, wordY f, 0, codeX f.pc, valX f⟩
/-- May a frame be? -/
def XMay (c : Cf) (f : Ds) : Prop := chk c (frX f) = 0 ∧ ThereX f.kind f.pc ∧ NumX c f ∧ 0 ≤ placeX c f
instance (c : Cf) (f : Ds) : Decidable (XMay c f) := by unfold XMay; infer_instance

/-- A cell is taken over. -/
def overX (f : Ds) (A B : Nat) : Ds := { f with x := A % 4294967296, y := B % 4294967296 }
/-- 'new'; 'the next one'; 'on'; 'found'; 'none'. -/
def freshX (c : Cf) (f : Ds) : Ds := if c.cap ≤ (f.n : Int) then { f with pc := 22 } else if f.n ≤ f.p then { f with pc := 7 } else { f with i := f.n, pc := 5 }
def nextOne (f : Ds) : Ds := if f.n ≤ f.p + 1 then { f with pc := 20 } else { f with p := f.p + 1, pc := 17 }
def onX (c : Cf) (f : Ds) : Ds × Bool :=
  if f.b < f.x then ({ f with pc := 20 }, false)
  else if c.chunk ≤ (f.j + 1 : Int) then ({ f with j := f.j + 1, pc := 16 }, true)
  else (nextOne { f with j := f.j + 1 }, true)
def foundX (c : Cf) (f : Ds) : Ds × Bool :=
  if f.kind = 6 then (if f.x = f.a then ({ f with pc := 23 }, false) else ({ f with pc := 21 }, false))
  else if f.kind = 7 then (if f.x = f.a then ({ f with pc := 20 }, true) else if 0 < f.p then ({ f with pc := 3 }, false) else ({ f with pc := 21 }, false))
  else if f.kind = 8 then onX c f
  else if f.kind = 4 then (if f.x = f.a then ({ f with pc := 4 }, false) else (freshX c f, false))
  else if f.kind = 5 then
    (if f.x = f.a then (if f.n ≤ f.p + 1 then ({ f with b := (f.y + 1) % 4294967296, pc := 15 }, false) else ({ f with b := (f.y + 1) % 4294967296, i := f.p + 1, pc := 13 }, false)) else ({ f with pc := 21 }, false))
  else ({ f with pc := 21 }, false)
def noneX (c : Cf) (f : Ds) : Ds :=
  if f.kind = 4 then freshX c { f with p := f.n }
  else if f.kind = 8 then { f with p := f.n, pc := 20 }
  else if f.kind = 7 ∧ 0 < f.n then { f with p := f.n, pc := 3 }
  else { f with p := f.n, pc := 21 }
/-- 'clears'; 'up'. -/
def clearsX (c : Cf) (f : Ds) : Bool := decide (f.kind = 5 ∧ upX c f.n f.h < upX c (if (f.n : Int) < c.cap then f.n + 1 else f.n) f.h)
def goUp (c : Cf) : Nat → Ds → Ds
  | 0, f => if f.kind = 4 then { f with pc := 24 } else { f with pc := 25 }
  | m + 1, f =>
    let i := f.p / c.node.toNat ^ (f.h + 1)
    let g : Ds := { f with h := f.h + 1, i := i }
    if i < upX c f.n (f.h + 1) then { g with pc := 9 }
    else if clearsX c g = true then { g with pc := 12 }
    else goUp c m g
def climbX (c : Cf) (f : Ds) : Ds := goUp c (topX c - f.h) f
def itemX (c : Cf) (f : Ds) (A B : Nat) : Ds × Bool :=
  if f.a ≤ A then (if f.h = 0 then foundX c (overX { f with p := f.i } A B) else ({ f with h := f.h - 1, i := f.i * c.node.toNat }, false))
  else if (f.i + 1) % c.node.toNat = 0 ∨ upX c f.n f.h ≤ f.i + 1 then (noneX c f, false)
  else ({ f with i := f.i + 1 }, false)
def headX (c : Cf) (f : Ds) (A : Nat) : Ds :=
  let n := if (A : Int) < c.cap then A else c.cap.toNat
  if n = 0 then noneX c { f with n := 0 } else { f with n := n, h := topX c, i := 0, pc := 1 }
/-- The frame behind its act, and whether a row is told. -/
def behindX (c : Cf) (f : Ds) (A B : Nat) : Ds × Bool :=
  if f.pc = 0 then (headX c f A, false)
  else if f.pc = 1 then itemX c f A B
  else if f.pc = 3 then ({ overX f A B with pc := 20 }, true)
  else if f.pc = 4 then ({ f with pc := 23 }, false)
  else if f.pc = 5 then ({ overX f A B with pc := 6 }, false)
  else if f.pc = 6 then (if f.i - 1 ≤ f.p then ({ f with i := f.i - 1, pc := 7 }, false) else ({ f with i := f.i - 1, pc := 5 }, false))
  else if f.pc = 7 then ({ f with n := f.n + 1, pc := 8 }, false)
  else if f.pc = 8 then (climbX c { f with h := 0 }, false)
  else if f.pc = 9 then ({ overX f A B with pc := 11 }, false)
  else if f.pc = 11 then
    (if f.i + 1 < upX c f.n f.h then ({ f with i := f.i + 1, pc := 9 }, false)
     else if clearsX c f = true then ({ f with i := f.i + 1, pc := 12 }, false)
     else (climbX c { f with i := f.i + 1 }, false))
  else if f.pc = 12 then (climbX c f, false)
  else if f.pc = 13 then ({ overX f A B with pc := 14 }, false)
  else if f.pc = 14 then (if f.n ≤ f.i + 1 then ({ f with i := f.i + 1, pc := 15 }, false) else ({ f with i := f.i + 1, pc := 13 }, false))
  else if f.pc = 15 then ({ f with n := f.n - 1, pc := 8 }, false)
  else if f.pc = 16 then (nextOne { f with j := 0 }, false)
  else if f.pc = 17 then onX c (overX f A B)
  else (f, false)
/-- .. Pc by Pc. -/
theorem bh_0 {c : Cf} {f : Ds} (e : f.pc = 0) (A B : Nat) : behindX c f A B = (headX c f A, false) := by
  unfold behindX
  rw [if_pos e]
theorem bh_1 {c : Cf} {f : Ds} (e : f.pc = 1) (A B : Nat) : behindX c f A B = itemX c f A B := by
  unfold behindX
  rw [if_neg (by omega), if_pos e]
theorem bh_3 {c : Cf} {f : Ds} (e : f.pc = 3) (A B : Nat) : behindX c f A B = ({ overX f A B with pc := 20 }, true) := by
  unfold behindX
  rw [if_neg (by omega), if_neg (by omega), if_pos e]
theorem bh_4 {c : Cf} {f : Ds} (e : f.pc = 4) (A B : Nat) : behindX c f A B = ({ f with pc := 23 }, false) := by
  unfold behindX
  rw [if_neg (by omega), if_neg (by omega), if_neg (by omega), if_pos e]
theorem bh_5 {c : Cf} {f : Ds} (e : f.pc = 5) (A B : Nat) : behindX c f A B = ({ overX f A B with pc := 6 }, false) := by
  unfold behindX
  rw [if_neg (by omega), if_neg (by omega), if_neg (by omega), if_neg (by omega), if_pos e]
theorem bh_6 {c : Cf} {f : Ds} (e : f.pc = 6) (A B : Nat) : behindX c f A B = (if f.i - 1 ≤ f.p then ({ f with i := f.i - 1, pc := 7 }, false) else ({ f with i := f.i - 1, pc := 5 }, false)) := by
  unfold behindX
  rw [if_neg (by omega), if_neg (by omega), if_neg (by omega), if_neg (by omega), if_neg (by omega), if_pos e]
theorem bh_7 {c : Cf} {f : Ds} (e : f.pc = 7) (A B : Nat) : behindX c f A B = ({ f with n := f.n + 1, pc := 8 }, false) := by
  unfold behindX
  rw [if_neg (by omega), if_neg (by omega), if_neg (by omega), if_neg (by omega), if_neg (by omega), if_neg (by omega), if_pos e]
theorem bh_8 {c : Cf} {f : Ds} (e : f.pc = 8) (A B : Nat) : behindX c f A B = (climbX c { f with h := 0 }, false) := by
  unfold behindX
  rw [if_neg (by omega), if_neg (by omega), if_neg (by omega), if_neg (by omega), if_neg (by omega), if_neg (by omega), if_neg (by omega), if_pos e]
theorem bh_9 {c : Cf} {f : Ds} (e : f.pc = 9) (A B : Nat) : behindX c f A B = ({ overX f A B with pc := 11 }, false) := by
  unfold behindX
  rw [if_neg (by omega), if_neg (by omega), if_neg (by omega), if_neg (by omega), if_neg (by omega), if_neg (by omega), if_neg (by omega), if_neg (by omega), if_pos e]
theorem bh_11 {c : Cf} {f : Ds} (e : f.pc = 11) (A B : Nat) : behindX c f A B = (if f.i + 1 < upX c f.n f.h then ({ f with i := f.i + 1, pc := 9 }, false) else if clearsX c f = true then ({ f with i := f.i + 1, pc := 12 }, false) else (climbX c { f with i := f.i + 1 }, false)) := by
  unfold behindX
  rw [if_neg (by omega), if_neg (by omega), if_neg (by omega), if_neg (by omega), if_neg (by omega), if_neg (by omega), if_neg (by omega), if_neg (by omega), if_neg (by omega), if_pos e]
theorem bh_12 {c : Cf} {f : Ds} (e : f.pc = 12) (A B : Nat) : behindX c f A B = (climbX c f, false) := by
  unfold behindX
  rw [if_neg (by omega), if_neg (by omega), if_neg (by omega), if_neg (by omega), if_neg (by omega), if_neg (by omega), if_neg (by omega), if_neg (by omega), if_neg (by omega), if_neg (by omega), if_pos e]
theorem bh_13 {c : Cf} {f : Ds} (e : f.pc = 13) (A B : Nat) : behindX c f A B = ({ overX f A B with pc := 14 }, false) := by
  unfold behindX
  rw [if_neg (by omega), if_neg (by omega), if_neg (by omega), if_neg (by omega), if_neg (by omega), if_neg (by omega), if_neg (by omega), if_neg (by omega), if_neg (by omega), if_neg (by omega), if_neg (by omega), if_pos e]
theorem bh_14 {c : Cf} {f : Ds} (e : f.pc = 14) (A B : Nat) : behindX c f A B = (if f.n ≤ f.i + 1 then ({ f with i := f.i + 1, pc := 15 }, false) else ({ f with i := f.i + 1, pc := 13 }, false)) := by
  unfold behindX
  rw [if_neg (by omega), if_neg (by omega), if_neg (by omega), if_neg (by omega), if_neg (by omega), if_neg (by omega), if_neg (by omega), if_neg (by omega), if_neg (by omega), if_neg (by omega), if_neg (by omega), if_neg (by omega), if_pos e]
theorem bh_15 {c : Cf} {f : Ds} (e : f.pc = 15) (A B : Nat) : behindX c f A B = ({ f with n := f.n - 1, pc := 8 }, false) := by
  unfold behindX
  rw [if_neg (by omega), if_neg (by omega), if_neg (by omega), if_neg (by omega), if_neg (by omega), if_neg (by omega), if_neg (by omega), if_neg (by omega), if_neg (by omega), if_neg (by omega), if_neg (by omega), if_neg (by omega), if_neg (by omega), if_pos e]
theorem bh_16 {c : Cf} {f : Ds} (e : f.pc = 16) (A B : Nat) : behindX c f A B = (nextOne { f with j := 0 }, false) := by
  unfold behindX
  rw [if_neg (by omega), if_neg (by omega), if_neg (by omega), if_neg (by omega), if_neg (by omega), if_neg (by omega), if_neg (by omega), if_neg (by omega), if_neg (by omega), if_neg (by omega), if_neg (by omega), if_neg (by omega), if_neg (by omega), if_neg (by omega), if_pos e]
theorem bh_17 {c : Cf} {f : Ds} (e : f.pc = 17) (A B : Nat) : behindX c f A B = onX c (overX f A B) := by
  unfold behindX
  rw [if_neg (by omega), if_neg (by omega), if_neg (by omega), if_neg (by omega), if_neg (by omega), if_neg (by omega), if_neg (by omega), if_neg (by omega), if_neg (by omega), if_neg (by omega), if_neg (by omega), if_neg (by omega), if_neg (by omega), if_neg (by omega), if_neg (by omega), if_pos e]
/-- What the two calls answer. -/
def nextX (c : Cf) (f : Ds) : Ac × Int := if ¬ (Ok c ∧ c.obj = 2) then (Ac.none, 40) else if ¬ XMay c f then (Ac.none, 2) else (stepX c f, 0)
/-- What is told: a key and a value. -/
def toldX (r : Ds × Bool) : Nat × Nat := if r.2 then (r.1.x, r.1.y) else (0, 0)
def afterX (c : Cf) (f : Ds) (A B : Nat) : Ds × (Nat × Nat) × Bool × Int :=
  if ¬ (Ok c ∧ c.obj = 2) then (frZero, (0, 0), false, 40) else if ¬ XMay c f then (frZero, (0, 0), false, 2) else ((behindX c f A B).1, toldX (behindX c f A B), (behindX c f A B).2, 0)
end Go.Proofs.YtmkehailohgebaaDoor

namespace Go.Proofs.YtmkehailohgebaaDoor
open Pt Opn

/-- The sizes of an index, as plain numbers. -/
structure SzX (c : Cf) (C N K : Nat) : Prop where
  cap : c.cap = C
  node : c.node = N
  chunk : c.chunk = K
  c1 : 1 ≤ C
  c2 : C ≤ 32
  n1 : 2 ≤ N
  n2 : N ≤ 4
  k1 : 1 ≤ K
  k2 : K ≤ 8
theorem szX {c : Cf} (h : Ok c) (ho : c.obj = 2) : ∃ C N K, SzX c C N K := by
  obtain ⟨h1, _, h3⟩ := h
  unfold ObjOk at h1
  unfold RestOk at h3
  exact ⟨c.cap.toNat, c.node.toNat, c.chunk.toNat, by omega, by omega, by omega, by omega, by omega, by omega, by omega, by omega, by omega⟩
theorem SzX.cap' {c : Cf} {C N K : Nat} (s : SzX c C N K) : c.cap.toNat = C := by rw [s.cap]; rfl
theorem SzX.node' {c : Cf} {C N K : Nat} (s : SzX c C N K) : c.node.toNat = N := by rw [s.node]; rfl
theorem SzX.up {c : Cf} {C N K : Nat} (s : SzX c C N K) (n h : Nat) : upX c n h = Rk.items n N h := by unfold upX; rw [s.node']
theorem SzX.top {c : Cf} {C N K : Nat} (s : SzX c C N K) : topX c = Rk.top C N := by unfold topX; rw [s.node', s.cap']
theorem SzX.off {c : Cf} {C N K : Nat} (s : SzX c C N K) (h i : Int) : offX c h i = if 0 ≤ h ∧ h ≤ (topX c : Int) ∧ 0 ≤ i ∧ i < (Rk.items C N h.toNat : Int) then (baseX c h.toNat : Int) + i else -1 := by
  unfold offX
  rw [s.up, s.cap']
theorem SzX.there {c : Cf} {C N K : Nat} (s : SzX c C N K) (h i : Int) : 0 ≤ offX c h i ↔ 0 ≤ h ∧ h ≤ (topX c : Int) ∧ 0 ≤ i ∧ i < (Rk.items C N h.toNat : Int) := by
  rw [s.off]
  by_cases g : 0 ≤ h ∧ h ≤ (topX c : Int) ∧ 0 ≤ i ∧ i < (Rk.items C N h.toNat : Int)
  · rw [if_pos g]; omega
  · rw [if_neg g]; omega
theorem SzX.zero {c : Cf} {C N K : Nat} (s : SzX c C N K) (i : Int) : 0 ≤ offX c 0 i ↔ 0 ≤ i ∧ i < (C : Int) := by
  rw [s.there]
  have : Rk.items C N (0 : Int).toNat = C := Rk.items_zero C N
  rw [this]
  omega
theorem SzX.lev {c : Cf} {C N K : Nat} (s : SzX c C N K) (h i : Nat) : 0 ≤ offX c h i ↔ h ≤ topX c ∧ i < Rk.items C N h := by
  rw [s.there]
  have : ((h : Int)).toNat = h := rfl
  rw [this]
  omega
theorem items_mono {m n w h : Nat} (g : m ≤ n) : Rk.items m w h ≤ Rk.items n w h := by
  unfold Rk.items
  exact Nat.div_le_div_right (by omega)
theorem topX_le (c : Cf) : topX c ≤ 4 := Rk.top_le _ _
/-- An item's first of the level below is there. -/
theorem items_down {m w h i : Nat} (hm : m ≤ 32) (h2 : 2 ≤ w) (h4 : w ≤ 4) (hh : h ≤ 3) (hi : i < Rk.items m w (h + 1)) : i * w < Rk.items m w h := by
  rw [← Rk.items_succ hm h2 h4 (by omega)] at hi
  have := (Nat.lt_div_iff_mul_lt (by omega : 0 < w)).1 hi
  omega

/-- How much there is left on the levels above one. -/
def restFrom (c : Cf) : Nat → Nat → Nat
  | 0, _ => 0
  | m + 1, h => 2 * upX c c.cap.toNat (h + 1) + 1 + restFrom c m (h + 1)
def restX (c : Cf) (h : Nat) : Nat := restFrom c (topX c - h) h
def bonusX (c : Cf) (k : Nat) : Nat := if k = 4 ∨ k = 5 then 2 * c.cap.toNat + restX c 0 + 4 else if k = 7 then 1 else if k = 8 then 2 * c.cap.toNat else 0
/-- How many acts there are left, at most. -/
def leftX (c : Cf) (f : Ds) : Nat :=
  if f.pc = 0 then 1 + c.node.toNat * (topX c + 1) + bonusX c f.kind
  else if f.pc = 1 then (c.node.toNat - f.i % c.node.toNat) + c.node.toNat * f.h + bonusX c f.kind
  else if f.pc = 3 ∨ f.pc = 4 then 1
  else if f.pc = 5 then 2 * (f.i - f.p) + restX c 0 + 4
  else if f.pc = 6 then 2 * (f.i - f.p) + restX c 0 + 3
  else if f.pc = 7 ∨ f.pc = 15 then restX c 0 + 2
  else if f.pc = 8 then restX c 0 + 1
  else if f.pc = 9 then 2 * (upX c c.cap.toNat f.h - f.i) + 1 + restX c f.h
  else if f.pc = 11 then 2 * (upX c c.cap.toNat f.h - f.i) + restX c f.h
  else if f.pc = 12 then restX c f.h + 1
  else if f.pc = 13 then 2 * (f.n - f.i) + restX c 0 + 4
  else if f.pc = 14 then 2 * (f.n - f.i) + restX c 0 + 3
  else if f.pc = 16 then 2 * (c.cap.toNat - f.p) - 1
  else if f.pc = 17 then 2 * (c.cap.toNat - f.p)
  else 0
/-- What else holds of the frames that a program goes on by. -/
def InvX (c : Cf) (f : Ds) : Prop :=
  (f.pc = 0 ∨ f.pc = 1 ∨ f.pc = 17 → (f.j : Int) < c.chunk) ∧ (f.pc = 5 ∨ f.pc = 6 ∨ f.pc = 7 → (f.n : Int) < c.cap) ∧ (f.pc = 5 ∨ f.pc = 6 → f.p < f.i ∧ f.i ≤ f.n) ∧
  (f.pc = 13 ∨ f.pc = 14 → f.p < f.i ∧ f.i < f.n) ∧ (f.pc = 16 → (f.p : Int) < c.cap) ∧ (f.pc = 1 → f.i < upX c f.n f.h)
def GoodX (c : Cf) (f : Ds) : Prop := XMay c f ∧ InvX c f

/-- An operation of an index that fits. -/
theorem fitsX {c : Cf} {f : Ds} (hc : c.obj = 2) (h : chk c (frX f) = 0) : ((f.kind = 4 ∨ f.kind = 8) ∧ f.a ≤ 2147483647 ∧ f.b ≤ 2147483647) ∨ (f.kind = 5 ∧ f.a ≤ 2147483647) ∨ ((f.kind = 6 ∨ f.kind = 7) ∧ f.a ≤ 2147483647 ∧ f.b = 0) := by
  unfold chk at h
  split at h
  · omega
  · split at h
    · omega
    · split at h
      · rename_i h1 h2 h3
        unfold Fits frX at h3
        unfold frX at h2
        rw [hc] at h2
        simp only at h2 h3
        have h5 : 4 ≤ f.kind ∧ f.kind ≤ 8 := by
          unfold objAt at h2
          (repeat' split at h2) <;> omega
        clear h h1 h2
        rcases h3 with g | g | g | g | g | g | g | g | g | g
        · omega
        · omega
        · omega
        · rw [if_neg (by omega)] at g; omega
        · by_cases e : f.kind = 5
          · omega
          · rw [if_neg e] at g; omega
        all_goals (exfalso; omega)
      · omega
/-- A frame whose operation is the same. -/
theorem frX_same {f g : Ds} (h1 : g.kind = f.kind) (h2 : g.a = f.a) (h3 : g.b = f.b ∨ f.kind = 5) : frX g = frX f := by
  unfold frX
  rw [h1, h2]
  by_cases e : f.kind = 5
  · rw [if_pos e, if_pos e]
  · rw [if_neg e, if_neg e]
    rcases h3 with g | g
    · rw [g]
    · exact absurd g e
theorem thereX_iff (k p : Nat) : ThereX k p ↔ (k = 4 ∧ (p = 0 ∨ p = 1 ∨ p = 4 ∨ p = 5 ∨ p = 6 ∨ p = 7 ∨ p = 8 ∨ p = 9 ∨ p = 11 ∨ p = 22 ∨ p = 23 ∨ p = 24)) ∨
    (k = 5 ∧ (p = 0 ∨ p = 1 ∨ p = 8 ∨ p = 9 ∨ p = 11 ∨ p = 12 ∨ p = 13 ∨ p = 14 ∨ p = 15 ∨ p = 21 ∨ p = 25)) ∨ (k = 6 ∧ (p = 0 ∨ p = 1 ∨ p = 21 ∨ p = 23)) ∨ (k = 7 ∧ (p = 0 ∨ p = 1 ∨ p = 3 ∨ p = 20 ∨ p = 21)) ∨
    (k = 8 ∧ (p = 0 ∨ p = 1 ∨ p = 16 ∨ p = 17 ∨ p = 20)) := by
  unfold ThereX pcsX
  by_cases e4 : k = 4
  · subst e4; simp
  by_cases e5 : k = 5
  · subst e5; simp
  by_cases e6 : k = 6
  · subst e6; simp
  by_cases e7 : k = 7
  · subst e7; simp
  by_cases e8 : k = 8
  · subst e8; simp
  rw [if_neg e4, if_neg e5, if_neg e6, if_neg e7, if_neg e8]
  simp [e4, e5, e6, e7, e8]
end Go.Proofs.YtmkehailohgebaaDoor

namespace Go.Proofs.YtmkehailohgebaaDoor
open Pt Opn

/-- What holds of a frame that a program goes on by, in plain numbers. -/
def FineX (C N K T : Nat) (f : Ds) : Prop :=
  (f.n ≤ C ∧ f.p ≤ C ∧ f.j ≤ K ∧ f.h ≤ T) ∧ (f.pc = 1 → f.i < Rk.items f.n N f.h) ∧ (f.pc = 3 → 1 ≤ f.p) ∧ (f.pc = 4 ∨ f.pc = 7 ∨ f.pc = 16 ∨ f.pc = 17 → f.p < C) ∧ (f.pc = 5 ∨ f.pc = 6 → f.p < f.i ∧ f.i ≤ f.n) ∧
  (f.pc = 5 ∨ f.pc = 6 ∨ f.pc = 7 → f.n < C) ∧ (f.pc = 9 ∨ f.pc = 11 → 1 ≤ f.h ∧ f.i < Rk.items f.n N f.h) ∧ (f.pc = 12 → 1 ≤ f.h ∧ Rk.items f.n N f.h < Rk.items C N f.h) ∧
  (f.pc = 13 ∨ f.pc = 14 → f.p < f.i ∧ f.i < f.n) ∧ (f.pc = 15 → 1 ≤ f.n) ∧ (f.pc = 0 ∨ f.pc = 1 ∨ f.pc = 17 → f.j < K)
theorem lst_there {c : Cf} {C N K : Nat} (s : SzX c C N K) {n h i : Nat} (hn : n ≤ C) (hh : 1 ≤ h) (ht : h ≤ topX c) (hi : i < Rk.items n N h) : 0 ≤ offX c ((h : Int) - 1) (Rk.lst n N h i) := by
  have t4 := topX_le c
  have hd := items_down (w := N) (m := n) (h := h - 1) (i := i) (by have := s.c2; omega) s.n1 s.n2 (by omega) (by rw [show h - 1 + 1 = h by omega]; exact hi)
  have hm : Rk.items n N (h - 1) ≤ Rk.items C N (h - 1) := items_mono hn
  have e : ((h : Int) - 1).toNat = h - 1 := by omega
  rw [s.there, e]
  unfold Rk.lst Rk.cnt
  rw [e]
  simp only [Int.toNat_natCast]
  have n1 := s.n1
  have : ((i : Int) + 1) * (N : Int) = ((i * N + N : Nat) : Int) := by rw [Int.add_mul]; push_cast; omega
  rw [this]
  omega
theorem good_iff {c : Cf} {C N K : Nat} (s : SzX c C N K) (f : Ds) : GoodX c f ↔ chk c (frX f) = 0 ∧ ThereX f.kind f.pc ∧ FineX C N K (topX c) f := by
  unfold GoodX XMay
  rw [thereX_iff]
  unfold NumX InvX FineX placeX
  rw [s.up, s.cap, s.chunk, s.node]
  have t4 := topX_le c
  constructor
  · rintro ⟨⟨h1, h2, ⟨h3, h4, h5, h6⟩, h7⟩, i1, i2, i3, i4, i5, i6⟩
    refine ⟨h1, h2, by omega, i6, ?_, ?_, i3, by omega, h5, ?_, i4, ?_, by omega⟩
    · intro e; rw [if_neg (by omega), if_pos e, s.zero] at h7; omega
    · rintro (e | e | e | e)
      · rw [if_neg (by omega), if_neg (by omega), if_pos (by omega), s.zero] at h7; omega
      · rw [if_neg (by omega), if_neg (by omega), if_pos (by omega), s.zero] at h7; omega
      · have := i5 e; omega
      · rw [if_neg (by omega), if_neg (by omega), if_neg (by omega), if_neg (by omega), if_neg (by omega), if_neg (by omega), if_neg (by omega), if_neg (by omega), if_neg (by omega), if_neg (by omega), if_neg (by omega), if_pos e, s.zero] at h7; omega
    · intro e
      refine ⟨h6 e, ?_⟩
      rw [if_neg (by omega), if_neg (by omega), if_neg (by omega), if_neg (by omega), if_neg (by omega), if_neg (by omega), if_neg (by omega), if_pos e, s.lev] at h7
      exact h7.2
    · intro e
      rw [if_neg (by omega), if_neg (by omega), if_neg (by omega), if_neg (by omega), if_neg (by omega), if_neg (by omega), if_neg (by omega), if_neg (by omega), if_neg (by omega), if_neg (by omega), if_pos e, s.zero] at h7
      omega
  · rintro ⟨h1, h2, h3, h4, h5, h6, h7, h8, h9, h10, h11, h12, h13⟩
    refine ⟨⟨h1, h2, ⟨by omega, by omega, h9, fun e => (h10 e).1⟩, ?_⟩, by omega, by omega, h7, h11, fun e => by have := h6 (by omega); omega, h4⟩
    by_cases e : f.pc = 1
    · rw [if_pos e]; rw [s.lev]; exact ⟨h3.2.2.2, Nat.lt_of_lt_of_le (h4 e) (items_mono h3.1)⟩
    rw [if_neg e]; clear e
    by_cases e : f.pc = 3
    · rw [if_pos e]; rw [s.zero]; have := h5 e; omega
    rw [if_neg e]; clear e
    by_cases e : f.pc = 4 ∨ f.pc = 7
    · rw [if_pos e]; rw [s.zero]; have := h6 (by omega); omega
    rw [if_neg e]; clear e
    by_cases e : f.pc = 5
    · rw [if_pos e]; rw [s.zero]; have := h7 (by omega); have := h8 (by omega); omega
    rw [if_neg e]; clear e
    by_cases e : f.pc = 6
    · rw [if_pos e]; rw [s.zero]; have := h7 (by omega); have := h8 (by omega); omega
    rw [if_neg e]; clear e
    by_cases e : f.pc = 9
    · rw [if_pos e]; have := h9 (by omega); exact lst_there s h3.1 this.1 h3.2.2.2 this.2
    rw [if_neg e]; clear e
    by_cases e : f.pc = 11
    · rw [if_pos e]; rw [s.lev]; have := h9 (by omega); exact ⟨h3.2.2.2, Nat.lt_of_lt_of_le this.2 (items_mono h3.1)⟩
    rw [if_neg e]; clear e
    by_cases e : f.pc = 12
    · rw [if_pos e]; rw [s.lev]; exact ⟨h3.2.2.2, (h10 e).2⟩
    rw [if_neg e]; clear e
    by_cases e : f.pc = 13
    · rw [if_pos e]; rw [s.zero]; have := h11 (by omega); omega
    rw [if_neg e]; clear e
    by_cases e : f.pc = 14
    · rw [if_pos e]; rw [s.zero]; have := h11 (by omega); omega
    rw [if_neg e]; clear e
    by_cases e : f.pc = 15
    · rw [if_pos e]; rw [s.zero]; have := h12 e; omega
    rw [if_neg e]; clear e
    by_cases e : f.pc = 17
    · rw [if_pos e]; rw [s.zero]; have := h6 (by omega); omega
    rw [if_neg e]; clear e
    omega
end Go.Proofs.YtmkehailohgebaaDoor

namespace Go.Proofs.YtmkehailohgebaaDoor
open Pt Opn

/-- What a step leads to: a frame of the same operation, that may be, with at most so much left. -/
structure ToX (c : Cf) (C N K : Nat) (f g : Ds) (m : Nat) : Prop where
  kind : g.kind = f.kind
  a : g.a = f.a
  b : g.b = f.b ∨ f.kind = 5
  y : g.tag = f.tag ∧ g.k = f.k ∧ g.seq = f.seq
  there : ThereX f.kind g.pc
  fine : FineX C N K (topX c) g
  left : leftX c g ≤ m
theorem ToX.mono {c : Cf} {C N K : Nat} {f g : Ds} {m m' : Nat} (h : ToX c C N K f g m) (hm : m ≤ m') : ToX c C N K f g m' := ⟨h.kind, h.a, h.b, h.y, h.there, h.fine, Nat.le_trans h.left hm⟩
theorem ToX.from {c : Cf} {C N K : Nat} {e f g : Ds} {m : Nat} (h : ToX c C N K f g m) (h1 : f.kind = e.kind) (h2 : f.a = e.a) (h3 : f.b = e.b ∨ e.kind = 5) (h4 : f.tag = e.tag ∧ f.k = e.k ∧ f.seq = e.seq) : ToX c C N K e g m :=
  ⟨h.kind.trans h1, h.a.trans h2, by rcases h.b with g | g
                                     · rw [g]; exact h3
                                     · exact .inr (h1 ▸ g), by have := h.y; omega, h1 ▸ h.there, h.fine, h.left⟩
/-- The numbers of a frame, whatever its Pc. -/
def BaseX (C K T : Nat) (f : Ds) : Prop := f.n ≤ C ∧ f.p ≤ C ∧ f.j ≤ K ∧ f.h ≤ T

theorem nextOne_to {c : Cf} {C N K : Nat} (s : SzX c C N K) {f : Ds} (hk : f.kind = 8) (hb : BaseX C K (topX c) f) (hj : f.j < K) : ToX c C N K f (nextOne f) (2 * (C - f.p) - 2) := by
  unfold BaseX at hb
  unfold nextOne
  split
  · exact ⟨rfl, rfl, .inl rfl, ⟨rfl, rfl, rfl⟩, (thereX_iff _ _).2 (by simp [hk]), by unfold FineX; simp; omega, by simp [leftX]⟩
  · exact ⟨rfl, rfl, .inl rfl, ⟨rfl, rfl, rfl⟩, (thereX_iff _ _).2 (by simp [hk]), by unfold FineX; simp; omega, by simp [leftX, s.cap']; omega⟩
theorem onX_to {c : Cf} {C N K : Nat} (s : SzX c C N K) {f : Ds} (hk : f.kind = 8) (hb : BaseX C K (topX c) f) (hj : f.j < K) (hp : f.p < C) : ToX c C N K f (onX c f).1 (2 * (C - f.p) - 1) := by
  have k1 := s.k1
  unfold onX
  split
  · unfold BaseX at hb
    exact ⟨rfl, rfl, .inl rfl, ⟨rfl, rfl, rfl⟩, (thereX_iff _ _).2 (by simp [hk]), by unfold FineX; simp; omega, by simp [leftX]⟩
  · rw [s.chunk]
    split
    · unfold BaseX at hb
      exact ⟨rfl, rfl, .inl rfl, ⟨rfl, rfl, rfl⟩, (thereX_iff _ _).2 (by simp [hk]), by unfold FineX; simp; omega, by simp [leftX, s.cap']⟩
    · refine ToX.mono (m := 2 * (C - f.p) - 2) ?_ (by omega)
      exact (nextOne_to s (f := { f with j := f.j + 1 }) hk (by unfold BaseX at hb ⊢; simp; omega) (by simp; omega)).from rfl rfl (.inl rfl) ⟨rfl, rfl, rfl⟩
theorem freshX_to {c : Cf} {C N K : Nat} (s : SzX c C N K) {f : Ds} (hk : f.kind = 4) (hb : BaseX C K (topX c) f) (hp : f.p ≤ f.n ∨ f.p < C) : ToX c C N K f (freshX c f) (2 * C + restX c 0 + 4) := by
  unfold BaseX at hb
  unfold freshX
  rw [s.cap]
  split
  · exact ⟨rfl, rfl, .inl rfl, ⟨rfl, rfl, rfl⟩, (thereX_iff _ _).2 (by simp [hk]), by unfold FineX; simp; omega, by simp [leftX]⟩
  · split
    · exact ⟨rfl, rfl, .inl rfl, ⟨rfl, rfl, rfl⟩, (thereX_iff _ _).2 (by simp [hk]), by unfold FineX; simp; omega, by simp [leftX]; omega⟩
    · exact ⟨rfl, rfl, .inl rfl, ⟨rfl, rfl, rfl⟩, (thereX_iff _ _).2 (by simp [hk]), by unfold FineX; simp; omega, by simp [leftX]; omega⟩
theorem bonus_4 {c : Cf} {C N K : Nat} (s : SzX c C N K) : bonusX c 4 = 2 * C + restX c 0 + 4 := by unfold bonusX; rw [s.cap']; simp
theorem bonus_5 {c : Cf} {C N K : Nat} (s : SzX c C N K) : bonusX c 5 = 2 * C + restX c 0 + 4 := by unfold bonusX; rw [s.cap']; simp
theorem bonus_7 (c : Cf) : bonusX c 7 = 1 := by simp [bonusX]
theorem bonus_8 {c : Cf} {C N K : Nat} (s : SzX c C N K) : bonusX c 8 = 2 * C := by unfold bonusX; rw [s.cap']; simp
theorem foundX_to {c : Cf} {C N K : Nat} (s : SzX c C N K) {f : Ds} (hk : f.kind = 4 ∨ f.kind = 5 ∨ f.kind = 6 ∨ f.kind = 7 ∨ f.kind = 8) (hb : BaseX C K (topX c) f) (hj : f.j < K) (hp : f.p < C) (hn : f.kind = 5 → 1 ≤ f.n) : ToX c C N K f (foundX c f).1 (bonusX c f.kind) := by
  have hb' := hb
  unfold BaseX at hb
  unfold foundX
  rcases hk with e | e | e | e | e
  · rw [if_neg (by omega), if_neg (by omega), if_neg (by omega), if_pos e, show bonusX c f.kind = 2 * C + restX c 0 + 4 from by rw [e]; exact bonus_4 s]
    split
    · exact ⟨rfl, rfl, .inl rfl, ⟨rfl, rfl, rfl⟩, (thereX_iff _ _).2 (by simp [e]), by unfold FineX; simp; omega, by simp [leftX]⟩
    · exact freshX_to s e hb' (.inr hp)
  · rw [if_neg (by omega), if_neg (by omega), if_neg (by omega), if_neg (by omega), if_pos e, show bonusX c f.kind = 2 * C + restX c 0 + 4 from by rw [e]; exact bonus_5 s]
    split
    · split
      · exact ⟨rfl, rfl, .inr e, ⟨rfl, rfl, rfl⟩, (thereX_iff _ _).2 (by simp [e]), by unfold FineX; simp; omega, by simp [leftX]; omega⟩
      · exact ⟨rfl, rfl, .inr e, ⟨rfl, rfl, rfl⟩, (thereX_iff _ _).2 (by simp [e]), by unfold FineX; simp; omega, by simp [leftX]; omega⟩
    · exact ⟨rfl, rfl, .inl rfl, ⟨rfl, rfl, rfl⟩, (thereX_iff _ _).2 (by simp [e]), by unfold FineX; simp; omega, by simp [leftX]⟩
  · rw [if_pos e]
    split <;> exact ⟨rfl, rfl, .inl rfl, ⟨rfl, rfl, rfl⟩, (thereX_iff _ _).2 (by simp [e]), by unfold FineX; simp; omega, by simp [leftX]⟩
  · rw [if_neg (by omega), if_pos e, show bonusX c f.kind = 1 from by rw [e]; exact bonus_7 c]
    split
    · exact ⟨rfl, rfl, .inl rfl, ⟨rfl, rfl, rfl⟩, (thereX_iff _ _).2 (by simp [e]), by unfold FineX; simp; omega, by simp [leftX]⟩
    · split
      · exact ⟨rfl, rfl, .inl rfl, ⟨rfl, rfl, rfl⟩, (thereX_iff _ _).2 (by simp [e]), by unfold FineX; simp; omega, by simp [leftX]⟩
      · exact ⟨rfl, rfl, .inl rfl, ⟨rfl, rfl, rfl⟩, (thereX_iff _ _).2 (by simp [e]), by unfold FineX; simp; omega, by simp [leftX]⟩
  · rw [if_neg (by omega), if_neg (by omega), if_pos e, show bonusX c f.kind = 2 * C from by rw [e]; exact bonus_8 s]
    exact (onX_to s e hb' hj hp).mono (by omega)
theorem noneX_to {c : Cf} {C N K : Nat} (s : SzX c C N K) {f : Ds} (hk : f.kind = 4 ∨ f.kind = 5 ∨ f.kind = 6 ∨ f.kind = 7 ∨ f.kind = 8) (hb : BaseX C K (topX c) f) : ToX c C N K f (noneX c f) (bonusX c f.kind) := by
  have hb' := hb
  unfold BaseX at hb
  unfold noneX
  rcases hk with e | e | e | e | e
  · rw [if_pos e, show bonusX c f.kind = 2 * C + restX c 0 + 4 from by rw [e]; exact bonus_4 s]
    exact (freshX_to s (f := { f with p := f.n }) e (by unfold BaseX; simp; omega) (.inl (Nat.le_refl _))).from rfl rfl (.inl rfl) ⟨rfl, rfl, rfl⟩
  all_goals (try rw [if_neg (by omega)])
  · rw [if_neg (by omega), if_neg (by omega)]
    exact ⟨rfl, rfl, .inl rfl, ⟨rfl, rfl, rfl⟩, (thereX_iff _ _).2 (by simp [e]), by unfold FineX; simp; omega, by simp [leftX]⟩
  · rw [if_neg (by omega), if_neg (by omega)]
    exact ⟨rfl, rfl, .inl rfl, ⟨rfl, rfl, rfl⟩, (thereX_iff _ _).2 (by simp [e]), by unfold FineX; simp; omega, by simp [leftX]⟩
  · rw [if_neg (by omega), show bonusX c f.kind = 1 from by rw [e]; exact bonus_7 c]
    split
    · exact ⟨rfl, rfl, .inl rfl, ⟨rfl, rfl, rfl⟩, (thereX_iff _ _).2 (by simp [e]), by unfold FineX; simp; omega, by simp [leftX]⟩
    · exact ⟨rfl, rfl, .inl rfl, ⟨rfl, rfl, rfl⟩, (thereX_iff _ _).2 (by simp [e]), by unfold FineX; simp; omega, by simp [leftX]⟩
  · rw [if_pos e]
    exact ⟨rfl, rfl, .inl rfl, ⟨rfl, rfl, rfl⟩, (thereX_iff _ _).2 (by simp [e]), by unfold FineX; simp; omega, by simp [leftX]⟩
theorem goUp_to {c : Cf} {C N K : Nat} (s : SzX c C N K) : ∀ (m : Nat) (f : Ds), (f.kind = 4 ∨ f.kind = 5) → BaseX C K (topX c) f → f.h + m = topX c → ToX c C N K f (goUp c m f) (restFrom c m f.h)
  | 0, f, hk, hb, hm => by
    unfold BaseX at hb
    unfold goUp
    rcases hk with e | e
    · rw [if_pos e]
      exact ⟨rfl, rfl, .inl rfl, ⟨rfl, rfl, rfl⟩, (thereX_iff _ _).2 (by simp [e]), by unfold FineX; simp; omega, by simp [leftX]⟩
    · rw [if_neg (by omega)]
      exact ⟨rfl, rfl, .inl rfl, ⟨rfl, rfl, rfl⟩, (thereX_iff _ _).2 (by simp [e]), by unfold FineX; simp; omega, by simp [leftX]⟩
  | m + 1, f, hk, hb, hm => by
    have IH := goUp_to s m { f with h := f.h + 1, i := f.p / c.node.toNat ^ (f.h + 1) } hk (by unfold BaseX at hb ⊢; simp; omega) (by simp; omega)
    have hr : restX c (f.h + 1) = restFrom c m (f.h + 1) := by unfold restX; rw [show topX c - (f.h + 1) = m by omega]
    have hm1 := items_mono (w := N) (h := f.h + 1) hb.1
    unfold BaseX at hb
    unfold goUp
    simp only
    rw [s.up]
    split
    · rename_i hi
      refine ⟨rfl, rfl, .inl rfl, ⟨rfl, rfl, rfl⟩, (thereX_iff _ _).2 (by rcases hk with e | e <;> simp [e]), by unfold FineX; simp; omega, ?_⟩
      unfold leftX restFrom
      simp only [s.up, s.cap', hr]
      simp
      generalize f.p / c.node.toNat ^ (f.h + 1) = i
      omega
    · split
      · rename_i hi hcl
        unfold clearsX at hcl
        have hcl := of_decide_eq_true hcl
        simp only [s.up, s.cap] at hcl
        have hk5 := hcl.1
        have hlt : Rk.items f.n N (f.h + 1) < Rk.items C N (f.h + 1) := by
          have h2 := hcl.2
          split at h2
          · exact Nat.lt_of_lt_of_le h2 (items_mono (by omega))
          · omega
        refine ⟨rfl, rfl, .inl rfl, ⟨rfl, rfl, rfl⟩, (thereX_iff _ _).2 (by simp [hk5]), by unfold FineX; simp; omega, ?_⟩
        unfold leftX restFrom
        simp [hr]
        omega
      · refine ToX.mono (m := restFrom c m (f.h + 1)) ?_ (by rw [show restFrom c (m + 1) f.h = 2 * upX c c.cap.toNat (f.h + 1) + 1 + restFrom c m (f.h + 1) from rfl]; omega)
        exact IH.from rfl rfl (.inl rfl) ⟨rfl, rfl, rfl⟩
theorem climbX_to {c : Cf} {C N K : Nat} (s : SzX c C N K) {f : Ds} (hk : f.kind = 4 ∨ f.kind = 5) (hb : BaseX C K (topX c) f) : ToX c C N K f (climbX c f) (restX c f.h) :=
  goUp_to s _ f hk hb (by unfold BaseX at hb; omega)
theorem kindX_done {p : Nat} (h : kindX p ≠ 4) : p = 0 ∨ p = 1 ∨ p = 3 ∨ p = 4 ∨ p = 5 ∨ p = 6 ∨ p = 7 ∨ p = 8 ∨ p = 9 ∨ p = 11 ∨ p = 12 ∨ p = 13 ∨ p = 14 ∨ p = 15 ∨ p = 16 ∨ p = 17 := by
  unfold kindX at h
  split at h
  · omega
  · split at h
    · omega
    · split at h <;> omega
theorem kinds_of {k p : Nat} (h : ThereX k p) : k = 4 ∨ k = 5 ∨ k = 6 ∨ k = 7 ∨ k = 8 := by
  rw [thereX_iff] at h
  omega
theorem behind_done {c : Cf} {f : Ds} (h : kindX f.pc = 4) (A B : Nat) : behindX c f A B = (f, false) := by
  have hp : f.pc ≠ 0 ∧ f.pc ≠ 1 ∧ f.pc ≠ 3 ∧ f.pc ≠ 4 ∧ f.pc ≠ 5 ∧ f.pc ≠ 6 ∧ f.pc ≠ 7 ∧ f.pc ≠ 8 ∧ f.pc ≠ 9 ∧ f.pc ≠ 11 ∧ f.pc ≠ 12 ∧ f.pc ≠ 13 ∧ f.pc ≠ 14 ∧ f.pc ≠ 15 ∧ f.pc ≠ 16 ∧ f.pc ≠ 17 := by
    refine ⟨?_, ?_, ?_, ?_, ?_, ?_, ?_, ?_, ?_, ?_, ?_, ?_, ?_, ?_, ?_, ?_⟩ <;> (intro e; rw [e] at h; exact absurd h (by decide))
  obtain ⟨h0, h1, h3, h4, h5, h6, h7, h8, h9, h11, h12, h13, h14, h15, h16, h17⟩ := hp
  unfold behindX
  rw [if_neg h0, if_neg h1, if_neg h3, if_neg h4, if_neg h5, if_neg h6, if_neg h7, if_neg h8, if_neg h9, if_neg h11, if_neg h12, if_neg h13, if_neg h14, if_neg h15, if_neg h16, if_neg h17]
theorem item_down (N u v z : Nat) (h : z < N) : N - 0 + u + v ≤ N - z + (u + N) + v - 1 := by omega
theorem item_on (N u v z : Nat) (h : z < N) : N - (z + 1) + u + v ≤ N - z + u + v - 1 := by omega
theorem head_down (N u v : Nat) : N - 0 + u + v ≤ 1 + (u + N) + v - 1 := by omega
theorem itemX_to {c : Cf} {C N K : Nat} (s : SzX c C N K) {f : Ds} (hk : f.kind = 4 ∨ f.kind = 5 ∨ f.kind = 6 ∨ f.kind = 7 ∨ f.kind = 8) (hp : f.pc = 1) (hf : FineX C N K (topX c) f) (A B : Nat) : ToX c C N K f (itemX c f A B).1 (leftX c f - 1) := by
  have hl : leftX c f = (N - f.i % N) + N * f.h + bonusX c f.kind := by unfold leftX; rw [if_neg (by omega), if_pos hp, s.node']
  have t4 := topX_le c
  have n1 := s.n1
  have hmod : f.i % N < N := Nat.mod_lt _ (by omega)
  obtain ⟨hb, h1, _, _, _, _, _, _, _, _, hj⟩ := hf
  have hi := h1 hp
  have hj := hj (by omega)
  have hl1 : bonusX c f.kind ≤ leftX c f - 1 := by rw [hl]; omega
  unfold itemX
  rw [s.node', s.up]
  split
  · split
    · rename_i h0
      rw [h0, Rk.items_zero] at hi
      refine ToX.mono (m := bonusX c f.kind) ?_ hl1
      exact (foundX_to s (f := overX { f with p := f.i } A B) hk (by unfold BaseX overX; simp; omega) hj (by unfold overX; simp; omega) (fun _ => by show 1 ≤ f.n; omega)).from rfl rfl (.inl rfl) ⟨rfl, rfl, rfl⟩
    · rename_i h0
      have hd := items_down (m := f.n) (by have := s.c2; omega) s.n1 s.n2 (h := f.h - 1) (i := f.i) (by omega) (by rw [show f.h - 1 + 1 = f.h by omega]; exact hi)
      refine ⟨rfl, rfl, .inl rfl, ⟨rfl, rfl, rfl⟩, (thereX_iff _ _).2 (by rcases hk with e | e | e | e | e <;> simp [e, hp]), by unfold FineX; simp [hp]; omega, ?_⟩
      have hl' : leftX c { f with h := f.h - 1, i := f.i * N } = (N - f.i * N % N) + N * (f.h - 1) + bonusX c f.kind := by unfold leftX; rw [if_neg (show ¬ f.pc = 0 by omega), if_pos (show f.pc = 1 from hp), s.node']
      have e : N * f.h = N * (f.h - 1) + N := by
        obtain ⟨q, hq⟩ : ∃ q, f.h = q + 1 := ⟨f.h - 1, by omega⟩
        rw [hq, Nat.add_sub_cancel, Nat.mul_succ]
      rw [hl', hl, Nat.mul_mod_left, e]
      exact item_down _ _ _ _ hmod
  · split
    · exact (noneX_to s hk hb).mono hl1
    · rename_i hno hle
      have hm : (f.i + 1) % N = f.i % N + 1 := by
        have h2 : (f.i + 1) % N ≠ 0 := fun e => hle (.inl e)
        rw [Nat.add_mod] at h2 ⊢
        rw [Nat.mod_eq_of_lt (show 1 < N by omega)] at h2 ⊢
        rcases Nat.lt_or_ge (f.i % N + 1) N with g | g
        · rw [Nat.mod_eq_of_lt g]
        · rw [show f.i % N + 1 = N by omega, Nat.mod_self] at h2; exact absurd rfl h2
      refine ⟨rfl, rfl, .inl rfl, ⟨rfl, rfl, rfl⟩, (thereX_iff _ _).2 (by rcases hk with e | e | e | e | e <;> simp [e, hp]), by unfold FineX; simp [hp]; omega, ?_⟩
      have hl' : leftX c { f with i := f.i + 1 } = (N - (f.i + 1) % N) + N * f.h + bonusX c f.kind := by unfold leftX; rw [if_neg (show ¬ f.pc = 0 by omega), if_pos (show f.pc = 1 from hp), s.node']
      rw [hl', hl, hm]
      exact item_on _ _ _ _ hmod
theorem headX_to {c : Cf} {C N K : Nat} (s : SzX c C N K) {f : Ds} (hk : f.kind = 4 ∨ f.kind = 5 ∨ f.kind = 6 ∨ f.kind = 7 ∨ f.kind = 8) (hp : f.pc = 0) (hf : FineX C N K (topX c) f) (A : Nat) : ToX c C N K f (headX c f A) (leftX c f - 1) := by
  have hl : leftX c f = 1 + N * (topX c + 1) + bonusX c f.kind := by unfold leftX; rw [if_pos hp, s.node']
  have t4 := topX_le c
  have n1 := s.n1
  have c2 := s.c2
  obtain ⟨hb, _, _, _, _, _, _, _, _, _, hj⟩ := hf
  have hj := hj (by omega)
  unfold headX
  simp only
  rw [s.cap, Int.toNat_natCast]
  have hn : (if (A : Int) < (C : Int) then A else C) ≤ C := by split <;> omega
  generalize (if (A : Int) < (C : Int) then A else C) = n at hn ⊢
  split
  · refine ToX.mono (m := bonusX c f.kind) ?_ (by rw [hl]; omega)
    exact (noneX_to s (f := { f with n := 0 }) hk (by unfold BaseX; simp; omega)).from rfl rfl (.inl rfl) ⟨rfl, rfl, rfl⟩
  · rename_i hn0
    have hpos := Rk.items_pos (m := n) (w := N) (h := topX c) (by omega) (by omega) s.n1 s.n2 t4
    refine ⟨rfl, rfl, .inl rfl, ⟨rfl, rfl, rfl⟩, (thereX_iff _ _).2 (by rcases hk with e | e | e | e | e <;> simp [e]), by unfold FineX; simp; omega, ?_⟩
    have hl' : leftX c { f with n := n, h := topX c, i := 0, pc := 1 } = (N - 0 % N) + N * topX c + bonusX c f.kind := by
      unfold leftX
      rw [if_neg (show ¬ (1 : Nat) = 0 by decide), if_pos rfl, s.node']
    rw [hl', hl, Nat.zero_mod, Nat.mul_succ]
    exact head_down _ _ _
end Go.Proofs.YtmkehailohgebaaDoor

namespace Go.Proofs.YtmkehailohgebaaDoor
open Pt Opn

theorem to_3 {c : Cf} {C N K : Nat} (_ : SzX c C N K) {f : Ds} (e : f.pc = 3) (hk : f.kind = 7) (hb : f.n ≤ C ∧ f.p ≤ C ∧ f.j ≤ K ∧ f.h ≤ topX c) (A B : Nat) : ToX c C N K f (behindX c f A B).1 (leftX c f - 1) ∧ 1 ≤ leftX c f := by
  have hl : leftX c f = 1 := by unfold leftX; simp [e]
  rw [bh_3 e]
  exact ⟨⟨rfl, rfl, .inl rfl, ⟨rfl, rfl, rfl⟩, (thereX_iff _ _).2 (by simp [hk]), by unfold FineX overX; simp; omega, by rw [hl]; simp [leftX]⟩, by omega⟩
theorem to_4 {c : Cf} {C N K : Nat} (_ : SzX c C N K) {f : Ds} (e : f.pc = 4) (hk : f.kind = 4) (hb : f.n ≤ C ∧ f.p ≤ C ∧ f.j ≤ K ∧ f.h ≤ topX c) (A B : Nat) : ToX c C N K f (behindX c f A B).1 (leftX c f - 1) ∧ 1 ≤ leftX c f := by
  have hl : leftX c f = 1 := by unfold leftX; simp [e]
  rw [bh_4 e]
  exact ⟨⟨rfl, rfl, .inl rfl, ⟨rfl, rfl, rfl⟩, (thereX_iff _ _).2 (by simp [hk]), by unfold FineX; simp; omega, by rw [hl]; simp [leftX]⟩, by omega⟩
theorem to_5 {c : Cf} {C N K : Nat} (_ : SzX c C N K) {f : Ds} (e : f.pc = 5) (hk : f.kind = 4) (hb : f.n ≤ C ∧ f.p ≤ C ∧ f.j ≤ K ∧ f.h ≤ topX c) (h1 : f.p < f.i ∧ f.i ≤ f.n) (h2 : f.n < C) (A B : Nat) : ToX c C N K f (behindX c f A B).1 (leftX c f - 1) ∧ 1 ≤ leftX c f := by
  have hl : leftX c f = 2 * (f.i - f.p) + restX c 0 + 4 := by unfold leftX; simp [e]
  rw [bh_5 e]
  exact ⟨⟨rfl, rfl, .inl rfl, ⟨rfl, rfl, rfl⟩, (thereX_iff _ _).2 (by simp [hk]), by unfold FineX overX; simp; omega, by rw [hl]; simp [leftX, overX]⟩, by omega⟩
theorem to_6 {c : Cf} {C N K : Nat} (_ : SzX c C N K) {f : Ds} (e : f.pc = 6) (hk : f.kind = 4) (hb : f.n ≤ C ∧ f.p ≤ C ∧ f.j ≤ K ∧ f.h ≤ topX c) (h1 : f.p < f.i ∧ f.i ≤ f.n) (h2 : f.n < C) (A B : Nat) : ToX c C N K f (behindX c f A B).1 (leftX c f - 1) ∧ 1 ≤ leftX c f := by
  have hl : leftX c f = 2 * (f.i - f.p) + restX c 0 + 3 := by unfold leftX; simp [e]
  rw [bh_6 e]
  split
  · exact ⟨⟨rfl, rfl, .inl rfl, ⟨rfl, rfl, rfl⟩, (thereX_iff _ _).2 (by simp [hk]), by unfold FineX; simp; omega, by rw [hl]; simp [leftX]; try omega⟩, by omega⟩
  · exact ⟨⟨rfl, rfl, .inl rfl, ⟨rfl, rfl, rfl⟩, (thereX_iff _ _).2 (by simp [hk]), by unfold FineX; simp; omega, by rw [hl]; simp [leftX]; try omega⟩, by omega⟩
theorem to_7 {c : Cf} {C N K : Nat} (_ : SzX c C N K) {f : Ds} (e : f.pc = 7) (hk : f.kind = 4) (hb : f.n ≤ C ∧ f.p ≤ C ∧ f.j ≤ K ∧ f.h ≤ topX c) (h2 : f.n < C) (A B : Nat) : ToX c C N K f (behindX c f A B).1 (leftX c f - 1) ∧ 1 ≤ leftX c f := by
  have hl : leftX c f = restX c 0 + 2 := by unfold leftX; simp [e]
  rw [bh_7 e]
  exact ⟨⟨rfl, rfl, .inl rfl, ⟨rfl, rfl, rfl⟩, (thereX_iff _ _).2 (by simp [hk]), by unfold FineX; simp; omega, by rw [hl]; simp [leftX]⟩, by omega⟩
theorem to_8 {c : Cf} {C N K : Nat} (s : SzX c C N K) {f : Ds} (e : f.pc = 8) (hk : f.kind = 4 ∨ f.kind = 5) (hb : f.n ≤ C ∧ f.p ≤ C ∧ f.j ≤ K ∧ f.h ≤ topX c) (A B : Nat) : ToX c C N K f (behindX c f A B).1 (leftX c f - 1) ∧ 1 ≤ leftX c f := by
  have hl : leftX c f = restX c 0 + 1 := by unfold leftX; simp [e]
  rw [bh_8 e]
  refine ⟨?_, by omega⟩
  refine ToX.mono (m := restX c 0) ?_ (by omega)
  exact (climbX_to s (f := { f with h := 0 }) hk (by unfold BaseX; simp; omega)).from rfl rfl (.inl rfl) ⟨rfl, rfl, rfl⟩
theorem to_9 {c : Cf} {C N K : Nat} (_ : SzX c C N K) {f : Ds} (e : f.pc = 9) (hk : f.kind = 4 ∨ f.kind = 5) (hb : f.n ≤ C ∧ f.p ≤ C ∧ f.j ≤ K ∧ f.h ≤ topX c) (h1 : 1 ≤ f.h ∧ f.i < Rk.items f.n N f.h) (A B : Nat) : ToX c C N K f (behindX c f A B).1 (leftX c f - 1) ∧ 1 ≤ leftX c f := by
  have hl : leftX c f = 2 * (upX c c.cap.toNat f.h - f.i) + 1 + restX c f.h := by unfold leftX; simp [e]
  rw [bh_9 e]
  exact ⟨⟨rfl, rfl, .inl rfl, ⟨rfl, rfl, rfl⟩, (thereX_iff _ _).2 (by rcases hk with g | g <;> simp [g]), by unfold FineX overX; simp; omega, by rw [hl]; simp [leftX, overX]⟩, by omega⟩
theorem to_11 {c : Cf} {C N K : Nat} (s : SzX c C N K) {f : Ds} (e : f.pc = 11) (hk : f.kind = 4 ∨ f.kind = 5) (hb : f.n ≤ C ∧ f.p ≤ C ∧ f.j ≤ K ∧ f.h ≤ topX c) (h1 : 1 ≤ f.h ∧ f.i < Rk.items f.n N f.h) (A B : Nat) : ToX c C N K f (behindX c f A B).1 (leftX c f - 1) ∧ 1 ≤ leftX c f := by
  have hl : leftX c f = 2 * (Rk.items C N f.h - f.i) + restX c f.h := by unfold leftX; simp [e, s.up, s.cap']
  rw [bh_11 e]
  have hm := items_mono (w := N) (h := f.h) hb.1
  rw [s.up]
  split
  · exact ⟨⟨rfl, rfl, .inl rfl, ⟨rfl, rfl, rfl⟩, (thereX_iff _ _).2 (by rcases hk with g | g <;> simp [g]), by unfold FineX; simp; omega, by rw [hl]; simp [leftX, s.up, s.cap']; omega⟩, by omega⟩
  · split
    · rename_i hi hcl
      unfold clearsX at hcl
      have hcl := of_decide_eq_true hcl
      simp only [s.up, s.cap] at hcl
      have hk5 := hcl.1
      have hlt : Rk.items f.n N f.h < Rk.items C N f.h := by
        have h2 := hcl.2
        split at h2
        · exact Nat.lt_of_lt_of_le h2 (items_mono (by omega))
        · omega
      exact ⟨⟨rfl, rfl, .inl rfl, ⟨rfl, rfl, rfl⟩, (thereX_iff _ _).2 (by simp [hk5]), by unfold FineX; simp; omega, by rw [hl]; simp [leftX]; omega⟩, by omega⟩
    · refine ⟨?_, by omega⟩
      refine ToX.mono (m := restX c f.h) ?_ (by omega)
      exact (climbX_to s (f := { f with i := f.i + 1 }) hk (by unfold BaseX; simp; omega)).from rfl rfl (.inl rfl) ⟨rfl, rfl, rfl⟩
theorem to_12 {c : Cf} {C N K : Nat} (s : SzX c C N K) {f : Ds} (e : f.pc = 12) (hk : f.kind = 4 ∨ f.kind = 5) (hb : f.n ≤ C ∧ f.p ≤ C ∧ f.j ≤ K ∧ f.h ≤ topX c) (A B : Nat) : ToX c C N K f (behindX c f A B).1 (leftX c f - 1) ∧ 1 ≤ leftX c f := by
  have hl : leftX c f = restX c f.h + 1 := by unfold leftX; simp [e]
  rw [bh_12 e]
  refine ⟨?_, by omega⟩
  refine ToX.mono (m := restX c f.h) ?_ (by omega)
  exact climbX_to s hk hb
theorem to_13 {c : Cf} {C N K : Nat} (_ : SzX c C N K) {f : Ds} (e : f.pc = 13) (hk : f.kind = 5) (hb : f.n ≤ C ∧ f.p ≤ C ∧ f.j ≤ K ∧ f.h ≤ topX c) (h1 : f.p < f.i ∧ f.i < f.n) (A B : Nat) : ToX c C N K f (behindX c f A B).1 (leftX c f - 1) ∧ 1 ≤ leftX c f := by
  have hl : leftX c f = 2 * (f.n - f.i) + restX c 0 + 4 := by unfold leftX; simp [e]
  rw [bh_13 e]
  exact ⟨⟨rfl, rfl, .inl rfl, ⟨rfl, rfl, rfl⟩, (thereX_iff _ _).2 (by simp [hk]), by unfold FineX overX; simp; omega, by rw [hl]; simp [leftX, overX]⟩, by omega⟩
theorem to_14 {c : Cf} {C N K : Nat} (_ : SzX c C N K) {f : Ds} (e : f.pc = 14) (hk : f.kind = 5) (hb : f.n ≤ C ∧ f.p ≤ C ∧ f.j ≤ K ∧ f.h ≤ topX c) (h1 : f.p < f.i ∧ f.i < f.n) (A B : Nat) : ToX c C N K f (behindX c f A B).1 (leftX c f - 1) ∧ 1 ≤ leftX c f := by
  have hl : leftX c f = 2 * (f.n - f.i) + restX c 0 + 3 := by unfold leftX; simp [e]
  rw [bh_14 e]
  split
  · exact ⟨⟨rfl, rfl, .inl rfl, ⟨rfl, rfl, rfl⟩, (thereX_iff _ _).2 (by simp [hk]), by unfold FineX; simp; omega, by rw [hl]; simp [leftX]⟩, by omega⟩
  · exact ⟨⟨rfl, rfl, .inl rfl, ⟨rfl, rfl, rfl⟩, (thereX_iff _ _).2 (by simp [hk]), by unfold FineX; simp; omega, by rw [hl]; simp [leftX]; try omega⟩, by omega⟩
theorem to_15 {c : Cf} {C N K : Nat} (_ : SzX c C N K) {f : Ds} (e : f.pc = 15) (hk : f.kind = 5) (hb : f.n ≤ C ∧ f.p ≤ C ∧ f.j ≤ K ∧ f.h ≤ topX c) (_ : 1 ≤ f.n) (A B : Nat) : ToX c C N K f (behindX c f A B).1 (leftX c f - 1) ∧ 1 ≤ leftX c f := by
  have hl : leftX c f = restX c 0 + 2 := by unfold leftX; simp [e]
  rw [bh_15 e]
  exact ⟨⟨rfl, rfl, .inl rfl, ⟨rfl, rfl, rfl⟩, (thereX_iff _ _).2 (by simp [hk]), by unfold FineX; simp; omega, by rw [hl]; simp [leftX]⟩, by omega⟩
theorem to_16 {c : Cf} {C N K : Nat} (s : SzX c C N K) {f : Ds} (e : f.pc = 16) (hk : f.kind = 8) (hb : f.n ≤ C ∧ f.p ≤ C ∧ f.j ≤ K ∧ f.h ≤ topX c) (h1 : f.p < C) (A B : Nat) : ToX c C N K f (behindX c f A B).1 (leftX c f - 1) ∧ 1 ≤ leftX c f := by
  have hl : leftX c f = 2 * (C - f.p) - 1 := by unfold leftX; simp [e, s.cap']
  rw [bh_16 e]
  have k1 := s.k1
  refine ⟨?_, by omega⟩
  refine ToX.mono (m := 2 * (C - f.p) - 2) ?_ (by omega)
  exact (nextOne_to s (f := { f with j := 0 }) hk (by unfold BaseX; simp; omega) (by show 0 < K; omega)).from rfl rfl (.inl rfl) ⟨rfl, rfl, rfl⟩
theorem to_17 {c : Cf} {C N K : Nat} (s : SzX c C N K) {f : Ds} (e : f.pc = 17) (hk : f.kind = 8) (hb : f.n ≤ C ∧ f.p ≤ C ∧ f.j ≤ K ∧ f.h ≤ topX c) (h1 : f.p < C) (h2 : f.j < K) (A B : Nat) : ToX c C N K f (behindX c f A B).1 (leftX c f - 1) ∧ 1 ≤ leftX c f := by
  have hl : leftX c f = 2 * (C - f.p) := by unfold leftX; simp [e, s.cap']
  rw [bh_17 e]
  refine ⟨?_, by omega⟩
  refine ToX.mono (m := 2 * (C - f.p) - 1) ?_ (by omega)
  exact (onX_to s (f := overX f A B) hk hb h2 h1).from rfl rfl (.inl rfl) ⟨rfl, rfl, rfl⟩
theorem kind_at {k p : Nat} (h : ThereX k p) : (p = 3 → k = 7) ∧ (p = 4 ∨ p = 5 ∨ p = 6 ∨ p = 7 → k = 4) ∧ (p = 8 ∨ p = 9 ∨ p = 11 → k = 4 ∨ k = 5) ∧ (p = 12 → k = 5) ∧ (p = 13 ∨ p = 14 ∨ p = 15 → k = 5) ∧ (p = 16 ∨ p = 17 → k = 8) := by
  rw [thereX_iff] at h
  omega
theorem behindX_to {c : Cf} {C N K : Nat} (s : SzX c C N K) {f : Ds} (ht : ThereX f.kind f.pc) (hf : FineX C N K (topX c) f) (hd : kindX f.pc ≠ 4) (A B : Nat) : ToX c C N K f (behindX c f A B).1 (leftX c f - 1) ∧ 1 ≤ leftX c f := by
  have hk := kinds_of ht
  obtain ⟨k3, k4, k8, k12, k13, k16⟩ := kind_at ht
  rcases kindX_done hd with e | e | e | e | e | e | e | e | e | e | e | e | e | e | e | e
  · refine ⟨by rw [bh_0 e]; exact headX_to s hk e hf A, ?_⟩
    unfold leftX
    rw [if_pos e]
    omega
  · refine ⟨by rw [bh_1 e]; exact itemX_to s hk e hf A B, ?_⟩
    unfold leftX
    rw [if_neg (by omega), if_pos e, s.node']
    have n1 := s.n1
    have : f.i % N < N := Nat.mod_lt _ (by omega)
    omega
  all_goals (obtain ⟨hb, f1, f2, f3, f4, f5, f6, f7, f8, f9, f10⟩ := hf)
  · exact to_3 s e (k3 e) hb A B
  · exact to_4 s e (k4 (.inl e)) hb A B
  · exact to_5 s e (k4 (.inr (.inl e))) hb (f4 (.inl e)) (f5 (.inl e)) A B
  · exact to_6 s e (k4 (.inr (.inr (.inl e)))) hb (f4 (.inr e)) (f5 (.inr (.inl e))) A B
  · exact to_7 s e (k4 (.inr (.inr (.inr e)))) hb (f5 (.inr (.inr e))) A B
  · exact to_8 s e (k8 (.inl e)) hb A B
  · exact to_9 s e (k8 (.inr (.inl e))) hb (f6 (.inl e)) A B
  · exact to_11 s e (k8 (.inr (.inr e))) hb (f6 (.inr e)) A B
  · exact to_12 s e (.inr (k12 e)) hb A B
  · exact to_13 s e (k13 (.inl e)) hb (f8 (.inl e)) A B
  · exact to_14 s e (k13 (.inr (.inl e))) hb (f8 (.inr e)) A B
  · exact to_15 s e (k13 (.inr (.inr e))) hb (f9 e) A B
  · exact to_16 s e (k16 (.inl e)) hb (f3 (.inr (.inr (.inl e)))) A B
  · exact to_17 s e (k16 (.inr e)) hb (f3 (.inr (.inr (.inr e)))) (f10 (.inr (.inr e))) A B
/-- A frame that may be goes on to one that may be. -/
theorem good_goes {c : Cf} {C N K : Nat} (s : SzX c C N K) {f : Ds} (h : GoodX c f) (hd : kindX f.pc ≠ 4) (A B : Nat) : GoodX c (behindX c f A B).1 ∧ leftX c (behindX c f A B).1 < leftX c f := by
  obtain ⟨h1, h2, h3⟩ := (good_iff s f).1 h
  obtain ⟨g, hl⟩ := behindX_to s h2 h3 hd A B
  refine ⟨(good_iff s _).2 ⟨?_, ?_, g.fine⟩, ?_⟩
  · rw [frX_same g.kind g.a g.b]; exact h1
  · rw [g.kind]; exact g.there
  · have := g.left; omega
end Go.Proofs.YtmkehailohgebaaDoor

namespace Go.Proofs.YtmkehailohgebaaDoor
open Pt Opn

/-- The fields that acts turn are small. -/
def RngX (f : Ds) : Prop := f.i ≤ 64 ∧ f.b < 4294967296 ∧ f.x < 4294967296 ∧ f.y < 4294967296
theorem nextOne_rng {f : Ds} (h : RngX f) : RngX (nextOne f) := by
  unfold nextOne
  split <;> exact h
theorem onX_rng {c : Cf} {f : Ds} (h : RngX f) : RngX (onX c f).1 := by
  unfold onX
  split
  · exact h
  · split
    · exact h
    · exact nextOne_rng (f := { f with j := f.j + 1 }) h
theorem freshX_rng {c : Cf} {f : Ds} (h : RngX f) (hn : f.n ≤ 32) : RngX (freshX c f) := by
  unfold freshX
  split
  · exact h
  · split
    · exact h
    · exact ⟨by show f.n ≤ 64; omega, h.2⟩
theorem foundX_rng {c : Cf} {f : Ds} (h : RngX f) (hn : f.n ≤ 32) (hp : f.p ≤ 32) : RngX (foundX c f).1 := by
  unfold foundX
  split
  · split <;> exact h
  · split
    · split
      · exact h
      · split <;> exact h
    · split
      · exact onX_rng h
      · split
        · split
          · exact h
          · exact freshX_rng h hn
        · split
          · split
            · split
              · exact ⟨h.1, Nat.mod_lt _ (by decide), h.2.2⟩
              · exact ⟨by show f.p + 1 ≤ 64; omega, Nat.mod_lt _ (by decide), h.2.2⟩
            · exact h
          · exact h
theorem noneX_rng {c : Cf} {f : Ds} (h : RngX f) (hn : f.n ≤ 32) : RngX (noneX c f) := by
  unfold noneX
  split
  · exact freshX_rng (f := { f with p := f.n }) h hn
  · split
    · exact h
    · split <;> exact h
theorem goUp_rng {c : Cf} : ∀ (m : Nat) (f : Ds), RngX f → f.p ≤ 32 → RngX (goUp c m f)
  | 0, f, h, _ => by
    unfold goUp
    split <;> exact h
  | m + 1, f, h, hp => by
    have hi : f.p / c.node.toNat ^ (f.h + 1) ≤ 64 := Nat.le_trans (Nat.div_le_self _ _) (by omega)
    unfold goUp
    simp only
    split
    · exact ⟨hi, h.2⟩
    · split
      · exact ⟨hi, h.2⟩
      · exact goUp_rng m _ ⟨hi, h.2⟩ hp
theorem overX_rng {f : Ds} (h : RngX f) (A B : Nat) : RngX (overX f A B) := ⟨h.1, h.2.1, Nat.mod_lt _ (by decide), Nat.mod_lt _ (by decide)⟩
theorem behindX_rng {c : Cf} {C N K : Nat} (s : SzX c C N K) {f : Ds} (hf : FineX C N K (topX c) f) (h : RngX f) (A B : Nat) : RngX (behindX c f A B).1 := by
  have c2 := s.c2
  have hn : f.n ≤ 32 := by have := hf.1.1; omega
  have hp : f.p ≤ 32 := by have := hf.1.2.1; omega
  by_cases hd : kindX f.pc = 4
  · rw [behind_done hd]; exact h
  have f1 := hf.2.1
  have f4 := hf.2.2.2.2.1
  have f6 := hf.2.2.2.2.2.2.1
  have f8 := hf.2.2.2.2.2.2.2.2.1
  have t4 := topX_le c
  have hh := hf.1.2.2.2
  rcases kindX_done hd with e | e | e | e | e | e | e | e | e | e | e | e | e | e | e | e
  · rw [bh_0 e]
    unfold headX
    simp only
    rw [s.cap, Int.toNat_natCast]
    generalize (if (A : Int) < (C : Int) then A else C) = n
    split
    · exact noneX_rng (f := { f with n := 0 }) h (by show 0 ≤ 32; omega)
    · exact ⟨Nat.zero_le _, h.2⟩
  · rw [bh_1 e]
    have hi := f1 e
    have hm : Rk.items f.n N f.h ≤ 32 := Rk.items_le hn s.n1 s.n2 (by omega)
    unfold itemX
    split
    · split
      · exact foundX_rng (overX_rng (f := { f with p := f.i }) h A B) hn (by show f.i ≤ 32; omega)
      · rename_i h0
        have hd := items_down hn s.n1 s.n2 (h := f.h - 1) (i := f.i) (by omega) (by rw [show f.h - 1 + 1 = f.h by omega]; exact hi)
        have hm2 : Rk.items f.n N (f.h - 1) ≤ 32 := Rk.items_le hn s.n1 s.n2 (by omega)
        exact ⟨by show f.i * c.node.toNat ≤ 64; rw [s.node']; omega, h.2⟩
    · split
      · exact noneX_rng h hn
      · exact ⟨by show f.i + 1 ≤ 64; omega, h.2⟩
  · rw [bh_3 e]; exact overX_rng h A B
  · rw [bh_4 e]; exact h
  · rw [bh_5 e]; exact overX_rng h A B
  · rw [bh_6 e]; split <;> exact ⟨Nat.le_trans (Nat.sub_le _ _) h.1, h.2⟩
  · rw [bh_7 e]; exact h
  · rw [bh_8 e]; exact goUp_rng _ { f with h := 0 } h hp
  · rw [bh_9 e]; exact overX_rng h A B
  · rw [bh_11 e]
    have hi := (f6 (.inr e)).2
    have hm : Rk.items f.n N f.h ≤ 32 := Rk.items_le hn s.n1 s.n2 (by omega)
    have h' : RngX { f with i := f.i + 1 } := ⟨by show f.i + 1 ≤ 64; omega, h.2⟩
    split
    · exact h'
    · split
      · exact h'
      · exact goUp_rng _ { f with i := f.i + 1 } h' hp
  · rw [bh_12 e]; exact goUp_rng _ _ h hp
  · rw [bh_13 e]; exact overX_rng h A B
  · rw [bh_14 e]
    have hi := f8 (.inr e)
    split <;> exact ⟨by show f.i + 1 ≤ 64; omega, h.2⟩
  · rw [bh_15 e]; exact h
  · rw [bh_16 e]; exact nextOne_rng (f := { f with j := 0 }) h
  · rw [bh_17 e]; exact onX_rng (overX_rng h A B)
/-- What else is zero, and what is wide enough. -/
def SmallX (f : Ds) : Prop := f.tag = 0 ∧ f.k = 0 ∧ f.seq = 0 ∧ RngX f
theorem small_goes {c : Cf} {C N K : Nat} (s : SzX c C N K) {f : Ds} (h : GoodX c f) (hs : SmallX f) (A B : Nat) : SmallX (behindX c f A B).1 := by
  obtain ⟨_, h2, h3⟩ := (good_iff s f).1 h
  have hr := behindX_rng s h3 hs.2.2.2 A B
  by_cases hd : kindX f.pc = 4
  · rw [behind_done hd]; exact hs
  · obtain ⟨g, _⟩ := behindX_to s h2 h3 hd A B
    exact ⟨g.y.1.trans hs.1, g.y.2.1.trans hs.2.1, g.y.2.2.trans hs.2.2.1, hr⟩
theorem pcX_lt {k p : Nat} (h : ThereX k p) : p < 32 := by rw [thereX_iff] at h; omega
theorem small_wf {c : Cf} {C N K : Nat} (s : SzX c C N K) (ho : c.obj = 2) {f : Ds} (h : GoodX c f) (hs : SmallX f) : DWf f ∧ DFits f := by
  obtain ⟨h1, h2, h3⟩ := (good_iff s f).1 h
  have hk := kinds_of h2
  have hpc := pcX_lt h2
  have hb := h3.1
  have t4 := topX_le c
  have c2 := s.c2
  have k2 := s.k2
  have ha : f.a ≤ 2147483647 := by rcases fitsX ho h1 with g | g | g <;> omega
  obtain ⟨g1, g2, g3, g4, g5, g6, g7⟩ := hs
  unfold DWf DFits
  omega
/-- How much the levels above take, at most. -/
def restN (C N : Nat) : Nat → Nat → Nat
  | 0, _ => 0
  | m + 1, h => 2 * Rk.items C N (h + 1) + 1 + restN C N m (h + 1)
theorem restFrom_eq {c : Cf} {C N K : Nat} (s : SzX c C N K) : ∀ m h, restFrom c m h = restN C N m h
  | 0, _ => rfl
  | m + 1, h => by unfold restFrom restN; rw [restFrom_eq s m (h + 1), s.up, s.cap']
theorem rest_all : ∀ (m : Fin 33) (w : Fin 3), restN m.val (w.val + 2) (Rk.top m.val (w.val + 2)) 0 ≤ 2 * m.val + 16 := by decide +kernel
theorem restX_le {c : Cf} {C N K : Nat} (s : SzX c C N K) : restX c 0 ≤ 2 * C + 16 := by
  unfold restX
  rw [restFrom_eq s, s.top, Nat.sub_zero]
  have c2 := s.c2
  have n1 := s.n1
  have n2 := s.n2
  have := rest_all ⟨C, by omega⟩ ⟨N - 2, by omega⟩
  simp only [show N - 2 + 2 = N by omega] at this
  exact this
/-- The document's bound on a program's acts. -/
def mostX (c : Cf) (k : Nat) : Nat := 1 + c.node.toNat * (topX c + 1) + (if k = 7 then 1 else if k = 8 then 2 * c.cap.toNat else if k = 4 ∨ k = 5 then 4 * c.cap.toNat + 20 else 0)
theorem start_left {c : Cf} {C N K : Nat} (s : SzX c C N K) (o : O) : leftX c (startF o) ≤ mostX c o.k := by
  have hr := restX_le s
  have e : leftX c (startF o) = 1 + c.node.toNat * (topX c + 1) + bonusX c o.k := by unfold leftX; rw [if_pos (show (startF o).pc = 0 from rfl)]; rfl
  rw [e]
  unfold mostX bonusX
  rw [s.cap']
  generalize c.node.toNat * (topX c + 1) = u
  (repeat' split) <;> omega
theorem start_good {c : Cf} {C N K : Nat} (s : SzX c C N K) {o : O} (h : XMay c (startF o)) : GoodX c (startF o) := by
  refine ⟨h, ?_⟩
  have k1 := s.k1
  unfold InvX startF
  rw [s.chunk]
  simp
  omega
theorem start_small {o : O} (h : Wf o) : SmallX (startF o) := by
  unfold Wf at h
  exact ⟨rfl, rfl, rfl, Nat.zero_le _, h.2.2.1, (by decide : 0 < 4294967296), h.2.2.2⟩
/-- It is done where none is left. -/
theorem left_zero {c : Cf} {C N K : Nat} (s : SzX c C N K) {f : Ds} (h : GoodX c f) (h0 : leftX c f = 0) : kindX f.pc = 4 := by
  obtain ⟨_, h2, h3⟩ := (good_iff s f).1 h
  by_cases hd : kindX f.pc = 4
  · exact hd
  · have := (behindX_to s h2 h3 hd 0 0).2
    omega
theorem base_eq {c : Cf} : ∀ k, baseX c k = 1 + its c k
  | 0 => rfl
  | k + 1 => by rw [its_succ, show baseX c (k + 1) = baseX c k + upX c c.cap.toNat k from rfl, base_eq k]; unfold upX; omega
/-- A cell that is there lies in the object. -/
theorem off_lt {c : Cf} (ho : c.obj = 2) {h i : Int} (g : 0 ≤ offX c h i) : 1 ≤ offX c h i ∧ offX c h i < (sz c : Int) := by
  unfold offX at g ⊢
  split at g
  · rename_i g'
    rw [if_pos g']
    have e : sz c = 1 + its c (topX c + 1) := by
      unfold sz
      rw [if_neg (by omega), if_pos ho]
      rfl
    have hm : its c (h.toNat + 1) ≤ its c (topX c + 1) := sumTo_mono (by omega)
    rw [its_succ] at hm
    rw [base_eq, e]
    unfold upX at g'
    omega
  · omega
theorem place_lt {c : Cf} (ho : c.obj = 2) {f : Ds} (g : 0 ≤ placeX c f) : placeX c f < (sz c : Int) := by
  have h0 : (0 : Int) < (sz c : Int) := by
    unfold sz
    rw [if_neg (by omega), if_pos ho]
    omega
  unfold placeX at g ⊢
  by_cases e1 : f.pc = 1
  · rw [if_pos e1] at g ⊢; exact (off_lt ho g).2
  rw [if_neg e1] at g ⊢
  by_cases e2 : f.pc = 3
  · rw [if_pos e2] at g ⊢; exact (off_lt ho g).2
  rw [if_neg e2] at g ⊢
  by_cases e3 : f.pc = 4 ∨ f.pc = 7
  · rw [if_pos e3] at g ⊢; exact (off_lt ho g).2
  rw [if_neg e3] at g ⊢
  by_cases e4 : f.pc = 5
  · rw [if_pos e4] at g ⊢; exact (off_lt ho g).2
  rw [if_neg e4] at g ⊢
  by_cases e5 : f.pc = 6
  · rw [if_pos e5] at g ⊢; exact (off_lt ho g).2
  rw [if_neg e5] at g ⊢
  by_cases e6 : f.pc = 9
  · rw [if_pos e6] at g ⊢; exact (off_lt ho g).2
  rw [if_neg e6] at g ⊢
  by_cases e7 : f.pc = 11
  · rw [if_pos e7] at g ⊢; exact (off_lt ho g).2
  rw [if_neg e7] at g ⊢
  by_cases e8 : f.pc = 12
  · rw [if_pos e8] at g ⊢; exact (off_lt ho g).2
  rw [if_neg e8] at g ⊢
  by_cases e9 : f.pc = 13
  · rw [if_pos e9] at g ⊢; exact (off_lt ho g).2
  rw [if_neg e9] at g ⊢
  by_cases e10 : f.pc = 14
  · rw [if_pos e10] at g ⊢; exact (off_lt ho g).2
  rw [if_neg e10] at g ⊢
  by_cases e11 : f.pc = 15
  · rw [if_pos e11] at g ⊢; exact (off_lt ho g).2
  rw [if_neg e11] at g ⊢
  by_cases e12 : f.pc = 17
  · rw [if_pos e12] at g ⊢; exact (off_lt ho g).2
  rw [if_neg e12] at g ⊢
  exact h0
/-- What writes is of OpPut or OpDelete; what gives out, of OpScan. -/
theorem kindX_of {k p : Nat} (h : ThereX k p) : (kindX p = 1 ∨ kindX p = 4) ∨ (kindX p = 2 ∧ (k = 4 ∨ k = 5)) ∨ (kindX p = 3 ∧ k = 8) := by
  rw [thereX_iff] at h
  unfold kindX
  split
  · omega
  · split
    · omega
    · split <;> omega
end Go.Proofs.YtmkehailohgebaaDoor
