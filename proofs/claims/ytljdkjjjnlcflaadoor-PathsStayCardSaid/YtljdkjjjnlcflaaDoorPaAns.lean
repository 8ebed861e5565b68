/- What the program's Do answers of a tree of settings, opened; the statements' config. -/
import Derived.Test.YtljdkjjjnlcflaaDoorPaDoP
namespace Go.Proofs.YtljdkjjjnlcflaaDoor
open Go.RowKit Go.Lib Tb Pt Opn

/-- What Do leaves, its rows opened. -/
def OpenedP (rows : List R) (x y er : Int) (na : Nat) (w : World) (e : Ending) (w' : World) : Prop := ∃ Aa da, e = .returned (.tuple #[.slice Aa na da, .agg #[.int .i64 x, .int .u32 y, .slice none 0 0], .int .i64 er]) ∧
  (Aa = none → na = 0 ∧ da = 0) ∧ IsR w' Aa rows ∧ Below w.heap.size w w'
theorem pado_open (c : Cf) (A : Option Addr) (l : List R) (d : Nat) (o : O) (ho : Wf o) (hAn : A = none → l.length = 0 ∧ d = 0) (hl : l.length ≤ 100000) (hw64 : ∀ x ∈ l, x.1 < 18446744073709551616) (rows : List R) (x y er : Int) (hs : doPR c l o = (rows, x, y)) (he : doPE c l = er) (n na : Nat) (hn : l.length = n) (hna : rows.length = na) (w : World) (hp : Obs w) (h : IsR w A l) :
    Calls Tryd.prog 9 #[cfv c, .slice A n d, opv o] w (OpenedP rows x y er na w) := by
  subst hn hna
  have h1 := pdo_any c A l d o ho hAn hl hw64 w hp h
  rw [hs, he] at h1
  refine h1.mono ?_
  rintro e w' ⟨u, rfl, hu, hb⟩
  obtain ⟨Aa, da, rfl, _, h3, h4⟩ := MadeX.form rowL_len hu
  exact ⟨Aa, da, rfl, h3, h4, hb⟩

theorem ndpE {c : Cf} {l : List R} (h : IsPt c l) : doPE c l = 0 := by
  rcases doPE_cases c l with ⟨h1, _⟩ | ⟨_, h2⟩
  · exact h1
  · exact absurd h h2
/-- The examples' config. -/
def cfP : Cf := ⟨4, 2, 1, 1, 0, 0, 3, 0, 1, 0, 131072, 0⟩
set_option maxRecDepth 100000 in
set_option maxHeartbeats 1000000 in
theorem paconf_any (w : World) : Calls Tryd.prog 10 #[] w (Ret (cfv cfP) w) := by
  unfold cfv cfP
  go_enter Tryd.func10, Tryd.ntmps10
  go_wp2
  refine bodyPost_ret (v := .agg #[.int .u8 4, .int .i64 2, .int .i64 1, .int .u8 1, .int .i64 0, .int .i64 0, .int .i64 3, .int .i64 0, .int .i64 1, .int .i64 0, .int .u64 131072, .int .u64 0]) ?_ rfl ⟨rfl, ?_⟩
  · simp [results, Tryd.results10, go_sem]
  · exact below_one _ _
end Go.Proofs.YtljdkjjjnlcflaaDoor
