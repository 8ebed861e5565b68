/- The program's own fold, and Do, of whatever config. -/
import Derived.Test.YtnepdbfnbikplaaGreatDoorMoMeth
import Derived.Test.YtnepdbfnbikplaaGreatDoorMoFold
import Derived.Test.YtnepdbfnbikplaaGreatDoorMoDoP
namespace Go.Proofs.YtnepdbfnbikplaaGreatDoor
open Go.RowKit Go.Lib Tb Pt Opn
/-- What Fold answers. -/
def foldR (c : Cf) (os : List O) : List R × List Ans := if ¬ Ok c then ([], []) else if 1024 < os.length then ([], []) else foldM c [] os
def foldE (c : Cf) (os : List O) : Int := if ¬ Ok c then 40 else if 1024 < os.length then 4 else 0
theorem mfold_any (c : Cf) (A : Option Addr) (os : List O) (d : Nat) (hl : os.length ≤ 1000000) (hw : ∀ o ∈ os, Wf o) (w : World) (hp : Obs w) (h : IsL w A 4 opC os) :
    Calls Tryz.prog 5 #[cfv c, .slice A os.length d] w (FoldD (foldR c os) (foldE c os) w) := by
  by_cases hc : Ok c
  · by_cases hn : 1024 < os.length
    · unfold foldR foldE
      rw [if_neg (not_not_intro hc), if_pos hn, if_neg (not_not_intro hc), if_pos hn]
      rcases four c with h1 | h1 | h1 | ⟨h1, h2, h3⟩
      · exact mfold_long c _ A os d hn (objectOf_1 c hc h1) w
      · exact mfold_long c _ A os d hn (objectOf_2 c hc h1) w
      · exact mfold_long c _ A os d hn (objectOf_3 c hc h1) w
      · exact mfold_long c _ A os d hn (objectOf_4 c hc h1 h2 h3) w
    · unfold foldR foldE
      rw [if_neg (not_not_intro hc), if_neg hn, if_neg (not_not_intro hc), if_neg hn]
      have hl' : os.length ≤ 1024 := by omega
      rcases four c with h1 | h1 | h1 | ⟨h1, h2, h3⟩
      · exact mfold_of c 55 41 A os d hc hl' hw (fun _ => by kernel_rfl) (fun _ _ => by kernel_rfl) (objectOf_1 c hc h1) (fun A l d o ho hAn hs W hp hA => mroute_any c A l d o ho hAn (by have := st_len hs; omega) (st_words hs) h1 W hp hA) w hp h
      · exact mfold_of c 56 70 A os d hc hl' hw (fun _ => by kernel_rfl) (fun _ _ => by kernel_rfl) (objectOf_2 c hc h1) (fun A l d o ho hAn hs W hp hA => mindex_any c A l d o ho hAn (by have := st_len hs; omega) (st_words hs) h1 W hp hA) w hp h
      · exact mfold_of c 57 88 A os d hc hl' hw (fun _ => by kernel_rfl) (fun _ _ => by kernel_rfl) (objectOf_3 c hc h1) (fun A l d o ho hAn hs W hp hA => maccess_any c A l d o ho hAn (by have := st_len hs; omega) (st_words hs) h1 W hp hA) w hp h
      · exact mfold_of c 58 103 A os d hc hl' hw (fun _ => by kernel_rfl) (fun _ _ => by kernel_rfl) (objectOf_4 c hc h1 h2 h3) (fun A l d o ho hAn hs W hp hA => msettings_any c A l d o ho hAn (by have := st_len hs; omega) (st_words hs) ⟨h1, h2, h3⟩ W hp hA) w hp h
  · unfold foldR foldE
    rw [if_pos hc, if_pos hc]
    exact mfold_bad c A os d hc w
theorem mdo_any (c : Cf) (A : Option Addr) (l : List R) (d : Nat) (o : O) (ho : Wf o) (hAn : A = none → l.length = 0 ∧ d = 0) (hl : l.length ≤ 100000) (hw64 : ∀ x ∈ l, x.1 < 18446744073709551616) (w : World) (hp : Obs w) (h : IsR w A l) :
    Calls Tryz.prog 6 #[cfv c, .slice A l.length d, opv o] w (DidM (doMR c l o) (doME c l) w) := by
  by_cases hc : Ok c
  · rcases four c with h1 | h1 | h1 | ⟨h1, h2, h3⟩
    · exact mdo_of c 55 41 A l d o (fun _ => by kernel_rfl) (fun _ _ => by kernel_rfl) (objectOf_1 c hc h1) (fun W hp hA => mroute_any c A l d o ho hAn hl hw64 h1 W hp hA) w hp h
    · exact mdo_of c 56 70 A l d o (fun _ => by kernel_rfl) (fun _ _ => by kernel_rfl) (objectOf_2 c hc h1) (fun W hp hA => mindex_any c A l d o ho hAn hl hw64 h1 W hp hA) w hp h
    · exact mdo_of c 57 88 A l d o (fun _ => by kernel_rfl) (fun _ _ => by kernel_rfl) (objectOf_3 c hc h1) (fun W hp hA => maccess_any c A l d o ho hAn hl hw64 h1 W hp hA) w hp h
    · exact mdo_of c 58 103 A l d o (fun _ => by kernel_rfl) (fun _ _ => by kernel_rfl) (objectOf_4 c hc h1 h2 h3) (fun W hp hA => msettings_any c A l d o ho hAn hl hw64 ⟨h1, h2, h3⟩ W hp hA) w hp h
  · rw [doM_none o (st_not hc l), errM_conf hc l]
    exact mdo_bad c A l d o hc w
end Go.Proofs.YtnepdbfnbikplaaGreatDoor
