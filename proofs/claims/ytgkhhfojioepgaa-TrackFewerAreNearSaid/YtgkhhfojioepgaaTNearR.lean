/- What Only returns for a list that is kept. -/
import Derived.Test.YtgkhhfojioepgaaTNearO
import Derived.Test.YtgkhhfojioepgaaTOnlyP
namespace Go.Proofs.Ytgkhhfojioepgaa
open Go.RowKit
set_option linter.unusedSimpArgs false
set_option linter.unusedVariables false

def intsN (l : List Nat) : List Int := l.map fun (i : Nat) => (i : Int)
theorem intsN_len (l : List Nat) : (intsN l).length = l.length := by simp [intsN]
theorem intsN_at {l : List Nat} {i : Nat} (h : i < l.length) : nthI (intsN l) i = (l[i]?.getD 0 : Nat) := by
  rw [nthI_at (by rw [intsN_len]; exact h), List.getElem?_eq_getElem h]; simp [intsN]
/-- The activity that Only is asked for: without its laps. -/
def noLaps (a : Act) : Act := { a with lo := none, lc := 0, ls := [] }
theorem only_kept {a : Act} {most : Int} (h : chkE a = 0) (hn : 1 ≤ a.ss.length) {l : List Nat} (hl : KeptL a.ss most l) : onlyO (noLaps a) (intsN l) = (keptA a l, 0) := by
  have ok := chk_ok h
  have HS := sok_of ok
  have hk := kept_in hn hl
  have hc := kept_ok h hn hl
  obtain ⟨L, rfl, h1, h2⟩ := hl
  have c0 : chkE (noLaps a) = 0 := by
    unfold chkE noLaps
    simp only
    rw [if_pos ok.name, if_pos ⟨ok.sp0, ok.sp1⟩, if_pos ⟨ok.st0, ok.st1⟩, if_pos ⟨ok.sl, by simp, ok.tl⟩, if_pos ok.smps, if_pos (by rfl)]
    exact ok.tags
  have hr : Rises (intsN (0 :: L)) := fun i hi => by
    rw [intsN_len] at hi
    rw [intsN_at (by omega), intsN_at hi]
    have := (nrC_pair L 0 i h1 (by simp at hi; omega)).2
    have e : (0 :: L)[i + 1]?.getD 0 = L[i]?.getD 0 := by simp
    omega
  have ha : AllIn a.ss.length (intsN (0 :: L)) := fun i hi => by
    rw [intsN_len] at hi
    rw [intsN_at hi, List.getElem?_eq_getElem hi, Option.getD_some]
    have := hk _ (List.getElem_mem hi)
    omega
  have hp : pickS a.ss (intsN (0 :: L)) (intsN (0 :: L)).length = (0 :: L).map (smpD a.ss) := by
    rw [intsN_len]
    refine List.ext_getElem (by rw [pick_len, List.length_map]) (fun i g1 g2 => ?_)
    rw [pick_len] at g1
    have e : (pickS a.ss (intsN (0 :: L)) (0 :: L).length)[i]'(by rw [pick_len]; exact g1) = smpD a.ss (nthI (intsN (0 :: L)) i).toNat := by simp [pickS]
    rw [e, intsN_at g1, Int.toNat_natCast, List.getElem_map, List.getElem?_eq_getElem g1, Option.getD_some]
  have hf : firstT ((0 :: L).map (smpD a.ss)) = 0 := HS.t0 (by omega)
  unfold onlyO
  rw [if_pos c0, if_pos hr]
  have e2 : (noLaps a).ss = a.ss := rfl
  rw [e2, if_pos ha, hp, hf]
  have e3 : partV (noLaps a) 0 ((0 :: L).map (smpD a.ss)) = keptA a (0 :: L) := by
    unfold partV noLaps keptA
    simp only [Int.neg_zero, mv_zero, Int.add_zero]
    rfl
  rw [e3]
  unfold okV
  rw [if_pos hc, hc]
end Go.Proofs.Ytgkhhfojioepgaa
