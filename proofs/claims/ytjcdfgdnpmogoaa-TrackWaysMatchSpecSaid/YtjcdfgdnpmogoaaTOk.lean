/- What an activity is that Check finds right. -/
import Derived.Test.YtjcdfgdnpmogoaaTStep
import Derived.Test.YtjcdfgdnpmogoaaTSamples
namespace Go.Proofs.Ytjcdfgdnpmogoaa
open Go.RowKit

theorem smps_ok {st : Int} : ∀ (l : List Smp) (b : Option Int), smpsE st b l = 0 → ∀ x ∈ l, smpIn st x
  | [], _, _, x, hx => by simp at hx
  | y :: r, b, h, x, hx => by
    unfold smpsE at h
    split at h
    · omega
    · split at h
      · rename_i hi
        rcases List.mem_cons.1 hx with rfl | hx
        · exact hi
        · exact smps_ok r _ h x hx
      · omega

structure ActOk (a : Act) : Prop where
  sl : (a.ss.length : Int) ≤ 20000
  ll : (a.ls.length : Int) ≤ 200
  tl : (a.ts.length : Int) ≤ 20
  st0 : 0 ≤ a.start
  st1 : a.start ≤ 86399999999
  smps : smpsE a.start none a.ss = 0
  laps : lapsE (spanL a.ss) 0 a.ls = 0
  tags : tagsE none a.ts = 0
  name : nameB a.name = true
  sp0 : 1 ≤ a.sport
  sp1 : a.sport ≤ 5
theorem chk_ok {a : Act} (h : chkE a = 0) : ActOk a := by
  unfold chkE at h
  split at h
  · rename_i h1
    split at h
    · rename_i h2
      split at h
      · rename_i h3
        split at h
        · rename_i h4
          split at h
          · rename_i h5
            split at h
            · rename_i h6
              exact ⟨h4.1, h4.2.1, h4.2.2, h3.1, h3.2, h5, h6, h, h1, h2.1, h2.2⟩
            · rename_i h6; exact absurd h h6
          · rename_i h5; exact absurd h h5
        · omega
      · omega
    · omega
  · omega
theorem ActOk.plane {a : Act} (h : ActOk a) : ∀ x ∈ a.ss, inPlane x := fun x hx => by
  have := smps_ok _ _ h.smps x hx
  unfold smpIn at this; unfold inPlane; omega
theorem lt_of_cell {w : World} {p : Addr} {v : Value} (h : w.cell? p = some v) : p.block < w.heap.size := by
  rcases Nat.lt_or_ge p.block w.heap.size with hl | hl
  · exact hl
  · unfold World.cell? at h
    rw [Array.getElem?_eq_none hl] at h
    simp at h
theorem SmpsAt.block {w : World} {ao : Option Addr} {l : List Smp} (h : SmpsAt w ao l) : ∀ a, ao = some a → l ≠ [] → a.block < w.heap.size := fun a ha hne => by
  have hl : 0 < l.length := by
    cases l with
    | nil => exact absurd rfl hne
    | cons x r => simp
  have q := lt_of_cell (h.cells a ha 0 hl).1
  exact q
end Go.Proofs.Ytjcdfgdnpmogoaa
