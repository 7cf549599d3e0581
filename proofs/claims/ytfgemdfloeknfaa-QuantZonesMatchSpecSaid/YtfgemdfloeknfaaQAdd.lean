/- The contract of what Moments adds. -/
import Derived.Test.YtfgemdfloeknfaaQLocal
namespace Go.Proofs.Ytfgemdfloeknfaa
open Go.RowKit

theorem info_int : (Try.prog.info? 3).map (fun i => (i.zero, i.size, i.bytes)) = some (some (.int .i64 0), 1, 8) := by kernel_rfl

/-- The four variables of Moments. -/
structure Vars (w : World) (base S O F L : Nat) (shown off frm : Int) (xs : List Int) : Prop where
  hS : w.heap[S]? = some (.cells #[.int .i64 shown] 3 (0, 0))
  hO : w.heap[O]? = some (.cells #[.int .i64 off] 3 (0, 0))
  hF : w.heap[F]? = some (.cells #[.int .i64 frm] 3 (0, 0))
  hL : ∃ v, w.heap[L]? = some (.cells #[v] 29 (0, 0)) ∧ w.ownsRow base 3 1 v xs.length (xs.map (Value.int .i64))
  hb : S < base ∧ O < base ∧ F < base ∧ L < base
  hbs : base ≤ w.heap.size
  hOF : O ≠ F

theorem add_no {w : World} {base S O F L : Nat} {shown off frm before : Int} {xs : List Int} (hv : Vars w base S O F L shown off frm xs) (hs0 : 0 ≤ shown) (hs1 : shown ≤ 86399999999) (ho0 : -720 ≤ off) (ho1 : off ≤ 840) (h : shown - 60 * off < frm ∨ before ≤ shown - 60 * off) :
    Calls Try.prog 53 #[.int .i64 before, .pointer (some ⟨S, 0, none⟩), .pointer (some ⟨O, 0, none⟩), .pointer (some ⟨F, 0, none⟩), .pointer (some ⟨L, 0, none⟩)] w fun e w' => e = .returned (.tuple #[]) ∧ w = w' := by
  have cS := cell_of_one hv.hS
  have cO := cell_of_one hv.hO
  have cF := cell_of_one hv.hF
  clear hv
  by_cases h1 : frm ≤ shown - 60 * off
  · have h2 : before ≤ shown - 60 * off := by omega
    clear h
    go_enter Try.func53, Try.ntmps53
    go_wp2
    go_end0
    exact ⟨rfl, rfl⟩
  · clear h
    go_enter Try.func53, Try.ntmps53
    go_wp2
    go_end0
    exact ⟨rfl, rfl⟩

theorem own_ne {w : World} {base : Nat} {e : TypeId} {size n : Nat} {v : Value} {xs : List Value} (h : w.ownsRow base e size v n xs) {k : Nat} (hk : k < base) : some k ≠ v.ownBlock := by
  rcases h.2 with ⟨h1, _⟩ | ⟨g, cap, cur, h1, hg, _⟩
  · rw [h1]; simp [Value.ownBlock]
  · rw [h1]; simp [Value.ownBlock]; omega

theorem Vars.ne {w : World} {base S O F L : Nat} {shown off frm : Int} {xs : List Int} (hv : Vars w base S O F L shown off frm xs) : S ≠ L ∧ O ≠ L ∧ F ≠ L := by
  obtain ⟨v, hL, _⟩ := hv.hL
  refine ⟨fun e => ?_, fun e => ?_, fun e => ?_⟩
  · have := hv.hS; rw [e, hL] at this; simp at this
  · have := hv.hO; rw [e, hL] at this; simp at this
  · have := hv.hF; rw [e, hL] at this; simp at this

set_option maxHeartbeats 800000 in
theorem add_yes {w : World} {base S O F L : Nat} {shown off frm before : Int} {xs : List Int} (hv : Vars w base S O F L shown off frm xs) (hs0 : 0 ≤ shown) (hs1 : shown ≤ 86399999999) (ho0 : -720 ≤ off) (ho1 : off ≤ 840) (h1 : frm ≤ shown - 60 * off) (h2 : shown - 60 * off < before) (hx : xs.length ≤ 1000) :
    Calls Try.prog 53 #[.int .i64 before, .pointer (some ⟨S, 0, none⟩), .pointer (some ⟨O, 0, none⟩), .pointer (some ⟨F, 0, none⟩), .pointer (some ⟨L, 0, none⟩)] w fun e w' => e = .returned (.tuple #[]) ∧ Vars w' base S O F L shown off frm (xs ++ [shown - 60 * off]) ∧ (∀ k, k < w.heap.size → k ≠ L → (∀ v, w.heap[L]? = some (.cells #[v] 29 (0, 0)) → some k ≠ v.ownBlock) → w'.heap[k]? = w.heap[k]?) ∧ ∀ w0 : World, w0.grownBy w none → w0.heap.size ≤ base → w0.heap.size ≤ L → w0.grownBy w' none := by
  have cS := cell_of_one hv.hS
  have cO := cell_of_one hv.hO
  have cF := cell_of_one hv.hF
  obtain ⟨v, hL, hown⟩ := hv.hL
  have cL := cell_of_one hL
  have fL := free_of_one hL
  obtain ⟨i0, hi, hz0, hz1, hz2⟩ := info_parts info_int
  have HV := Lib.hid hv; have HL := Lib.hid hL; have HX := Lib.hid hx; clear hv hL hx
  go_enter Try.func53, Try.ntmps53
  go_wp2_with (at_builtin; refine wpList_append_own _ rfl _ _ 29 rfl base 3 i0 (.int .i64 0) 1 8 Try.underlying29 hi hz0 hz1 hz2 rfl (by decide) _ _ _ rfl (hown.alloc _) ⟨w.heap.size, 0, none⟩ 1 1 [.int .i64 (shown - 60 * off)] rfl rfl ?c1 ?c2 ?c3 ?c4 ?c5 ?_)
  case c1 =>
    intro j u hj
    match j, hj with
    | 0, hj => simp at hj; subst hj; simp [Addr.add]
  case c2 => intro u hu; simp at hu; subst hu; rfl
  case c3 => have := HX.out; unfold maxLen; omega
  case c4 => have := HX.out; omega
  case c5 => have := HV.out.hbs; simp; omega
  intro v' w1 hown' hgrow' _
  obtain ⟨g, cap, rfl⟩ : ∃ g cap, v' = .slice (some ⟨g, 0, none⟩) (xs.length + 1) cap := by
    rcases hown'.2 with ⟨_, h0⟩ | ⟨g, cap, _, h1, _⟩
    · omega
    · exact ⟨g, cap, h1⟩
  have hk2 : ∀ k, k < w.heap.size → some k ≠ v.ownBlock → w1.heap[k]? = w.heap[k]? := fun k hk hne => by
    rw [hgrow'.block k (by simp; omega) hne]
    exact Below.heap_alloc _ _ _ hk
  have hk : ∀ k, k < base → w1.heap[k]? = w.heap[k]? := fun k hk => hk2 k (by have := HV.out.hbs; omega) (own_ne hown hk)
  have hL1 := (hk L HV.out.hb.2.2.2).trans HL.out
  have cL1 := cell_of_one hL1
  have fL1 := free_of_one hL1
  have hsz : w.heap.size ≤ w1.heap.size := by have := hgrow'.size; simp at this; omega
  have hw1 : w1.os = w.os ∧ w1.tape = w.tape ∧ w1.output = w.output := ⟨hgrow'.os, hgrow'.tape, hgrow'.output⟩
  have hown1 := hown.lt
  have HK := Lib.hid hk; have HW1 := Lib.hid hw1; have HOWN1 := Lib.hid hown1; have HK2 := Lib.hid hk2; have HL1 := Lib.hid hL1; have HO := Lib.hid hown'; have HSZ := Lib.hid hsz
  clear hw1 hown1 hk hk2 hL1 hown' hgrow' hown cL fL hsz hi hz0 hz1 hz2 cS cO cF
  go_wp2
  go_end0
  refine ⟨rfl, ⟨?_, ?_, ?_, ⟨_, one_setCell HL1.out, ?_⟩, HV.out.hb, ?_, HV.out.hOF⟩, fun k hk hne hq => ?_, fun w0 hg0 hb0 hl0 => ?_⟩
  · rw [Below.heap_setCell _ _ _ _ HV.out.ne.1, HK.out _ HV.out.hb.1]; exact HV.out.hS
  · rw [Below.heap_setCell _ _ _ _ HV.out.ne.2.1, HK.out _ HV.out.hb.2.1]; exact HV.out.hO
  · rw [Below.heap_setCell _ _ _ _ HV.out.ne.2.2, HK.out _ HV.out.hb.2.2.1]; exact HV.out.hF
  · have := ownsRow_setCell_below HO.out (a := ⟨L, 0, none⟩) HV.out.hb.2.2.2 (.slice (some ⟨g, 0, none⟩) (xs.length + 1) cap)
    simpa using this
  · have := HV.out.hbs; have := HSZ.out; simp [World.setCell]; omega
  · rw [Below.heap_setCell _ _ _ _ hne]; exact HK2.out k hk (hq v HL.out)
  · have hgs := hg0.size
    refine ⟨HW1.out.1.trans hg0.os, HW1.out.2.1.trans hg0.tape, HW1.out.2.2.trans hg0.output, ?_, fun k hk _ => ?_⟩
    · have := HSZ.out; simp [World.setCell]; omega
    · rw [Below.heap_setCell _ _ _ _ (by show k ≠ L; omega), HK2.out k (by omega) (fun e => by have := HOWN1.out k e.symm; omega)]
      exact hg0.block k hk (by simp)
end Go.Proofs.Ytfgemdfloeknfaa
