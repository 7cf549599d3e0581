/- The contract of Moments. -/
import Derived.Test.YtfgemdfloeknfaaQAdd
import Derived.Test.YtfgemdfloeknfaaQWeek
import Derived.BigRegion
namespace Go.Proofs.Ytfgemdfloeknfaa
open Go.RowKit

/-- The moments at which clocks show this: between two changes at most one. -/
def momP (shown : Int) : Int → Int → List (Int × Int) → List Int
  | frm, off, [] => if frm ≤ shown - 60 * off ∧ shown - 60 * off < 86400000000 then [shown - 60 * off] else []
  | frm, off, (f, o) :: r => (if frm ≤ shown - 60 * off ∧ shown - 60 * off < f then [shown - 60 * off] else []) ++ momP shown f o r

theorem Vars.alloc {w : World} {base S O F L : Nat} {shown off frm : Int} {xs : List Int} (h : Vars w base S O F L shown off frm xs) (o : Obj) : Vars (w.alloc o) base S O F L shown off frm xs := by
  have hs := h.hbs
  obtain ⟨v, hL, hown⟩ := h.hL
  refine ⟨?_, ?_, ?_, ⟨v, ?_, hown.alloc _⟩, h.hb, by simp; omega, h.hOF⟩
  · rw [Below.heap_alloc _ _ _ (by have := h.hb; omega)]; exact h.hS
  · rw [Below.heap_alloc _ _ _ (by have := h.hb; omega)]; exact h.hO
  · rw [Below.heap_alloc _ _ _ (by have := h.hb; omega)]; exact h.hF
  · rw [Below.heap_alloc _ _ _ (by have := h.hb; omega)]; exact hL
theorem Vars.drew {w : World} {base S O F L : Nat} {shown off frm : Int} {xs : List Int} (h : Vars w base S O F L shown off frm xs) : Vars w.drew base S O F L shown off frm xs := by
  obtain ⟨v, hL, hown⟩ := h.hL
  exact ⟨h.hS, h.hO, h.hF, ⟨v, hL, hown.drew⟩, h.hb, h.hbs, h.hOF⟩

theorem Vars.neS {w : World} {base S O F L : Nat} {shown off frm : Int} {xs : List Int} (h : Vars w base S O F L shown off frm xs) (hS : S ≠ O ∧ S ≠ F) (f o : Int) :
    Vars ((w.setCell ⟨F, 0, none⟩ (.int .i64 f)).setCell ⟨O, 0, none⟩ (.int .i64 o)) base S O F L shown o f xs := by
  obtain ⟨v, hL, hown⟩ := h.hL
  have hOF := h.hOF
  refine ⟨?_, ?_, ?_, ⟨v, ?_, ?_⟩, h.hb, by have := h.hbs; simpa [World.setCell] using this, hOF⟩
  · rw [Below.heap_setCell _ _ _ _ hS.1, Below.heap_setCell _ _ _ _ hS.2]; exact h.hS
  · refine one_setCell (v := .int .i64 off) ?_
    rw [Below.heap_setCell _ _ _ _ hOF]; exact h.hO
  · rw [Below.heap_setCell _ _ _ _ hOF.symm]; exact one_setCell h.hF
  · rw [Below.heap_setCell _ _ _ _ h.ne.2.1.symm, Below.heap_setCell _ _ _ _ h.ne.2.2.symm]; exact hL
  · exact ownsRow_setCell_below (ownsRow_setCell_below hown h.hb.2.2.1 _) h.hb.2.1 _
theorem Vars.neS' {w : World} {base S O F L : Nat} {shown off frm : Int} {xs : List Int} (h : Vars w base S O F L shown off frm xs) (hS : S ≠ O ∧ S ≠ F) (f o : Int) :
    Vars ((w.setCell ⟨O, 0, none⟩ (.int .i64 o)).setCell ⟨F, 0, none⟩ (.int .i64 f)) base S O F L shown o f xs := by
  obtain ⟨v, hL, hown⟩ := h.hL
  have hOF := h.hOF
  refine ⟨?_, ?_, ?_, ⟨v, ?_, ?_⟩, h.hb, by have := h.hbs; simpa [World.setCell] using this, hOF⟩
  · rw [Below.heap_setCell _ _ _ _ hS.2, Below.heap_setCell _ _ _ _ hS.1]; exact h.hS
  · rw [Below.heap_setCell _ _ _ _ hOF]; exact one_setCell h.hO
  · refine one_setCell (v := .int .i64 frm) ?_
    rw [Below.heap_setCell _ _ _ _ hOF.symm]; exact h.hF
  · rw [Below.heap_setCell _ _ _ _ h.ne.2.2.symm, Below.heap_setCell _ _ _ _ h.ne.2.1.symm]; exact hL
  · exact ownsRow_setCell_below (ownsRow_setCell_below hown h.hb.2.1 _) h.hb.2.2.1 _

theorem four (w : World) (o1 o2 o3 o4 : Obj) : ((((w.alloc o1).alloc o2).alloc o3).alloc o4).heap[w.heap.size]? = some o1 ∧ ((((w.alloc o1).alloc o2).alloc o3).alloc o4).heap[w.heap.size + 1]? = some o2 ∧
    ((((w.alloc o1).alloc o2).alloc o3).alloc o4).heap[w.heap.size + 1 + 1]? = some o3 ∧ ((((w.alloc o1).alloc o2).alloc o3).alloc o4).heap[w.heap.size + 1 + 1 + 1]? = some o4 ∧ ((((w.alloc o1).alloc o2).alloc o3).alloc o4).heap.size = w.heap.size + 4 := by
  refine ⟨?_, ?_, ?_, ?_, by simp⟩
  · rw [Below.heap_alloc _ _ _ (by simp; omega), Below.heap_alloc _ _ _ (by simp; omega), Below.heap_alloc _ _ _ (by simp)]
    exact heap_alloc_new w o1
  · rw [Below.heap_alloc _ _ _ (by simp), Below.heap_alloc _ _ _ (by simp)]
    simpa using heap_alloc_new (w.alloc o1) o2
  · rw [Below.heap_alloc _ _ _ (by simp)]
    simpa using heap_alloc_new ((w.alloc o1).alloc o2) o3
  · simpa using heap_alloc_new (((w.alloc o1).alloc o2).alloc o3) o4

theorem grown_four (w : World) (o1 o2 o3 o4 : Obj) : w.grownBy ((((w.alloc o1).alloc o2).alloc o3).alloc o4).drew none :=
  grown_trans (grown_trans (grown_trans (World.grownBy_alloc _ _ _) (World.grownBy_alloc _ _ _)) (grown_trans (World.grownBy_alloc _ _ _) (World.grownBy_alloc _ _ _))) (grown_drew _ _)

theorem vars_a (w : World) (shown first : Int) : Vars ((((w.alloc (.cells #[.slice none 0 0] 29)).alloc (.cells #[.int .i64 shown] 3)).alloc (.cells #[.int .i64 0] 3)).alloc (.cells #[.int .i64 first] 3)).drew (w.heap.size + 4) (w.heap.size + 1) (w.heap.size + 1 + 1 + 1) (w.heap.size + 1 + 1) w.heap.size shown first 0 [] := by
  obtain ⟨h1, h2, h3, h4, h5⟩ := four w (.cells #[.slice none 0 0] 29) (.cells #[.int .i64 shown] 3) (.cells #[.int .i64 0] 3) (.cells #[.int .i64 first] 3)
  exact ⟨h2, h4, h3, ⟨_, h1, World.ownsRow_nil _ _ _ _⟩, by omega, by rw [← h5]; exact Nat.le_refl _, by omega⟩
theorem vars_b (w : World) (shown first : Int) : Vars ((((w.alloc (.cells #[.slice none 0 0] 29)).alloc (.cells #[.int .i64 shown] 3)).alloc (.cells #[.int .i64 first] 3)).alloc (.cells #[.int .i64 0] 3)).drew (w.heap.size + 4) (w.heap.size + 1) (w.heap.size + 1 + 1) (w.heap.size + 1 + 1 + 1) w.heap.size shown first 0 [] := by
  obtain ⟨h1, h2, h3, h4, h5⟩ := four w (.cells #[.slice none 0 0] 29) (.cells #[.int .i64 shown] 3) (.cells #[.int .i64 first] 3) (.cells #[.int .i64 0] 3)
  exact ⟨h2, h3, h4, ⟨_, h1, World.ownsRow_nil _ _ _ _⟩, by omega, by rw [← h5]; exact Nat.le_refl _, by omega⟩

theorem chk_all : ∀ (cs : List (Int × Int)) (bf : Int), chk cs bf = 0 → ∀ i (h : i < cs.length), 0 ≤ cs[i].1 ∧ cs[i].1 ≤ 86399999999 ∧ -720 ≤ cs[i].2 ∧ cs[i].2 ≤ 840
  | [], _, _, i, h => by simp at h
  | (f, o) :: r, bf, hc, i, h => by
    unfold chk at hc
    split at hc
    · omega
    · split at hc
      · omega
      · cases i with
        | zero => simp; omega
        | succ i => exact chk_all r f hc i (by simpa using h)
theorem zone_ok {first : Int} {cs : List (Int × Int)} (h : zoneE first cs = 0) : cs.length ≤ 200 ∧ -720 ≤ first ∧ first ≤ 840 ∧ chk cs (-1) = 0 := by
  unfold zoneE at h
  split at h
  · omega
  · split at h
    · omega
    · exact ⟨by omega, by omega, by omega, h⟩

/-- What is added, whether or not it is. -/
theorem add_any {w : World} {base S O F L : Nat} {shown off frm before : Int} {xs : List Int} (hv : Vars w base S O F L shown off frm xs) (hs0 : 0 ≤ shown) (hs1 : shown ≤ 86399999999) (ho0 : -720 ≤ off) (ho1 : off ≤ 840) (hx : xs.length ≤ 1000) :
    Calls Try.prog 53 #[.int .i64 before, .pointer (some ⟨S, 0, none⟩), .pointer (some ⟨O, 0, none⟩), .pointer (some ⟨F, 0, none⟩), .pointer (some ⟨L, 0, none⟩)] w fun e w' => e = .returned (.tuple #[]) ∧ Vars w' base S O F L shown off frm (xs ++ if frm ≤ shown - 60 * off ∧ shown - 60 * off < before then [shown - 60 * off] else []) ∧ (∀ k, k < w.heap.size → k ≠ L → (∀ v, w.heap[L]? = some (.cells #[v] 29 (0, 0)) → some k ≠ v.ownBlock) → w'.heap[k]? = w.heap[k]?) ∧ ∀ w0 : World, w0.grownBy w none → w0.heap.size ≤ base → w0.heap.size ≤ L → w0.grownBy w' none := by
  by_cases h : frm ≤ shown - 60 * off ∧ shown - 60 * off < before
  · rw [if_pos h]; exact add_yes hv hs0 hs1 ho0 ho1 h.1 h.2 hx
  · rw [if_neg h, List.append_nil]
    refine (add_no hv hs0 hs1 ho0 ho1 (by omega)).mono ?_
    rintro e w' ⟨h1, rfl⟩
    exact ⟨h1, hv, fun _ _ _ _ => rfl, fun _ h _ _ => h⟩

theorem own_lt {w : World} {base : Nat} {e : TypeId} {size n : Nat} {v : Value} {xs : List Value} (h : w.ownsRow base e size v n xs) {k : Nat} (hk : w.heap.size ≤ k) : some k ≠ v.ownBlock := by
  intro e
  have := (h.lt k e.symm).2
  omega

theorem grown_set {w w1 : World} {b : Nat} (h : w.grownBy w1 none) (hb : w.heap.size ≤ b) (v : Value) : w.grownBy (w1.setCell ⟨b, 0, none⟩ v) none :=
  ⟨h.os, h.tape, h.output, by have := h.size; simpa [World.setCell] using this, fun k hk _ => by rw [Below.heap_setCell _ _ _ _ (by show k ≠ b; omega)]; exact h.block k hk (by simp)⟩
theorem own_base {w : World} {b b' : Nat} {e : TypeId} {size n : Nat} {v : Value} {xs : List Value} (h : w.ownsRow b e size v n xs) (hb : b' ≤ b) : w.ownsRow b' e size v n xs :=
  ⟨h.1, h.2.imp id fun ⟨g, cap, cur, h1, h2, h3⟩ => ⟨g, cap, cur, h1, Nat.le_trans hb h2, h3⟩⟩
theorem cell_of_boxed {w : World} {b off : Nat} {ci : Array Value} {t : TypeId} {fz : Nat × Nat} {v : Value} (h : w.heap[b]? = some (.cells ci t fz)) (hv : ci[off]? = some v) : w.cell? ⟨b, off, none⟩ = some v := by simp [World.cell?, h, hv]

theorem zone_some {w : World} {ao : Option Addr} {cs : List (Int × Int)} (h : ZoneAt w ao cs) (hc : cs ≠ []) : ∃ b off, ao = some ⟨b, off, none⟩ := by
  match ao, h with
  | none, h => exact absurd (h.nil rfl) hc
  | some ⟨b, off, sp⟩, h =>
    have := h.spot _ rfl hc
    simp only at this
    subst this
    exact ⟨b, off, rfl⟩

/-- What was boxed before the call is there after it. -/
theorem boxed {w w3 : World} {base S O F L : Nat} {shown off frm : Int} {xs : List Int} (hv : Vars w base S O F L shown off frm xs) (o : Obj)
    (hk : ∀ k, k < (w.alloc o).heap.size → k ≠ L → (∀ v, (w.alloc o).heap[L]? = some (.cells #[v] 29 (0, 0)) → some k ≠ v.ownBlock) → w3.heap[k]? = (w.alloc o).heap[k]?) : w3.heap[w.heap.size]? = some o := by
  obtain ⟨v, hL, hown⟩ := hv.hL
  have hLs : L < w.heap.size := by have := hv.hb.2.2.2; have := hv.hbs; omega
  rw [hk w.heap.size (by simp) (by omega) ?_]
  · exact heap_alloc_new w o
  · intro u hu
    rw [Below.heap_alloc _ _ _ hLs, hL] at hu
    simp at hu
    subst hu
    exact own_lt hown (Nat.le_refl _)

set_option maxRecDepth 100000 in
set_option maxHeartbeats 1600000 in
theorem moments_walk (first d s : Int) (ao : Option Addr) (cap : Nat) (cs : List (Int × Int)) (hcl : (cs.length : Int) ≤ 9223372036854775807) (w : World) (hz : ZoneAt w ao cs) (hok : Hid (zoneE first cs = 0)) (hd0 : 0 ≤ d) (hd1 : d ≤ 999999) (hs0 : 0 ≤ s) (hs1 : s ≤ 86399) :
    Calls Try.prog 30 #[.agg #[.int .i64 first, .slice ao cs.length cap], .int .i64 d, .int .i64 s] w fun e w' => (∃ v, e = .returned (.tuple #[v, .int .i64 0]) ∧ w'.ownsRow w.heap.size 3 1 v (momP (d * 86400 + s) 0 first cs).length ((momP (d * 86400 + s) 0 first cs).map (Value.int .i64))) ∧ w.grownBy w' none := by
  have hza : ∀ o : Obj, ZoneAt (w.alloc o) ao cs := fun o => hz.grown (World.grownBy_alloc _ _ _)
  have HZA := Lib.hid hza; have HZ := Lib.hid hz; have HCL := Lib.hid hcl; clear hza hz hcl
  go_enter Try.func30, Try.ntmps30
  go_wp2_with fail
  refine (checkZone_is HCL.out (HZA.out _) hok).mono ?_
  rintro x w1 ⟨rfl, hg1⟩
  have hga := grown_trans (World.grownBy_alloc w (.cells #[.int .i64 first, .slice ao cs.length cap] 40) none) hg1
  have hb0 : w1.cell? ⟨w.heap.size, 0, none⟩ = some (.int .i64 first) := grown_cell hg1 (by simp)
  have hb1 : w1.cell? ⟨w.heap.size, 1, none⟩ = some (.slice ao cs.length cap) := grown_cell hg1 (by simp)
  have hsz : w.heap.size + 1 ≤ w1.heap.size := by have := hg1.size; simpa using this
  clear hg1
  go_upto_region 8 with (go_at_call 46; refine (isDay_yes _ hd0 hd1 _).mono ?_; rintro x w2 ⟨rfl, rfl⟩)
  go_cut [11, 12] (fun fv ov wx => ∃ F O : Nat, fv = .pointer (some ⟨F, 0, none⟩) ∧ ov = .pointer (some ⟨O, 0, none⟩) ∧ Vars wx (w1.heap.size + 4) (w1.heap.size + 1) O F w1.heap.size (d * 86400 + s) first 0 [] ∧ (w1.heap.size + 1 ≠ O ∧ w1.heap.size + 1 ≠ F ∧ w1.heap.size ≤ O ∧ w1.heap.size ≤ F) ∧ w1.grownBy wx none)
  case first =>
    have k2 : ∀ o1 o2, ((w1.alloc o1).alloc o2).cell? ⟨w.heap.size, 0, none⟩ = some (.int .i64 first) := fun o1 o2 => grown_cell (grown_trans (World.grownBy_alloc w1 o1 none) (World.grownBy_alloc _ o2 none)) hb0
    have k3 : ∀ o1 o2 o3, (((w1.alloc o1).alloc o2).alloc o3).cell? ⟨w.heap.size, 0, none⟩ = some (.int .i64 first) := fun o1 o2 o3 => grown_cell (World.grownBy_alloc _ o3 none) (k2 o1 o2)
    have k4 : ∀ o1 o2 o3 o4, ((((w1.alloc o1).alloc o2).alloc o3).alloc o4).cell? ⟨w.heap.size, 0, none⟩ = some (.int .i64 first) := fun o1 o2 o3 o4 => grown_cell (World.grownBy_alloc _ o4 none) (k3 o1 o2 o3)
    go_region
    all_goals
      go_wp2_with fail
      go_meet
    · exact ⟨_, _, rfl, rfl, vars_a _ _ _, by omega, grown_four _ _ _ _ _⟩
    · exact ⟨_, _, rfl, rfl, vars_b _ _ _, by omega, grown_four _ _ _ _ _⟩
  case rest =>
    obtain ⟨F, O, rfl, rfl, hvars, hne, hgc⟩ := hcut
    have hb2 : wc.cell? ⟨w.heap.size, 1, none⟩ = some (.slice ao cs.length cap) := grown_cell hgc hb1
    have hgw := grown_trans hga hgc
    obtain ⟨z0, z1, z2, z3⟩ := zone_ok hok.out
    have z0i : (cs.length : Int) ≤ 200 := by omega
    obtain ⟨shown, hsh⟩ : ∃ x, d * 86400 + s = x := ⟨_, rfl⟩
    have sh0 : 0 ≤ shown := by omega
    have sh1 : shown ≤ 86399999999 := by omega
    rw [hsh] at hvars
    have hn : w1.heap.size + 1 ≠ O ∧ w1.heap.size + 1 ≠ F := ⟨hne.1, hne.2.1⟩
    have hlo : w.heap.size ≤ w1.heap.size ∧ w.heap.size ≤ O ∧ w.heap.size ≤ F := by omega
    have HNE := Lib.hid hn; have HLO := Lib.hid hlo; have HVARS := Lib.hid hvars; have HC := Lib.hid z3; have HSH := Lib.hid hsh
    clear hb0 hb1 hga hgc hne hn hvars z3 z0 hsh hlo
    go_wp2_with fail
    go_loopw [42] (fun iv wr => ∃ (j : Nat) (of fr : Int) (xs : List Int), j ≤ cs.length ∧ iv = .int .i64 j ∧ Hid (Vars wr (w1.heap.size + 4) (w1.heap.size + 1) O F w1.heap.size shown of fr xs) ∧ w.grownBy wr none ∧ Hid (xs.length ≤ j) ∧ -720 ≤ of ∧ of ≤ 840 ∧ Hid (momP shown 0 first cs = xs ++ momP shown fr of (cs.drop j)))
      (fun iv _ => cs.length - (intOf iv).toNat)
    case atStart => exact ⟨0, first, 0, [], Nat.zero_le _, rfl, HVARS.out, hgw, by show _ ≤ _; simp, z1, z2, rfl⟩
    case round =>
      obtain ⟨j, of, fr, xs, hj, rfl, hv, hg, hxl, of0, of1, hw⟩ := hrel
      clear hb2 hgw
      by_cases hlt : j < cs.length
      · obtain ⟨b, off, rfl⟩ := zone_some HZ.out (by intro h; rw [h] at hlt; simp at hlt)
        have hd : cs.drop j = cs[j] :: cs.drop (j + 1) := List.drop_eq_getElem_cons hlt
        have hc0 := grown_cell hg (HZ.out.cells _ rfl j hlt).1
        have hc1 := grown_cell hg (HZ.out.cells _ rfl j hlt).2
        have hall := chk_all cs (-1) HC.out j hlt
        rcases hcj : cs[j] with ⟨f, o⟩
        rw [hcj] at hc0 hc1 hd hall
        simp only at hc0 hc1 hall
        obtain ⟨a1, a2, a3, a4⟩ := hall
        have HD := Lib.hid hd; clear hd hcj
        go_wp2_with fail
        refine (add_any (hv.out.alloc _) sh0 sh1 of0 of1 (by have := hxl.out; omega)).mono ?_
        rintro x w3 ⟨rfl, hv3, hk3, hg3⟩
        have hck := boxed hv.out _ hk3
        have hgw := hg3 w (grown_trans hg (World.grownBy_alloc _ _ _)) (by have := HLO.out; omega) (by have := HLO.out; omega)
        have hO3 := cell_of_one hv3.hO
        have hF3 := cell_of_one hv3.hF
        have hc0 : w3.cell? ⟨wr.heap.size, 0, none⟩ = some (.int .i64 f) := cell_of_boxed hck rfl
        have hc1 : w3.cell? ⟨wr.heap.size, 1, none⟩ = some (.int .i64 o) := cell_of_boxed hck rfl
        have fO3 := free_of_one hv3.hO
        have fF3 := free_of_one hv3.hF
        have hO4 : (w3.setCell ⟨F, 0, none⟩ (.int .i64 f)).heap[O]? = some (.cells #[.int .i64 of] 3 (0, 0)) := by rw [Below.heap_setCell _ _ _ _ hv3.hOF]; exact hv3.hO
        have hF4 : (w3.setCell ⟨O, 0, none⟩ (.int .i64 o)).heap[F]? = some (.cells #[.int .i64 fr] 3 (0, 0)) := by rw [Below.heap_setCell _ _ _ _ hv3.hOF.symm]; exact hv3.hF
        have cO4 := cell_of_one hO4
        have cF4 := cell_of_one hF4
        have fO4 := free_of_one hO4
        have fF4 := free_of_one hF4
        clear hO4 hF4
        have hwO : wr.heap.size ≠ O ∧ wr.heap.size ≠ F := by have := hv.out.hb; have := hv.out.hbs; omega
        have HV3 := Lib.hid hv3; have HWO := Lib.hid hwO; clear hv3 hk3 hg3 hck hwO
        go_wp2_with fail
        go_region
        all_goals go_wp2_with fail
        all_goals
          refine ⟨⟨j + 1, o, f, xs ++ (if fr ≤ shown - 60 * of ∧ shown - 60 * of < f then [shown - 60 * of] else []), by omega, by simp, ?_, ?_, ?_, a3, a4, ?_⟩, ?_⟩
        · first
            | exact (HV3.out.neS HNE.out f o).drew
            | exact (HV3.out.neS' HNE.out f o).drew
        · first
            | exact grown_trans (grown_set (grown_set hgw HLO.out.2.2 _) HLO.out.2.1 _) (grown_drew _ _)
            | exact grown_trans (grown_set (grown_set hgw HLO.out.2.1 _) HLO.out.2.2 _) (grown_drew _ _)
        · show _ ≤ _
          have := hxl.out
          rw [List.length_append]
          split
          · simp only [List.length_cons, List.length_nil]; omega
          · simp only [List.length_nil]; omega
        · show _ = _
          rw [hw.out, HD.out]
          exact (List.append_assoc _ _ _).symm
        · simp [intOf]; omega
      · have hje : j = cs.length := by omega
        subst hje
        go_wp2_with fail
        refine (add_any hv.out sh0 sh1 of0 of1 (by have := hxl.out; omega)).mono ?_
        rintro x w3 ⟨rfl, hv3, hk3, hg3⟩
        have hgw := hg3 w hg (by have := HLO.out; omega) (by have := HLO.out; omega)
        obtain ⟨v3, hL3, hown3⟩ := hv3.hL
        have cL3 := cell_of_one hL3
        have HO3 := Lib.hid hown3; clear hv3 hk3 hg3 hL3 hown3
        go_wp2_with fail
        go_ret2
        refine ⟨⟨v3, rfl, ?_⟩, hgw⟩
        rw [HSH.out, hw.out, List.drop_length]
        exact own_base HO3.out (by have := HLO.out; omega)
end Go.Proofs.Ytfgemdfloeknfaa
