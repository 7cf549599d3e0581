/- Spans in memory: rows of them, slices.IndexFunc and slices.Equal over them. -/
import Derived.Test.YtbacoopopokkfaaDoorQSetP
import Derived.Test.YtbacoopopokkfaaDoorBaseA
import Derived.Deep.CutBlock
import Derived.Deep.DeepCutAuto
import Derived.Shelf.Abstract
namespace Go.Proofs.YtbacoopopokkfaaDoor
open Go.RowKit
set_option linter.unusedSimpArgs false
set_option linter.unusedVariables false

theorem spCs_len (x : SpV) : (spCs x).length = 2 := rfl
theorem sp_at {w : World} {ao : Option Addr} {L : List SpV} (h : RowsAt spCs 2 w ao L) (hl : 0 < L.length) : ∃ g o, ao = some ⟨g, o, none⟩ ∧ ∀ i (hi : i < L.length),
    w.cell? ⟨g, o + i * 2, none⟩ = some (.int .i64 L[i].fr) ∧ w.cell? ⟨g, o + i * 2 + 1, none⟩ = some (.int .i64 L[i].to_) := by
  obtain ⟨g, o, e, hc⟩ := rows_at h hl
  exact ⟨g, o, e, fun i hi => ⟨hc i hi 0 _ rfl, hc i hi 1 _ rfl⟩⟩
/-- What a predicate of spans hands back, wherever the world has come. -/
def PredSp (P : Program) (g : Nat) (cb : Array Value) (p : SpV → Bool) (L : List SpV) (w : World) (row : Option Nat) : Prop :=
  ∀ x ∈ L, ∀ W, w.grownBy W row → Calls P g (#[.agg #[.int .i64 x.fr, .int .i64 x.to_]] ++ cb) W fun e W' => e = .returned (.bool (p x)) ∧ W.grownBy W' none
def idxR (L : List SpV) (p : SpV → Bool) : Int := if L.findIdx p < L.length then (L.findIdx p : Int) else -1
theorem keptR {w w' : World} {base : Nat} {e : TypeId} {size : Nat} {v : Value} {n : Nat} {xs : List Value} (h : w.ownsRow base e size v n xs) (g : w.grownBy w' none) : w'.ownsRow base e size v n xs := h.kept g (by by_cases h : v.ownBlock = none <;> simp [h])
theorem grown_thenR {w W W' : World} {row : Option Nat} (h : w.grownBy W row) (g : W.grownBy W' none) : w.grownBy W' row := ⟨g.os.trans h.os, g.tape.trans h.tape, g.output.trans h.output, Nat.le_trans h.size g.size, fun k hk hne => (g.block k (Nat.lt_of_lt_of_le hk h.size) (by simp)).trans (h.block k hk hne)⟩
theorem grown_low2 {w w' : World} {r : Option Nat} (h : w.grownBy w' none) : w.grownBy w' r := ⟨h.os, h.tape, h.output, h.size, fun k hk _ => h.block k hk (by simp)⟩

set_option maxRecDepth 100000 in
set_option maxHeartbeats 1600000 in
theorem idxSp_is (ao : Option Addr) (cap : Nat) (L : List SpV) (hl : (L.length : Int) ≤ 1000000) (g : Nat) (cb : Array Value) (p : SpV → Bool) (w : World) (row : Option Nat) (hs : RowsAt spCs 2 w ao L) (eg : ∀ args w, (callFunc g args).run Tryd.prog w = .ok (.enter g args) w)
    (hf : PredSp Tryd.prog g cb p L w row) {i : Int} (hi : idxR L p = i) :
    Calls Tryd.prog 37 #[.slice ao L.length cap, .func (.func g) #[] cb] w fun e w' => e = .returned (.int .i64 i) ∧ w.grownBy w' none := by
  have HS := Lib.hid hs; have HF := Lib.hid hf; have HI := Lib.hid hi
  obtain ⟨k0, hk0⟩ : ∃ k0, L.findIdx p = k0 := ⟨_, rfl⟩
  have HK0 := Lib.hid hk0
  have HLE : Hid (k0 ≤ L.length) := by show _ ≤ _; rw [← hk0]; exact List.findIdx_le_length
  clear hs hf hi hk0
  go_enter Tryd.func37, Tryd.ntmps37
  go_wp2_with fail
  go_loopw [8] (fun iv wr => ∃ k : Nat, k ≤ k0 ∧ iv = .int .i64 k ∧ Hid (w.grownBy wr none))
    (fun iv _ => L.length - (intOf iv).toNat)
  case atStart => exact ⟨0, Nat.zero_le _, rfl, grown_refl _ _⟩
  case round =>
    obtain ⟨k, hk2, rfl, hg⟩ := hrel
    have hkl := HLE.out
    by_cases hlt : k < L.length
    · obtain ⟨b, off, rfl, hc⟩ := sp_at HS.out (by omega)
      obtain ⟨c0, c1⟩ := hc k hlt
      replace c0 := grown_cell hg.out c0; replace c1 := grown_cell hg.out c1
      have hcall := HF.out L[k] (List.getElem_mem hlt) wr (grown_low2 hg.out)
      by_cases he : k = k0
      · have hp : p L[k] = true := by
          have q := List.findIdx_getElem (xs := L) (p := p) (w := by rw [HK0.out, ← he]; exact hlt)
          have e : L.findIdx p = k := by rw [HK0.out, he]
          simpa only [e] using q
        have HV : Hid (i = (k : Int)) := by
          show _ = _
          rw [← HI.out]; unfold idxR; rw [HK0.out, ← he, if_pos hlt]
        rw [hp] at hcall
        have HC := Lib.hid hcall
        clear hc hcall hp he hkl hk2
        generalize L[k] = x at *
        go_wp2_with (go_at_fn g; refine HC.out.mono ?_; rintro e w1 ⟨rfl, hg1⟩)
        have HG1 : Hid (w.grownBy w1 none) := grown_trans hg.out hg1
        clear hg1
        go_wp2_with fail
        go_ret
        exact ⟨ret_int HV.out.symm, HG1.out⟩
      · have hp : p L[k] = false := by
          have q := List.not_of_lt_findIdx (p := p) (xs := L) (i := k) (by rw [HK0.out]; omega)
          simpa using q
        have hk3 : k + 1 ≤ k0 := by omega
        rw [hp] at hcall
        have HC := Lib.hid hcall
        clear hc hcall hp he
        generalize L[k] = x at *
        go_wp2_with (go_at_fn g; refine HC.out.mono ?_; rintro e w1 ⟨rfl, hg1⟩)
        have HG1 : Hid (w.grownBy w1 none) := grown_trans hg.out hg1
        clear hg1
        go_wp2_with fail
        go_roundw
        case rel => exact ⟨k + 1, hk3, by go_num, HG1.out⟩
        case measure => simp [intOf]; omega
    · have HV : Hid (i = -1) := by
        show _ = _
        rw [← HI.out]; unfold idxR; rw [HK0.out, if_neg (by omega)]
      go_wp2_with fail
      go_ret
      exact ⟨ret_int HV.out.symm, hg.out⟩
theorem zero_sp : (Tryd.prog.info? 37).map (fun i => (i.zero, i.size, i.bytes)) = some (some (.agg #[.int .i64 0, .int .i64 0]), 2, 16) := by kernel_rfl
theorem sp_set : ∀ (L : List SpV) (m : Nat) (h : m < L.length) (u : Int), (L.set m ⟨L[m].fr, u⟩).flatMap spCs = (L.flatMap spCs).set (m * 2 + 1) (.int .i64 u)
  | [], m, h, _ => absurd h (by simp)
  | x :: r, 0, _, u => by simp [spCs]
  | x :: r, m + 1, h, u => by
    have ih := sp_set r m (by simpa using h) u
    rw [List.set_cons_succ, List.flatMap_cons, List.flatMap_cons]
    simp only [List.getElem_cons_succ]
    rw [ih, List.set_append_right _ _ (by simp [spCs]; omega)]
    congr 2
    simp [spCs]; omega
theorem own_baseR {w : World} {base b2 s n : Nat} {e : TypeId} {v : Value} {xs : List Value} (h : w.ownsRow base e s v n xs) (hb : b2 ≤ base) : w.ownsRow b2 e s v n xs := by
  refine ⟨h.1, ?_⟩
  rcases h.2 with q | ⟨g, cap, cur, e1, e2, rest⟩
  · exact .inl q
  · exact .inr ⟨g, cap, cur, e1, Nat.le_trans hb e2, rest⟩
set_option maxRecDepth 100000 in
set_option maxHeartbeats 1600000 in
theorem equal_spans {w : World} {a1 a2 : Option Addr} {c1 c2 : Nat} {L : List SpV} (h1 : RowsAt spCs 2 w a1 L) (h2 : RowsAt spCs 2 w a2 L) (hn : (L.length : Int) ≤ 9223372036854775807) :
    Calls Tryd.prog 13 #[.slice a1 L.length c1, .slice a2 L.length c2] w fun e w' => e = .returned (.bool true) ∧ w.grownBy w' none := by
  have Q1 := Lib.hid h1; have Q2 := Lib.hid h2
  clear h1 h2
  go_enter Tryd.func13, Tryd.ntmps13
  go_wp2_with fail
  go_loopw [13] (fun iv wr => ∃ k : Nat, k ≤ L.length ∧ iv = .int .i64 k ∧ Hid (w.grownBy wr none)) (fun iv _ => L.length - (intOf iv).toNat)
  case atStart => exact ⟨0, Nat.zero_le _, rfl, World.grownBy.refl _ _⟩
  case round =>
    obtain ⟨k, hk, rfl, hg⟩ := hrel
    by_cases hlt : k < L.length
    · obtain ⟨b1, o1, rfl, q1⟩ := sp_at (Q1.out.grown hg.out) (by omega)
      obtain ⟨b2, o2, rfl, q2⟩ := sp_at (Q2.out.grown hg.out) (by omega)
      obtain ⟨x0, x1⟩ := q1 k hlt
      obtain ⟨y0, y1⟩ := q2 k hlt
      generalize L[k] = h at *
      obtain ⟨z0, z1⟩ := h
      simp only at x0 x1 y0 y1
      clear q1 q2
      go_wp2_with fail
      go_quiet (fail)
      go_wp2_with fail
      go_roundw
      case rel => exact ⟨k + 1, by omega, by go_num, grown_trans hg.out (grown_drewN _ _ _)⟩
      case measure => simp [intOf]; omega
    · go_wp2_with fail
      go_ret
      exact ⟨rfl, hg.out⟩
end Go.Proofs.YtbacoopopokkfaaDoor
