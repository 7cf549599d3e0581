/- The contracts of slices.IndexFunc and slices.DeleteFunc over a row of spans of one's own. -/
import Derived.Test.YtgkhhfojioepgaaOrdA
import Derived.Test.YtgkhhfojioepgaaTWays
import Derived.Deep.CutBlock
import Derived.Deep.DeepCutAuto
import Derived.Shelf.Abstract
namespace Go.Proofs.Ytgkhhfojioepgaa
open Go.RowKit
set_option linter.unusedSimpArgs false
set_option linter.unusedVariables false

theorem spCs_len (x : SpV) : (spCs x).length = 2 := rfl
theorem sp_at {w : World} {ao : Option Addr} {L : List SpV} (h : RowsAt spCs 2 w ao L) (hl : 0 < L.length) : ∃ g o, ao = some ⟨g, o, none⟩ ∧ ∀ i (hi : i < L.length),
    w.cell? ⟨g, o + i * 2, none⟩ = some (.int .i64 L[i].fr) ∧ w.cell? ⟨g, o + i * 2 + 1, none⟩ = some (.int .i64 L[i].to_) := by
  obtain ⟨g, o, e, hc⟩ := rows_at h hl
  exact ⟨g, o, e, fun i hi => ⟨hc i hi 0 _ rfl, hc i hi 1 _ rfl⟩⟩
/-- What a predicate of spans hands back, wherever the world has come. -/
def PredSp (P : Program) (g : Nat) (cb : Array Value) (p : SpV → Bool) (L : List SpV) (w : World) (row : Option Nat) : Prop :=
  ∀ x ∈ L, ∀ W, w.grownBy W row → Calls P g (#[.agg #[.int .i64 x.fr, .int .i64 x.to_]] ++ cb) W fun e W' => e = .returned (.bool (p x)) ∧ W.grownBy W' none
def idxR (L : List SpV) (p : SpV → Bool) : Int := if L.findIdx p < L.length then (L.findIdx p : Int) else -1
theorem keptR {w w' : World} {base : Nat} {e : TypeId} {size : Nat} {v : Value} {n : Nat} {xs : List Value} (h : w.ownsRow base e size v n xs) (g : w.grownBy w' none) : w'.ownsRow base e size v n xs := h.kept g (by by_cases h : v.ownBlock = none <;> simp [h])
theorem grown_thenR {w W W' : World} {row : Option Nat} (h : w.grownBy W row) (g : W.grownBy W' none) : w.grownBy W' row := ⟨g.os.trans h.os, g.tape.trans h.tape, g.output.trans h.output, Nat.le_trans h.size g.size, fun k hk hne => (g.block k (Nat.lt_of_lt_of_le hk h.size) (by simp)).trans (h.block k hk hne)⟩
theorem grown_low2 {w w' : World} {r : Option Nat} (h : w.grownBy w' none) : w.grownBy w' r := ⟨h.os, h.tape, h.output, h.size, fun k hk _ => h.block k hk (by simp)⟩

set_option maxRecDepth 100000 in
set_option maxHeartbeats 1600000 in
theorem idxSp_is (ao : Option Addr) (cap : Nat) (L : List SpV) (hl : (L.length : Int) ≤ 1000000) (g : Nat) (cb : Array Value) (p : SpV → Bool) (w : World) (row : Option Nat) (hs : RowsAt spCs 2 w ao L) (eg : ∀ args w, (callFunc g args).run Try.prog w = .ok (.enter g args) w)
    (hf : PredSp Try.prog g cb p L w row) {i : Int} (hi : idxR L p = i) :
    Calls Try.prog 163 #[.slice ao L.length cap, .func (.func g) #[] cb] w fun e w' => e = .returned (.int .i64 i) ∧ w.grownBy w' none := by
  have HS := Lib.hid hs; have HF := Lib.hid hf; have HI := Lib.hid hi
  obtain ⟨k0, hk0⟩ : ∃ k0, L.findIdx p = k0 := ⟨_, rfl⟩
  have HK0 := Lib.hid hk0
  have HLE : Hid (k0 ≤ L.length) := by show _ ≤ _; rw [← hk0]; exact List.findIdx_le_length
  clear hs hf hi hk0
  go_enter Try.func163, Try.ntmps163
  go_wp2_with fail
  go_loopw [8] (fun iv wr => ∃ k : Nat, k ≤ k0 ∧ iv = .int .i64 k ∧ Hid (w.grownBy wr none))
    (fun iv _ => L.length - (intOf iv).toNat)
  case atStart => exact ⟨0, Nat.zero_le _, rfl, grown_refl _ _⟩
  case round =>
    obtain ⟨k, hk2, rfl, hg⟩ := hrel
    have hkl := HLE.out
    by_cases hlt : k < L.length
    · obtain ⟨b, off, rfl, hc⟩ := sp_at HS.out (by omega)
      obtain ⟨c0, c1⟩ := hc k hlt
      replace c0 := grown_cell hg.out c0; replace c1 := grown_cell hg.out c1
      have hcall := HF.out L[k] (List.getElem_mem hlt) wr (grown_low2 hg.out)
      by_cases he : k = k0
      · have hp : p L[k] = true := by
          have q := List.findIdx_getElem (xs := L) (p := p) (w := by rw [HK0.out, ← he]; exact hlt)
          have e : L.findIdx p = k := by rw [HK0.out, he]
          simpa only [e] using q
        have HV : Hid (i = (k : Int)) := by
          show _ = _
          rw [← HI.out]; unfold idxR; rw [HK0.out, ← he, if_pos hlt]
        rw [hp] at hcall
        have HC := Lib.hid hcall
        clear hc hcall hp he hkl hk2
        generalize L[k] = x at *
        go_wp2_with (go_at_fn g; refine HC.out.mono ?_; rintro e w1 ⟨rfl, hg1⟩)
        have HG1 : Hid (w.grownBy w1 none) := grown_trans hg.out hg1
        clear hg1
        go_wp2_with fail
        go_ret
        exact ⟨ret_int HV.out.symm, HG1.out⟩
      · have hp : p L[k] = false := by
          have q := List.not_of_lt_findIdx (p := p) (xs := L) (i := k) (by rw [HK0.out]; omega)
          simpa using q
        have hk3 : k + 1 ≤ k0 := by omega
        rw [hp] at hcall
        have HC := Lib.hid hcall
        clear hc hcall hp he
        generalize L[k] = x at *
        go_wp2_with (go_at_fn g; refine HC.out.mono ?_; rintro e w1 ⟨rfl, hg1⟩)
        have HG1 : Hid (w.grownBy w1 none) := grown_trans hg.out hg1
        clear hg1
        go_wp2_with fail
        go_roundw
        case rel => exact ⟨k + 1, hk3, by go_num, HG1.out⟩
        case measure => simp [intOf]; omega
    · have HV : Hid (i = -1) := by
        show _ = _
        rw [← HI.out]; unfold idxR; rw [HK0.out, if_neg (by omega)]
      go_wp2_with fail
      go_ret
      exact ⟨ret_int HV.out.symm, hg.out⟩
theorem filt_none {L : List SpV} {p : SpV → Bool} (h : ¬ L.findIdx p < L.length) : L.filter (fun x => !p x) = L := by
  rw [List.filter_eq_self]
  intro x hx
  obtain ⟨i, hi, rfl⟩ := List.mem_iff_getElem.1 hx
  have := List.not_of_lt_findIdx (p := p) (xs := L) (i := i) (by omega)
  simpa using this
theorem filt_take {L : List SpV} {p : SpV → Bool} {k : Nat} (h : k ≤ L.findIdx p) : (L.take k).filter (fun x => !p x) = L.take k := by
  rw [List.filter_eq_self]
  intro x hx
  obtain ⟨i, hi, rfl⟩ := List.mem_iff_getElem.1 hx
  rw [List.length_take] at hi
  rw [List.getElem_take]
  have := List.not_of_lt_findIdx (p := p) (xs := L) (i := i) (by omega)
  simpa using this
theorem zero_sp : (Try.prog.info? 45).map (fun i => (i.zero, i.size, i.bytes)) = some (some (.agg #[.int .i64 0, .int .i64 0]), 2, 16) := by kernel_rfl

set_option maxRecDepth 100000 in
set_option maxHeartbeats 3200000 in
theorem delSp_is (base : Nat) (v : Value) (L : List SpV) (hl : (L.length : Int) ≤ 1000000) (g : Nat) (cb : Array Value) (p : SpV → Bool) (w : World) (ho : w.ownsRow base 45 2 v L.length (L.flatMap spCs)) (eg : ∀ args w, (callFunc g args).run Try.prog w = .ok (.enter g args) w)
    (hf : PredSp Try.prog g cb p L w v.ownBlock) {R : List SpV} (hR : L.filter (fun x => !p x) = R) :
    Calls Try.prog 131 #[v, .func (.func g) #[] cb] w fun e w' => (∃ v', e = .returned v' ∧ w'.ownsRow base 45 2 v' R.length (R.flatMap spCs)) ∧ w.grownBy w' v.ownBlock := by
  obtain ⟨ao, cap, rfl, hcap, hrow, _⟩ := own_rows (cs := spCs) (K := 2) (fun _ => rfl) ho
  obtain ⟨k0, hk0⟩ : ∃ k0, L.findIdx p = k0 := ⟨_, rfl⟩
  obtain ⟨i0, hi0⟩ : ∃ i, idxR L p = i := ⟨_, rfl⟩
  have HO := Lib.hid ho; have HF := Lib.hid hf; have HRW := Lib.hid hrow; have HR := Lib.hid hR; have HI := Lib.hid hi0
  clear ho hf hrow hR
  by_cases hlt0 : k0 < L.length
  · have e0 : i0 = (k0 : Int) := by rw [← hi0]; unfold idxR; rw [hk0, if_pos hlt0]
    subst e0
    obtain ⟨gb, rfl⟩ : ∃ gb, ao = some ⟨gb, 0, none⟩ := by
      rcases HO.out.2 with ⟨e, q⟩ | ⟨g', c', cur, e, _⟩
      · omega
      · cases e; exact ⟨g', rfl⟩
    obtain ⟨n, hn⟩ : ∃ n, L.length = n := ⟨_, rfl⟩
    have HK0 := Lib.hid hk0; have HN := Lib.hid hn
    have hob : (Value.slice (some ⟨gb, 0, none⟩) L.length cap).ownBlock = some gb := rfl
    rw [hob] at HF
    rw [hob]
    have HO1 : Hid (w.ownsRow base 45 2 (.slice (some ⟨gb, 0, none⟩) n cap) n (L.flatMap spCs)) := by rw [← hn]; exact HO.out
    have HLT : Hid (gb < w.heap.size) := by
      rcases HO1.out.2 with ⟨e, _⟩ | ⟨g', c', cur, e, _, hgg, _⟩
      · cases e
      · cases e; exact (Array.getElem?_eq_some_iff.1 hgg).1
    have hix := idxSp_is (some ⟨gb, 0, none⟩) cap L hl g cb p w (some gb) HRW.out eg HF.out HI.out
    rw [hn] at hl hcap hlt0 hix
    rw [hn]
    have HIX := Lib.hid hix
    clear hk0 hi0 hob HO hn hix
    go_enter Try.func131, Try.ntmps131
    go_wp2_with fail
    refine HIX.out.mono ?_; rintro e w1 ⟨rfl, hg1⟩
    have HG1 : Hid (w.grownBy w1 (some gb)) := grown_low2 hg1
    have HO2 := Lib.hid (keptR HO1.out hg1)
    have hne : ((k0 : Int) == -1) = false := by rw [beq_eq_false_iff_ne]; omega
    clear hg1 HO1 HRW HI HIX
    go_wp2_with fail
    go_loopw [5, 6] (fun iv jv wr => ∃ (i j : Nat) (X : List SpV), i < j ∧ j ≤ n ∧ iv = .int .i64 i ∧ jv = .int .i64 j ∧ Hid (X.length = n) ∧ Hid (X.take i = (L.take j).filter (fun x => !p x)) ∧ Hid (((L.take j).filter (fun x => !p x)).length = i) ∧ Hid (X.drop j = L.drop j) ∧ Hid (w.grownBy wr (some gb)) ∧ Hid (wr.ownsRow base 45 2 (.slice (some ⟨gb, 0, none⟩) n cap) n (X.flatMap spCs)))
      (fun _ jv _ => n - (intOf jv).toNat)
    case atStart =>
      refine ⟨k0, k0 + 1, L, by omega, by omega, rfl, by go_num, HN.out, ?_, ?_, rfl, HG1.out, HO2.out⟩
      · have hn2 := HN.out
        have e1 : L.take (k0 + 1) = L.take k0 ++ [L[k0]'(by omega)] := List.take_succ_eq_append_getElem (by omega)
        have hp : p (L[k0]'(by omega)) = true := by
          have q := List.findIdx_getElem (xs := L) (p := p) (w := by rw [HK0.out]; omega)
          simpa only [HK0.out] using q
        show _ = _
        rw [e1, List.filter_append, filt_take (by rw [HK0.out]; exact Nat.le_refl _)]
        simp [hp]
      · have hn2 := HN.out
        have e1 : L.take (k0 + 1) = L.take k0 ++ [L[k0]'(by omega)] := List.take_succ_eq_append_getElem (by omega)
        have hp : p (L[k0]'(by omega)) = true := by
          have q := List.findIdx_getElem (xs := L) (p := p) (w := by rw [HK0.out]; omega)
          simpa only [HK0.out] using q
        show _ = _
        rw [e1, List.filter_append, filt_take (by rw [HK0.out]; exact Nat.le_refl _)]
        simp [hp]; omega
    case round =>
      clear HG1 HO2 hlt0 hne
      obtain ⟨i, j, X, hij, hjn, rfl, rfl, hX, hT, hIL, hD, hg, ho⟩ := hrel
      by_cases hlt : j < n
      · have hjL : j < L.length := by rw [HN.out]; exact hlt
        have hXj : X[j]? = some L[j] := by
          have q := congrArg (fun l => l[0]?) hD.out
          simpa [List.getElem?_drop, List.getElem?_eq_getElem hjL] using q
        have c0 := own_cellK spCs_len ho.out hX.out hlt hXj (c := 0) rfl
        have c1 := own_cellK spCs_len ho.out hX.out hlt hXj (c := 1) rfl
        simp only [Nat.add_zero] at c0
        have hcall := HF.out L[j] (List.getElem_mem hjL) (wr.alloc (.cells #[.int .i64 L[j].fr, .int .i64 L[j].to_] 45)) (grown_thenR hg.out (World.grownBy_alloc _ _ none))
        have e1 : L.take (j + 1) = L.take j ++ [L[j]] := List.take_succ_eq_append_getElem hjL
        have HSN : Hid ((L.take (j + 1)).filter (fun x => !p x) = (L.take j).filter (fun x => !p x) ++ (if p L[j] = true then [] else [L[j]])) := by
          show _ = _
          rw [e1, List.filter_append]
          congr 1
          by_cases hp : p L[j] = true <;> simp [hp]
        obtain ⟨q, hq⟩ : ∃ q, p L[j] = q := ⟨_, rfl⟩
        rw [hq] at hcall HSN
        have HC := Lib.hid hcall
        have HLJ : Hid (gb < wr.heap.size) := Nat.lt_of_lt_of_le HLT.out hg.out.size
        clear hcall e1 hq
        generalize L[j] = x at *
        obtain ⟨xf, xt⟩ := x
        simp only at c0 c1 HC
        go_wp2_with fail
        go_at_fn g
        refine HC.out.mono ?_; rintro e w2 ⟨rfl, hg2⟩
        have hgA : wr.grownBy w2 none := grown_trans (World.grownBy_alloc _ _ _) hg2
        have hb2 : w2.heap[wr.heap.size]? = some (.cells #[.int .i64 xf, .int .i64 xt] 45 (0, 0)) := mblock_at (World.alloc_heap_new wr _) hg2 (by simp)
        have x0 : w2.cell? ⟨wr.heap.size, 0, none⟩ = some (.int .i64 xf) := mblock_cell hb2 0 _ rfl
        have x1 : w2.cell? ⟨wr.heap.size, 1, none⟩ = some (.int .i64 xt) := mblock_cell hb2 1 _ rfl
        have HG2 : Hid (w.grownBy w2 (some gb)) := grown_thenR hg.out hgA
        have HO2 := Lib.hid (keptR ho.out hgA)
        clear hg2 hgA hb2 c0 c1 HC
        cases q
        · have hiX : X[i]? = some (X[i]'(by rw [hX.out]; omega)) := List.getElem?_eq_getElem _
          have d0 := own_cellK spCs_len HO2.out hX.out (show i < n by omega) hiX (c := 0) rfl
          have d1 := own_cellK spCs_len HO2.out hX.out (show i < n by omega) hiX (c := 1) rfl
          simp only [Nat.add_zero] at d0
          have f0 := own_freeK HO2.out (i * 2)
          have f1 := own_freeK HO2.out (i * 2 + 1)
          have HO3 : Hid ((w2.setCells gb (i * 2) (spCs ⟨xf, xt⟩)).ownsRow base 45 2 (.slice (some ⟨gb, 0, none⟩) n cap) n ((X.set i ⟨xf, xt⟩).flatMap spCs)) := own_set spCs_len HO2.out hX.out (by omega) ⟨xf, xt⟩
          have HG3 : Hid (w.grownBy (w2.setCells gb (i * 2) (spCs ⟨xf, xt⟩)) (some gb)) := grown_setCells _ _ HG2.out
          have HW3 : Hid (w2.setCells gb (i * 2) (spCs ⟨xf, xt⟩) = (w2.setCell ⟨gb, i * 2, none⟩ (.int .i64 xf)).setCell ⟨gb, i * 2 + 1, none⟩ (.int .i64 xt)) := rfl
          have hi1 : (i : Int) < n := by omega
          clear hiX HO2 HG2 ho hg
          go_wp2_with fail
          go_roundw
          case rel => exact ⟨i + 1, j + 1, X.set i ⟨xf, xt⟩, by omega, by omega, by go_num, by go_num, by show _ = _; rw [List.length_set]; exact hX.out, by
            show _ = _
            rw [HSN.out, if_neg (by decide), ← hT.out, List.take_set, List.take_succ_eq_append_getElem (by rw [hX.out]; omega), List.set_append_right _ _ (by simp [hX.out]; omega)]
            simp [hX.out]
            have : min i n = i := by omega
            simp [this], by show _ = _; rw [HSN.out, if_neg (by decide), List.length_append, hIL.out]; rfl, by
            have q := congrArg (List.drop 1) hD.out
            show _ = _
            rw [List.drop_set_of_lt (by omega)]
            simpa [List.drop_drop] using q, HG3.out, HO3.out⟩
          case measure => simp [intOf]; omega
        · go_wp2_with fail
          go_roundw
          case rel => exact ⟨i, j + 1, X, by omega, by omega, rfl, by go_num, hX.out, by show _ = _; rw [hT.out, HSN.out]; simp, by show _ = _; rw [HSN.out]; simpa using hIL.out, by
            have q := congrArg (List.drop 1) hD.out
            show _ = _
            simpa [List.drop_drop] using q, HG2.out, HO2.out⟩
          case measure => simp [intOf]; omega
      · obtain rfl : n = j := by omega
        have hXX : X = X.take i ++ X.drop i := (List.take_append_drop i X).symm
        have hRR : Hid (X.take i = R) := by
          show _ = _
          rw [hT.out, ← HR.out, ← HN.out, List.take_length]
        have HIR : Hid (R.length = i) := by
          show _ = _
          rw [← hRR.out, List.length_take, hX.out]; omega
        have hz := info_parts zero_sp
        obtain ⟨z0, zi, zz0, zz1, zz2⟩ := hz
        have HCL : Hid (∀ ty, (Builtin.clear_ #[37] ty #[.slice (some ⟨gb, i * 2, none⟩) (n - i) (cap - i)]).run Try.prog wr = .ok (.tuple #[]) (wr.setCells gb (i * 2) (Builtin.zeroCells (Value.agg #[.int .i64 0, .int .i64 0]).cells (n - i)).toList)) := fun ty =>
          run_clear_rows wr 37 45 ty (.agg #[.int .i64 0, .int .i64 0]) Try.underlying37 (fun w => by kernel_rfl) (K := 2) rfl (by omega) (by intro v hv; simp [Value.cells] at hv; rcases hv with rfl | rfl <;> rfl) gb (i * 2) (n - i) (cap - i) (by omega)
            (fun k hk => by
              have hkn : i * 2 + k < n * 2 := by omega
              have hq : (i * 2 + k) / 2 < X.length := by rw [hX.out]; omega
              have hm : (i * 2 + k) % 2 < 2 := Nat.mod_lt _ (by omega)
              have c := own_cellK spCs_len ho.out hX.out (i := (i * 2 + k) / 2) (by rw [← hX.out]; exact hq) (List.getElem?_eq_getElem hq) (c := (i * 2 + k) % 2) (v := (spCs X[(i * 2 + k) / 2])[(i * 2 + k) % 2]'(by rw [spCs_len]; exact hm)) (List.getElem?_eq_getElem _)
              have e : (i * 2 + k) / 2 * 2 + (i * 2 + k) % 2 = i * 2 + k := by omega
              rw [e] at c
              rw [c]; rfl)
            (fun k hk => own_freeK ho.out _)
        have HOC : Hid ((wr.setCells gb (i * 2) (Builtin.zeroCells (Value.agg #[.int .i64 0, .int .i64 0]).cells (n - i)).toList).ownsRow base 45 2 (.slice (some ⟨gb, 0, none⟩) i cap) i (R.flatMap spCs)) := by
          have q := own_clear spCs_len ho.out hX.out (m := i) (by omega) (Builtin.zeroCells (Value.agg #[.int .i64 0, .int .i64 0]).cells (n - i)).toList
          rw [hRR.out] at q
          exact q
        have HGC : Hid (w.grownBy (wr.setCells gb (i * 2) (Builtin.zeroCells (Value.agg #[.int .i64 0, .int .i64 0]).cells (n - i)).toList) (some gb)) := grown_setCells _ _ hg.out
        have w1 : ¬ cap = i := by omega
        have w2 : (i : Int) ≤ (n : Int) := by omega
        have w3 : (n : Int) ≤ (cap : Int) := by omega
        have w4 : i ≤ n := by omega
        have w5 : (i : Int) ≤ (cap : Int) := by omega
        generalize (wr.setCells gb (i * 2) (Builtin.zeroCells (Value.agg #[.int .i64 0, .int .i64 0]).cells (n - i)).toList) = WC at *
        clear hT hIL hD hg ho hXX hRR zi zz0 zz1 zz2 hjn
        have hcl := HCL.out
        go_wp2_with fail
        go_ret
        exact ⟨⟨_, rfl, by rw [HIR.out]; exact HOC.out⟩, HGC.out⟩
  · have e0 : i0 = -1 := by rw [← hi0]; unfold idxR; rw [hk0, if_neg hlt0]
    subst e0
    have hRL : R = L := by rw [← HR.out]; exact filt_none (by rw [hk0]; exact hlt0)
    have hix := idxSp_is ao cap L hl g cb p w _ HRW.out eg HF.out HI.out
    obtain ⟨n, hn⟩ : ∃ n, L.length = n := ⟨_, rfl⟩
    have HOF : Hid (w.ownsRow base 45 2 (.slice ao n cap) R.length (R.flatMap spCs)) := by rw [hRL, ← hn]; exact HO.out
    rw [hn] at hix
    rw [hn]
    have HIX := Lib.hid hix
    clear hk0 hi0 hn hix hRL HO HF HRW hlt0 hcap hl
    go_enter Try.func131, Try.ntmps131
    go_wp2_with fail
    refine HIX.out.mono ?_; rintro e w1 ⟨rfl, hg1⟩
    have HG1 : Hid (w.grownBy w1 (Value.slice ao n cap).ownBlock) := grown_low2 hg1
    have HO2 := Lib.hid (keptR HOF.out hg1)
    clear hg1
    go_wp2_with fail
    go_ret
    exact ⟨⟨_, rfl, HO2.out⟩, HG1.out⟩
end Go.Proofs.Ytgkhhfojioepgaa
