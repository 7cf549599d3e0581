/- The reference's rows of marked steps. -/
import Derived.Test.YtgkhhfojioepgaaTMeant
import Derived.Test.YtgkhhfojioepgaaBaseA
import Derived.Test.YtgkhhfojioepgaaTSame
import Derived.Deep.CutBlock
import Derived.Deep.DeepCutAuto
namespace Go.Proofs.Ytgkhhfojioepgaa
open Go.RowKit
set_option linter.unusedSimpArgs false
set_option linter.unusedVariables false

attribute [local go_sem] Oper.semAt_some
theorem grown_appR {w wr w1 : World} {o : Obj} {row : Option Nat} (h : w.grownBy wr none) (g : (wr.alloc o).grownBy w1 row) (hr : ∀ k, row = some k → w.heap.size ≤ k) : w.grownBy w1 none :=
  ⟨g.os.trans h.os, g.tape.trans h.tape, g.output.trans h.output, by have := g.size; have := h.size; simp at *; omega, fun k hk _ => by
    have hs := h.size
    rw [g.block k (by simp; omega) (fun e => by have := hr k e.symm; omega), Below.heap_alloc _ _ _ (by omega)]
    exact h.block k hk (by simp)⟩
def BlAt (w : World) (mo : Option Addr) (n : Nat) (M : Nat → Bool) : Prop := 0 < n → ∃ g, mo = some ⟨g, 0, none⟩ ∧ ∀ j, j < n → w.cell? ⟨g, j, none⟩ = some (.bool (M j))
set_option maxRecDepth 100000 in
set_option maxHeartbeats 6400000 in
theorem rrows_is (nm : ByteArray) (sp st : Int) (so : Option Addr) (sc : Nat) (ss : List Smp) (lo : Option Addr) (lc : Nat) (ls : List LapV) (to_ : Option Addr) (tc : Nat) (ts : List ByteArray) (mo : Option Addr) (mc n : Nat) (M : Nat → Bool) (least : Int) (l0 : 1 ≤ least) (l1 : least ≤ 1000000) (w : World)
    (HSA : Hid (SmpsAt w so ss)) (HS : Hid (SOk ss)) (HN : Hid (n = ss.length - 1)) (HM : Hid (BlAt w mo n M)) :
    Calls Try.prog 72 #[.agg #[.string nm, .int .i64 sp, .int .i64 st, .slice so ss.length sc, .slice lo ls.length lc, .slice to_ ts.length tc], .slice mo n mc, .int .i64 least] w fun x w' => (∃ v, x = .returned v ∧ w'.ownsRow w.heap.size 45 2 v (restL (tmS ss) M least n).length ((restL (tmS ss) M least n).flatMap spCs)) ∧ w.grownBy w' none := by
  have hl : (ss.length : Int) ≤ 20000 := HS.out.len
  have hn20 : (n : Int) ≤ 20000 := by have := HN.out; omega
  have hT : ∀ k, k < n → tmS ss k < tmS ss (k + 1) := fun k hk => HS.out.up k (by have := HN.out; omega)
  have HT := Lib.hid hT
  have hg0 : w.grownBy (w.alloc (.cells #[.string nm, .int .i64 sp, .int .i64 st, .slice so ss.length sc, .slice lo ls.length lc, .slice to_ ts.length tc] 26)) none := World.grownBy_alloc _ _ _
  have hb0 : (w.alloc (.cells #[.string nm, .int .i64 sp, .int .i64 st, .slice so ss.length sc, .slice lo ls.length lc, .slice to_ ts.length tc] 26)).heap[w.heap.size]? = some (.cells #[.string nm, .int .i64 sp, .int .i64 st, .slice so ss.length sc, .slice lo ls.length lc, .slice to_ ts.length tc] 26 (0, 0)) := World.alloc_heap_new _ _
  have HG0 := Lib.hid hg0; have HB0 := Lib.hid hb0
  obtain ⟨i0, hi, hz0, hz1, hz2⟩ := info_parts zero_sp
  have HI0 := Lib.hid hi; have HZ0 := Lib.hid hz0; have HZ1 := Lib.hid hz1; have HZ2 := Lib.hid hz2
  clear hT hg0 hb0 hi hz0 hz1 hz2
  go_enter Try.func72, Try.ntmps72
  go_wp2_with fail
  go_loopw [7, 8] (fun lv iv wr => ∃ (i : Nat) (v : Value), i ≤ n ∧ v = lv ∧ iv = .int .i64 i ∧ Hid (i < n → M i = true → i = 0 ∨ M (i - 1) = false) ∧ Hid (w.grownBy wr none) ∧ Hid (wr.heap[w.heap.size]? = some (.cells #[.string nm, .int .i64 sp, .int .i64 st, .slice so ss.length sc, .slice lo ls.length lc, .slice to_ ts.length tc] 26 (0, 0))) ∧ Hid (wr.ownsRow w.heap.size 45 2 v (restL (tmS ss) M least i).length ((restL (tmS ss) M least i).flatMap spCs)))
    (fun _ iv _ => n - (intOf iv).toNat)
  case atStart => exact ⟨0, _, Nat.zero_le _, rfl, rfl, fun _ _ => .inl rfl, HG0.out, HB0.out, World.ownsRow_nil _ _ _ _⟩
  case round =>
    obtain ⟨i, v, hin, rfl, rfl, hfree, hg, hbx, ho⟩ := hrel
    by_cases hlt : i < n
    · obtain ⟨gm, rfl, hm⟩ := HM.out (by omega)
      have cm := grown_cell hg.out (hm i hlt)
      have HMC := Lib.hid hm
      clear hm
      obtain ⟨q, hq⟩ : ∃ q, M i = q := ⟨_, rfl⟩
      rw [hq] at cm
      have HQ := Lib.hid hq
      clear hq
      cases q
      · have HSN : Hid (restL (tmS ss) M least (i + 1) = restL (tmS ss) M least i) := by
          show _ = _
          unfold restL
          show (rowS (tmS ss) (rowL (tmS ss) M i) i (M i)).filter _ = _
          unfold rowS
          rw [HQ.out, if_neg (by decide)]
        have HFR : Hid (i + 1 < n → M (i + 1) = true → i + 1 = 0 ∨ M (i + 1 - 1) = false) := fun _ _ => .inr HQ.out
        clear hfree
        go_wp2_with fail
        go_roundw
        case rel => exact ⟨i + 1, _, by omega, rfl, by go_num, HFR.out, hg.out, hbx.out, by show World.ownsRow _ _ _ _ _ _ _; rw [HSN.out]; exact ho.out⟩
        case measure => simp [intOf]; omega
      · have HF := Lib.hid (hfree.out hlt HQ.out)
        clear hfree
        have HALL : Hid (∀ t, i ≤ t → t ≤ i → M t = true) := fun t h1 h2 => by
          have e : t = i := by omega
          rw [e]; exact HQ.out
        go_wp2_with fail
        obtain ⟨wq, rfl⟩ : ∃ W : World, W = wr := ⟨_, rfl⟩
        clear cm
        go_loopw [8] (fun jv wr => wq = wr ∧ ∃ j : Nat, i ≤ j ∧ j < n ∧ jv = .int .i64 j ∧ Hid (∀ t, i ≤ t → t ≤ j → M t = true))
          (fun jv _ => n - (intOf jv).toNat)
        case atStart => exact ⟨rfl, i, Nat.le_refl _, hlt, rfl, HALL.out⟩
        case round =>
          clear HALL
          obtain ⟨rfl, j, hij, hjn, rfl, hall⟩ := hrel
          have ln1 : ((j : Int) + 1 < (n : Int)) = (j + 1 < n) := by apply propext; omega
          by_cases hj1 : j + 1 < n
          · have cj1 := grown_cell hg.out (HMC.out (j + 1) hj1)
            obtain ⟨q2, hq2⟩ : ∃ q, M (j + 1) = q := ⟨_, rfl⟩
            rw [hq2] at cj1
            have HQ2 := Lib.hid hq2
            have hj2 : (j : Int) + 1 < (n : Int) := by omega
            have e1 : ((j + 1 : Nat) : Int) = (j : Int) + 1 := by omega
            clear hq2 ln1
            cases q2
            · have HST : Hid (j + 1 < n → M (j + 1) = false) := fun _ => HQ2.out
              go_wp2_with fail
              obtain ⟨gb, ob, rfl, hc⟩ := smps_at1 HSA.out (by have := HN.out; omega)
              have hiL : i < ss.length := by have := HN.out; omega
              have hjL : j + 1 < ss.length := by have := HN.out; omega
              obtain ⟨ti, hti⟩ : ∃ t, tmS ss i = t := ⟨_, rfl⟩
              obtain ⟨tj, htj⟩ : ∃ t, tmS ss (j + 1) = t := ⟨_, rfl⟩
              have bi := HS.out.inn i hiL; have bj := HS.out.inn (j + 1) hjL
              have bti : 0 ≤ ti ∧ ti ≤ 1000000 := by rw [← hti]; exact ⟨bi.1, bi.2.1⟩
              have btj : 0 ≤ tj ∧ tj ≤ 1000000 := by rw [← htj]; exact ⟨bj.1, bj.2.1⟩
              have ci : Hid (wq.cell? ⟨gb, ob + i * 7, none⟩ = some (.int .i64 ti)) := by
                have q := grown_cell hg.out (hc i hiL).1
                rw [← smpD_at hiL] at q
                show _ = _
                rw [q, ← hti]; rfl
              have cj : Hid (wq.cell? ⟨gb, ob + (j + 1) * 7, none⟩ = some (.int .i64 tj)) := by
                have q := grown_cell hg.out (hc (j + 1) hjL).1
                rw [← smpD_at hjL] at q
                show _ = _
                rw [q, ← htj]; rfl
              have b3 : Hid (wq.cell? ⟨w.heap.size, 3, none⟩ = some (.slice (some ⟨gb, ob, none⟩) ss.length sc)) := mblock_cell hbx.out 3 _ rfl
              have w1 : IntKind.i64.wrap (tj - 1) = tj - 1 := IntWalk.i64_in _ (by omega)
              have w2 : IntKind.i64.wrap (tj - 1 - ti) = tj - 1 - ti := IntWalk.i64_in _ (by omega)
              have w3 : IntKind.i64.wrap (tj - 1 - ti + 1) = tj - 1 - ti + 1 := IntWalk.i64_in _ (by omega)
              have w4 : IntKind.i64.wrap ((j : Int) + 1) = (j : Int) + 1 := IntWalk.i64_in _ (by omega)
              have q1 : (0 : Int) ≤ (i : Int) := by omega
              have q2 : (i : Int) < (ss.length : Int) := by omega
              have q3 : (0 : Int) ≤ (j : Int) + 1 := by omega
              have q4 : (j : Int) + 1 < (ss.length : Int) := by omega
              have e1 : ((j + 1 : Nat) : Int) = (j : Int) + 1 := by omega
              have hT := HT.out
              have HSN : Hid (restL (tmS ss) M least (j + 1) = restL (tmS ss) M least i ++ (if keepR least ⟨ti, tj - 1⟩ = true then [⟨ti, tj - 1⟩] else [])) := by
                show _ = _
                unfold restL
                rw [row_run hT HF.out j hij hjn hall.out, List.filter_append, hti, htj]
                congr 1
                by_cases h : keepR least ⟨ti, tj - 1⟩ = true <;> simp [h]
              have HFR : Hid (j + 1 < n → M (j + 1) = true → j + 1 = 0 ∨ M (j + 1 - 1) = false) := fun h1 h2 => by
                have := HST.out h1
                rw [h2] at this; cases this
              have HRL : Hid ((restL (tmS ss) M least i).length ≤ 20000) := by
                show _ ≤ _
                have := rest_len (M := M) (n := i) (fun k hk => hT k (by omega)) least
                omega
              have HTI := Lib.hid hti; have HTJ := Lib.hid htj
              clear hc bi bj hti htj hT hall HF HST HQ HMC
              refine wp_region_noPanic ?_
              refine wp_region_held_drew (S := fun V => World.grownBy wq V none) (by kernel_rfl) (⟨rfl, rfl, rfl, Nat.le_refl _, fun _ _ _ => rfl⟩) (fun hHeld => ?_)
              refine wpAnyH_take (i := 0) (oi := ?oia0) (v := .pointer (some ⟨w.heap.size, 3, none⟩)) ?hia0 (by kernel_rfl) (by kernel_rfl) (by kernel_rfl) ?hqa0 ?hya0 hHeld ?resta0
              case hia0 => simp only [List.getElem?_toArray, List.getElem?_cons_succ, List.getElem?_cons_zero, Option.some.injEq]; rfl
              case hqa0 => exact fun _ _ _ h => h
              case hya0 =>
                refine Or.inl ⟨by kernel_rfl, fun V hV => ?_⟩
                clear hV
                go_simp
              try simp only [Go.Act.put, List.setIfInBounds_toArray, List.set_cons_zero, List.set_cons_succ]
              refine wpAnyH_take (i := 1) (oi := ?oia1) (v := .slice (some ⟨gb, ob, none⟩) ss.length sc) ?hia1 (by kernel_rfl) (by kernel_rfl) (by kernel_rfl) ?hqa1 ?hya1 hHeld ?resta1
              case hia1 => simp only [List.getElem?_toArray, List.getElem?_cons_succ, List.getElem?_cons_zero, Option.some.injEq]; rfl
              case hqa1 => exact fun _ _ _ h => h
              case hya1 =>
                refine Or.inl ⟨by kernel_rfl, fun V hV => ?_⟩
                have qq := hV.cell b3.out (by simp); clear hV
                go_simp
              try simp only [Go.Act.put, List.setIfInBounds_toArray, List.set_cons_zero, List.set_cons_succ]
              refine wpAnyH_take (i := 2) (oi := ?oia2) (v := .int .i64 (i : Int)) ?hia2 (by kernel_rfl) (by kernel_rfl) (by kernel_rfl) ?hqa2 ?hya2 hHeld ?resta2
              case hia2 => simp only [List.getElem?_toArray, List.getElem?_cons_succ, List.getElem?_cons_zero, Option.some.injEq]; rfl
              case hqa2 => exact fun _ _ _ h => h
              case hya2 =>
                refine Or.inl ⟨by kernel_rfl, fun V hV => ?_⟩
                clear hV
                go_simp
              try simp only [Go.Act.put, List.setIfInBounds_toArray, List.set_cons_zero, List.set_cons_succ]
              refine wpAnyH_take (i := 3) (oi := ?oia3) (v := .pointer (some ⟨gb, ob + i * 7, none⟩)) ?hia3 (by kernel_rfl) (by kernel_rfl) (by kernel_rfl) ?hqa3 ?hya3 hHeld ?resta3
              case hia3 => simp only [List.getElem?_toArray, List.getElem?_cons_succ, List.getElem?_cons_zero, Option.some.injEq]; rfl
              case hqa3 => exact fun _ _ _ h => h
              case hya3 =>
                refine Or.inl ⟨by kernel_rfl, fun V hV => ?_⟩
                clear hV
                go_simp
              try simp only [Go.Act.put, List.setIfInBounds_toArray, List.set_cons_zero, List.set_cons_succ]
              refine wpAnyH_take (i := 4) (oi := ?oia4) (v := .pointer (some ⟨gb, ob + i * 7, none⟩)) ?hia4 (by kernel_rfl) (by kernel_rfl) (by kernel_rfl) ?hqa4 ?hya4 hHeld ?resta4
              case hia4 => simp only [List.getElem?_toArray, List.getElem?_cons_succ, List.getElem?_cons_zero, Option.some.injEq]; rfl
              case hqa4 => exact fun _ _ _ h => h
              case hya4 =>
                refine Or.inl ⟨by kernel_rfl, fun V hV => ?_⟩
                clear hV
                go_simp
              try simp only [Go.Act.put, List.setIfInBounds_toArray, List.set_cons_zero, List.set_cons_succ]
              refine wpAnyH_take (i := 5) (oi := ?oia5) (v := .int .i64 ti) ?hia5 (by kernel_rfl) (by kernel_rfl) (by kernel_rfl) ?hqa5 ?hya5 hHeld ?resta5
              case hia5 => simp only [List.getElem?_toArray, List.getElem?_cons_succ, List.getElem?_cons_zero, Option.some.injEq]; rfl
              case hqa5 => exact fun _ _ _ h => h
              case hya5 =>
                refine Or.inl ⟨by kernel_rfl, fun V hV => ?_⟩
                have qq := hV.cell ci.out (by simp); clear hV
                go_simp
              try simp only [Go.Act.put, List.setIfInBounds_toArray, List.set_cons_zero, List.set_cons_succ]
              refine wpAnyH_take (i := 6) (oi := ?oia6) (v := .pointer (some ⟨w.heap.size, 3, none⟩)) ?hia6 (by kernel_rfl) (by kernel_rfl) (by kernel_rfl) ?hqa6 ?hya6 hHeld ?resta6
              case hia6 => simp only [List.getElem?_toArray, List.getElem?_cons_succ, List.getElem?_cons_zero, Option.some.injEq]; rfl
              case hqa6 => exact fun _ _ _ h => h
              case hya6 =>
                refine Or.inl ⟨by kernel_rfl, fun V hV => ?_⟩
                clear hV
                go_simp
              try simp only [Go.Act.put, List.setIfInBounds_toArray, List.set_cons_zero, List.set_cons_succ]
              refine wpAnyH_take (i := 7) (oi := ?oia7) (v := .slice (some ⟨gb, ob, none⟩) ss.length sc) ?hia7 (by kernel_rfl) (by kernel_rfl) (by kernel_rfl) ?hqa7 ?hya7 hHeld ?resta7
              case hia7 => simp only [List.getElem?_toArray, List.getElem?_cons_succ, List.getElem?_cons_zero, Option.some.injEq]; rfl
              case hqa7 => exact fun _ _ _ h => h
              case hya7 =>
                refine Or.inl ⟨by kernel_rfl, fun V hV => ?_⟩
                have qq := hV.cell b3.out (by simp); clear hV
                go_simp
              try simp only [Go.Act.put, List.setIfInBounds_toArray, List.set_cons_zero, List.set_cons_succ]
              refine wpAnyH_take (i := 8) (oi := ?oia8) (v := .int .i64 (j : Int)) ?hia8 (by kernel_rfl) (by kernel_rfl) (by kernel_rfl) ?hqa8 ?hya8 hHeld ?resta8
              case hia8 => simp only [List.getElem?_toArray, List.getElem?_cons_succ, List.getElem?_cons_zero, Option.some.injEq]; rfl
              case hqa8 => exact fun _ _ _ h => h
              case hya8 =>
                refine Or.inl ⟨by kernel_rfl, fun V hV => ?_⟩
                clear hV
                go_simp
              try simp only [Go.Act.put, List.setIfInBounds_toArray, List.set_cons_zero, List.set_cons_succ]
              refine wpAnyH_take (i := 9) (oi := ?oia9) (v := .int .i64 ((j : Int) + 1)) ?hia9 (by kernel_rfl) (by kernel_rfl) (by kernel_rfl) ?hqa9 ?hya9 hHeld ?resta9
              case hia9 => simp only [List.getElem?_toArray, List.getElem?_cons_succ, List.getElem?_cons_zero, Option.some.injEq]; rfl
              case hqa9 => exact fun _ _ _ h => h
              case hya9 =>
                refine Or.inl ⟨by kernel_rfl, fun V hV => ?_⟩
                clear hV
                go_simp
              try simp only [Go.Act.put, List.setIfInBounds_toArray, List.set_cons_zero, List.set_cons_succ]
              refine wpAnyH_take (i := 10) (oi := ?oia10) (v := .pointer (some ⟨gb, ob + (j + 1) * 7, none⟩)) ?hia10 (by kernel_rfl) (by kernel_rfl) (by kernel_rfl) ?hqa10 ?hya10 hHeld ?resta10
              case hia10 => simp only [List.getElem?_toArray, List.getElem?_cons_succ, List.getElem?_cons_zero, Option.some.injEq]; rfl
              case hqa10 => exact fun _ _ _ h => h
              case hya10 =>
                refine Or.inl ⟨by kernel_rfl, fun V hV => ?_⟩
                clear hV
                go_simp
              try simp only [Go.Act.put, List.setIfInBounds_toArray, List.set_cons_zero, List.set_cons_succ]
              refine wpAnyH_take (i := 11) (oi := ?oia11) (v := .pointer (some ⟨gb, ob + (j + 1) * 7, none⟩)) ?hia11 (by kernel_rfl) (by kernel_rfl) (by kernel_rfl) ?hqa11 ?hya11 hHeld ?resta11
              case hia11 => simp only [List.getElem?_toArray, List.getElem?_cons_succ, List.getElem?_cons_zero, Option.some.injEq]; rfl
              case hqa11 => exact fun _ _ _ h => h
              case hya11 =>
                refine Or.inl ⟨by kernel_rfl, fun V hV => ?_⟩
                clear hV
                go_simp
              try simp only [Go.Act.put, List.setIfInBounds_toArray, List.set_cons_zero, List.set_cons_succ]
              refine wpAnyH_take (i := 12) (oi := ?oia12) (v := .int .i64 tj) ?hia12 (by kernel_rfl) (by kernel_rfl) (by kernel_rfl) ?hqa12 ?hya12 hHeld ?resta12
              case hia12 => simp only [List.getElem?_toArray, List.getElem?_cons_succ, List.getElem?_cons_zero, Option.some.injEq]; rfl
              case hqa12 => exact fun _ _ _ h => h
              case hya12 =>
                refine Or.inl ⟨by kernel_rfl, fun V hV => ?_⟩
                have qq := hV.cell cj.out (by simp); clear hV
                go_simp
              try simp only [Go.Act.put, List.setIfInBounds_toArray, List.set_cons_zero, List.set_cons_succ]
              refine wpAnyH_take (i := 13) (oi := ?oia13) (v := .int .i64 (tj - 1)) ?hia13 (by kernel_rfl) (by kernel_rfl) (by kernel_rfl) ?hqa13 ?hya13 hHeld ?resta13
              case hia13 => simp only [List.getElem?_toArray, List.getElem?_cons_succ, List.getElem?_cons_zero, Option.some.injEq]; rfl
              case hqa13 => exact fun _ _ _ h => h
              case hya13 =>
                refine Or.inl ⟨by kernel_rfl, fun V hV => ?_⟩
                clear hV
                go_simp
              try simp only [Go.Act.put, List.setIfInBounds_toArray, List.set_cons_zero, List.set_cons_succ]
              refine wpAnyH_take (i := 14) (oi := ?oia14) (v := .agg #[.int .i64 ti, .int .i64 (tj - 1)]) ?hia14 (by kernel_rfl) (by kernel_rfl) (by kernel_rfl) ?hqa14 ?hya14 hHeld ?resta14
              case hia14 => simp only [List.getElem?_toArray, List.getElem?_cons_succ, List.getElem?_cons_zero, Option.some.injEq]; rfl
              case hqa14 => exact fun _ _ _ h => h
              case hya14 =>
                refine Or.inl ⟨by kernel_rfl, fun V hV => ?_⟩
                clear hV
                go_simp
              try simp only [Go.Act.put, List.setIfInBounds_toArray, List.set_cons_zero, List.set_cons_succ]
              refine wpAnyH_ready (rs := [15]) (by kernel_rfl) (by simp) ?_
              refine AllReadyH.cons rfl (fun K hK => ?_) AllReadyH.nil
              go_simp
              refine hK.out _ _ (grown_trans (show wq.grownBy wq.drew none from ⟨rfl, rfl, rfl, Nat.le_refl _, fun _ _ _ => rfl⟩) (World.grownBy_alloc _ _ _)) (fun hHeld1 => ?_)
              clear hK K
              try simp only [Go.Act.put, List.setIfInBounds_toArray, List.set_cons_zero, List.set_cons_succ]
              have hb0 : (wq.drew.alloc (.cells #[.int .i64 0, .int .i64 0] 45)).heap[wq.heap.size]? = some (.cells #[.int .i64 0, .int .i64 0] 45 (0, 0)) := World.alloc_heap_new wq.drew _
              have z0 : (wq.drew.alloc (.cells #[.int .i64 0, .int .i64 0] 45)).frozen? ⟨wq.heap.size, 0, none⟩ = false := mblock_free hb0
              have z1 : (wq.drew.alloc (.cells #[.int .i64 0, .int .i64 0] 45)).frozen? ⟨wq.heap.size, 1, none⟩ = false := mblock_free hb0
              have zc0 : (wq.drew.alloc (.cells #[.int .i64 0, .int .i64 0] 45)).cell? ⟨wq.heap.size, 0, none⟩ = some (.int .i64 0) := mblock_cell hb0 0 _ rfl
              have zc1 : (wq.drew.alloc (.cells #[.int .i64 0, .int .i64 0] 45)).cell? ⟨wq.heap.size, 1, none⟩ = some (.int .i64 0) := mblock_cell hb0 1 _ rfl
              refine wpAnyH_ready (rs := [16]) (by kernel_rfl) (by simp) ?_
              refine AllReadyH.cons rfl (fun K hK => ?_) AllReadyH.nil
              go_simp
              have hgS : wq.grownBy ((wq.alloc (.cells #[.int .i64 ti, .int .i64 (tj - 1)] 45)).drew) none := grown_trans (World.grownBy_alloc _ _ _) ⟨rfl, rfl, rfl, Nat.le_refl _, fun _ _ _ => rfl⟩
              refine hK.out _ _ hgS (fun hHeld2 => ?_)
              clear hK K
              try simp only [Go.Act.put, List.setIfInBounds_toArray, List.set_cons_zero, List.set_cons_succ]
              refine wpAnyH_done (by kernel_rfl) ?_ _
              refine NoPanic.normal ?_
              have hbS2 : ((wq.alloc (.cells #[.int .i64 ti, .int .i64 (tj - 1)] 45)).drew).heap[wq.heap.size]? = some (.cells #[.int .i64 ti, .int .i64 (tj - 1)] 45 (0, 0)) := World.alloc_heap_new wq _
              clear hHeld hHeld1 hb0 z0 z1 zc0 zc1 ci cj hgS
              generalize (wq.alloc (.cells #[.int .i64 ti, .int .i64 (tj - 1)] 45)).drew = WS at *
              have hgS := hHeld2
              have hbS := hbS2
              clear hHeld2 hbS2
              have x0 : WS.cell? ⟨wq.heap.size, 0, none⟩ = some (.int .i64 ti) := mblock_cell hbS 0 _ rfl
              have x1 : WS.cell? ⟨wq.heap.size, 1, none⟩ = some (.int .i64 (tj - 1)) := mblock_cell hbS 1 _ rfl
              have HGS : Hid (w.grownBy WS none) := grown_trans hg.out hgS
              have HBS : Hid (WS.heap[w.heap.size]? = some (.cells #[.string nm, .int .i64 sp, .int .i64 st, .slice (some ⟨gb, ob, none⟩) ss.length sc, .slice lo ls.length lc, .slice to_ ts.length tc] 26 (0, 0))) := mblock_at hbx.out hgS (by simp)
              have HOS := Lib.hid (keptR ho.out hgS)
              have hi := HI0.out; have hz0 := HZ0.out; have hz1 := HZ1.out; have hz2 := HZ2.out
              clear hbS hgS hg b3 hbx ho
              by_cases hk : least ≤ tj - 1 - ti + 1
              · have HKP : Hid (restL (tmS ss) M least (j + 1) = restL (tmS ss) M least i ++ [⟨ti, tj - 1⟩]) := by
                  show _ = _
                  rw [HSN.out, if_pos]
                  unfold keepR
                  first | (simp; done) | (simp; omega)
                have hrl := HRL.out
                generalize restL (tmS ss) M least i = L0 at *
                clear HSN HRL
                have hsz := HGS.out.size
                go_wp2_with (at_builtin; refine wpList_append_own _ rfl _ _ 37 rfl w.heap.size 45 i0 (.agg #[.int .i64 0, .int .i64 0]) 2 16 Try.underlying37 hi hz0 hz1 hz2 rfl (by decide) v L0.length _ rfl (HOS.out.alloc _) ⟨WS.heap.size, 0, none⟩ 1 1 [.int .i64 ti, .int .i64 (tj - 1)] rfl rfl (World.news_of_block (cs := #[.int .i64 ti, .int .i64 (tj - 1)]) (t := 45) (fr := (0, 0)) (World.alloc_heap_new WS _)) (by simp [Value.oneCell']) (by unfold maxLen; omega) (by omega) (by simp; omega) ?_; intro v' w8 hown' hgrow' _)
                have hlt2 := HOS.out.lt
                have GN : Hid (w.grownBy w8 none) := grown_appR HGS.out hgrow' (fun g e => (hlt2 g e).1)
                have HB8 : Hid (w8.heap[w.heap.size]? = some (.cells #[.string nm, .int .i64 sp, .int .i64 st, .slice (some ⟨gb, ob, none⟩) ss.length sc, .slice lo ls.length lc, .slice to_ ts.length tc] 26 (0, 0))) := mblock_at (mblock_at HBS.out (World.grownBy_alloc WS _ none) (by simp)) hgrow' (fun e => own_far HOS.out HBS.out (by decide) e.symm)
                have HO9 : Hid (w8.ownsRow w.heap.size 45 2 v' (restL (tmS ss) M least (j + 1)).length ((restL (tmS ss) M least (j + 1)).flatMap spCs)) := by
                  show World.ownsRow _ _ _ _ _ _ _
                  rw [HKP.out, List.length_append, mflat_snoc]; exact hown'
                clear hown' hgrow' hlt2 x0 x1 hsz
                go_wp2_with fail
                go_roundw
                case rel => exact ⟨j + 1, _, by omega, rfl, by go_num, HFR.out, GN.out, HB8.out, HO9.out⟩
                case measure => simp [intOf]; omega
              · have HKP : Hid (restL (tmS ss) M least (j + 1) = restL (tmS ss) M least i) := by
                  show _ = _
                  rw [HSN.out, if_neg]
                  · simp
                  · unfold keepR
                    first | (simp; done) | (simp; omega)
                clear HSN HRL
                go_wp2_with fail
                go_roundw
                case rel => exact ⟨j + 1, _, by omega, rfl, by go_num, HFR.out, HGS.out, HBS.out, by show World.ownsRow _ _ _ _ _ _ _; rw [HKP.out]; exact HOS.out⟩
                case measure => simp [intOf]; omega
            · have HALL2 : Hid (∀ t, i ≤ t → t ≤ j + 1 → M t = true) := fun t h1 h2 => by
                by_cases h : t = j + 1
                · rw [h]; exact HQ2.out
                · exact hall.out t h1 (by omega)
              go_wp2_with fail
              go_roundw
              case rel => exact ⟨by first | rfl | trivial, j + 1, by omega, hj1, by go_num, HALL2.out⟩
              case measure => simp [intOf]; omega
          · have HST : Hid (j + 1 < n → M (j + 1) = false) := fun h => absurd h hj1
            have hj2 : ¬ (j : Int) + 1 < (n : Int) := by omega
            clear ln1
            go_wp2_with fail
            obtain ⟨gb, ob, rfl, hc⟩ := smps_at1 HSA.out (by have := HN.out; omega)
            have hiL : i < ss.length := by have := HN.out; omega
            have hjL : j + 1 < ss.length := by have := HN.out; omega
            obtain ⟨ti, hti⟩ : ∃ t, tmS ss i = t := ⟨_, rfl⟩
            obtain ⟨tj, htj⟩ : ∃ t, tmS ss (j + 1) = t := ⟨_, rfl⟩
            have bi := HS.out.inn i hiL; have bj := HS.out.inn (j + 1) hjL
            have bti : 0 ≤ ti ∧ ti ≤ 1000000 := by rw [← hti]; exact ⟨bi.1, bi.2.1⟩
            have btj : 0 ≤ tj ∧ tj ≤ 1000000 := by rw [← htj]; exact ⟨bj.1, bj.2.1⟩
            have ci : Hid (wq.cell? ⟨gb, ob + i * 7, none⟩ = some (.int .i64 ti)) := by
              have q := grown_cell hg.out (hc i hiL).1
              rw [← smpD_at hiL] at q
              show _ = _
              rw [q, ← hti]; rfl
            have cj : Hid (wq.cell? ⟨gb, ob + (j + 1) * 7, none⟩ = some (.int .i64 tj)) := by
              have q := grown_cell hg.out (hc (j + 1) hjL).1
              rw [← smpD_at hjL] at q
              show _ = _
              rw [q, ← htj]; rfl
            have b3 : Hid (wq.cell? ⟨w.heap.size, 3, none⟩ = some (.slice (some ⟨gb, ob, none⟩) ss.length sc)) := mblock_cell hbx.out 3 _ rfl
            have w1 : IntKind.i64.wrap (tj - 1) = tj - 1 := IntWalk.i64_in _ (by omega)
            have w2 : IntKind.i64.wrap (tj - 1 - ti) = tj - 1 - ti := IntWalk.i64_in _ (by omega)
            have w3 : IntKind.i64.wrap (tj - 1 - ti + 1) = tj - 1 - ti + 1 := IntWalk.i64_in _ (by omega)
            have w4 : IntKind.i64.wrap ((j : Int) + 1) = (j : Int) + 1 := IntWalk.i64_in _ (by omega)
            have q1 : (0 : Int) ≤ (i : Int) := by omega
            have q2 : (i : Int) < (ss.length : Int) := by omega
            have q3 : (0 : Int) ≤ (j : Int) + 1 := by omega
            have q4 : (j : Int) + 1 < (ss.length : Int) := by omega
            have e1 : ((j + 1 : Nat) : Int) = (j : Int) + 1 := by omega
            have hT := HT.out
            have HSN : Hid (restL (tmS ss) M least (j + 1) = restL (tmS ss) M least i ++ (if keepR least ⟨ti, tj - 1⟩ = true then [⟨ti, tj - 1⟩] else [])) := by
              show _ = _
              unfold restL
              rw [row_run hT HF.out j hij hjn hall.out, List.filter_append, hti, htj]
              congr 1
              by_cases h : keepR least ⟨ti, tj - 1⟩ = true <;> simp [h]
            have HFR : Hid (j + 1 < n → M (j + 1) = true → j + 1 = 0 ∨ M (j + 1 - 1) = false) := fun h1 h2 => by
              have := HST.out h1
              rw [h2] at this; cases this
            have HRL : Hid ((restL (tmS ss) M least i).length ≤ 20000) := by
              show _ ≤ _
              have := rest_len (M := M) (n := i) (fun k hk => hT k (by omega)) least
              omega
            have HTI := Lib.hid hti; have HTJ := Lib.hid htj
            clear hc bi bj hti htj hT hall HF HST HQ HMC
            refine wp_region_noPanic ?_
            refine wp_region_held_drew (S := fun V => World.grownBy wq V none) (by kernel_rfl) (⟨rfl, rfl, rfl, Nat.le_refl _, fun _ _ _ => rfl⟩) (fun hHeld => ?_)
            refine wpAnyH_take (i := 0) (oi := ?oib0) (v := .pointer (some ⟨w.heap.size, 3, none⟩)) ?hib0 (by kernel_rfl) (by kernel_rfl) (by kernel_rfl) ?hqb0 ?hyb0 hHeld ?restb0
            case hib0 => simp only [List.getElem?_toArray, List.getElem?_cons_succ, List.getElem?_cons_zero, Option.some.injEq]; rfl
            case hqb0 => exact fun _ _ _ h => h
            case hyb0 =>
              refine Or.inl ⟨by kernel_rfl, fun V hV => ?_⟩
              clear hV
              go_simp
            try simp only [Go.Act.put, List.setIfInBounds_toArray, List.set_cons_zero, List.set_cons_succ]
            refine wpAnyH_take (i := 1) (oi := ?oib1) (v := .slice (some ⟨gb, ob, none⟩) ss.length sc) ?hib1 (by kernel_rfl) (by kernel_rfl) (by kernel_rfl) ?hqb1 ?hyb1 hHeld ?restb1
            case hib1 => simp only [List.getElem?_toArray, List.getElem?_cons_succ, List.getElem?_cons_zero, Option.some.injEq]; rfl
            case hqb1 => exact fun _ _ _ h => h
            case hyb1 =>
              refine Or.inl ⟨by kernel_rfl, fun V hV => ?_⟩
              have qq := hV.cell b3.out (by simp); clear hV
              go_simp
            try simp only [Go.Act.put, List.setIfInBounds_toArray, List.set_cons_zero, List.set_cons_succ]
            refine wpAnyH_take (i := 2) (oi := ?oib2) (v := .int .i64 (i : Int)) ?hib2 (by kernel_rfl) (by kernel_rfl) (by kernel_rfl) ?hqb2 ?hyb2 hHeld ?restb2
            case hib2 => simp only [List.getElem?_toArray, List.getElem?_cons_succ, List.getElem?_cons_zero, Option.some.injEq]; rfl
            case hqb2 => exact fun _ _ _ h => h
            case hyb2 =>
              refine Or.inl ⟨by kernel_rfl, fun V hV => ?_⟩
              clear hV
              go_simp
            try simp only [Go.Act.put, List.setIfInBounds_toArray, List.set_cons_zero, List.set_cons_succ]
            refine wpAnyH_take (i := 3) (oi := ?oib3) (v := .pointer (some ⟨gb, ob + i * 7, none⟩)) ?hib3 (by kernel_rfl) (by kernel_rfl) (by kernel_rfl) ?hqb3 ?hyb3 hHeld ?restb3
            case hib3 => simp only [List.getElem?_toArray, List.getElem?_cons_succ, List.getElem?_cons_zero, Option.some.injEq]; rfl
            case hqb3 => exact fun _ _ _ h => h
            case hyb3 =>
              refine Or.inl ⟨by kernel_rfl, fun V hV => ?_⟩
              clear hV
              go_simp
            try simp only [Go.Act.put, List.setIfInBounds_toArray, List.set_cons_zero, List.set_cons_succ]
            refine wpAnyH_take (i := 4) (oi := ?oib4) (v := .pointer (some ⟨gb, ob + i * 7, none⟩)) ?hib4 (by kernel_rfl) (by kernel_rfl) (by kernel_rfl) ?hqb4 ?hyb4 hHeld ?restb4
            case hib4 => simp only [List.getElem?_toArray, List.getElem?_cons_succ, List.getElem?_cons_zero, Option.some.injEq]; rfl
            case hqb4 => exact fun _ _ _ h => h
            case hyb4 =>
              refine Or.inl ⟨by kernel_rfl, fun V hV => ?_⟩
              clear hV
              go_simp
            try simp only [Go.Act.put, List.setIfInBounds_toArray, List.set_cons_zero, List.set_cons_succ]
            refine wpAnyH_take (i := 5) (oi := ?oib5) (v := .int .i64 ti) ?hib5 (by kernel_rfl) (by kernel_rfl) (by kernel_rfl) ?hqb5 ?hyb5 hHeld ?restb5
            case hib5 => simp only [List.getElem?_toArray, List.getElem?_cons_succ, List.getElem?_cons_zero, Option.some.injEq]; rfl
            case hqb5 => exact fun _ _ _ h => h
            case hyb5 =>
              refine Or.inl ⟨by kernel_rfl, fun V hV => ?_⟩
              have qq := hV.cell ci.out (by simp); clear hV
              go_simp
            try simp only [Go.Act.put, List.setIfInBounds_toArray, List.set_cons_zero, List.set_cons_succ]
            refine wpAnyH_take (i := 6) (oi := ?oib6) (v := .pointer (some ⟨w.heap.size, 3, none⟩)) ?hib6 (by kernel_rfl) (by kernel_rfl) (by kernel_rfl) ?hqb6 ?hyb6 hHeld ?restb6
            case hib6 => simp only [List.getElem?_toArray, List.getElem?_cons_succ, List.getElem?_cons_zero, Option.some.injEq]; rfl
            case hqb6 => exact fun _ _ _ h => h
            case hyb6 =>
              refine Or.inl ⟨by kernel_rfl, fun V hV => ?_⟩
              clear hV
              go_simp
            try simp only [Go.Act.put, List.setIfInBounds_toArray, List.set_cons_zero, List.set_cons_succ]
            refine wpAnyH_take (i := 7) (oi := ?oib7) (v := .slice (some ⟨gb, ob, none⟩) ss.length sc) ?hib7 (by kernel_rfl) (by kernel_rfl) (by kernel_rfl) ?hqb7 ?hyb7 hHeld ?restb7
            case hib7 => simp only [List.getElem?_toArray, List.getElem?_cons_succ, List.getElem?_cons_zero, Option.some.injEq]; rfl
            case hqb7 => exact fun _ _ _ h => h
            case hyb7 =>
              refine Or.inl ⟨by kernel_rfl, fun V hV => ?_⟩
              have qq := hV.cell b3.out (by simp); clear hV
              go_simp
            try simp only [Go.Act.put, List.setIfInBounds_toArray, List.set_cons_zero, List.set_cons_succ]
            refine wpAnyH_take (i := 8) (oi := ?oib8) (v := .int .i64 (j : Int)) ?hib8 (by kernel_rfl) (by kernel_rfl) (by kernel_rfl) ?hqb8 ?hyb8 hHeld ?restb8
            case hib8 => simp only [List.getElem?_toArray, List.getElem?_cons_succ, List.getElem?_cons_zero, Option.some.injEq]; rfl
            case hqb8 => exact fun _ _ _ h => h
            case hyb8 =>
              refine Or.inl ⟨by kernel_rfl, fun V hV => ?_⟩
              clear hV
              go_simp
            try simp only [Go.Act.put, List.setIfInBounds_toArray, List.set_cons_zero, List.set_cons_succ]
            refine wpAnyH_take (i := 9) (oi := ?oib9) (v := .int .i64 ((j : Int) + 1)) ?hib9 (by kernel_rfl) (by kernel_rfl) (by kernel_rfl) ?hqb9 ?hyb9 hHeld ?restb9
            case hib9 => simp only [List.getElem?_toArray, List.getElem?_cons_succ, List.getElem?_cons_zero, Option.some.injEq]; rfl
            case hqb9 => exact fun _ _ _ h => h
            case hyb9 =>
              refine Or.inl ⟨by kernel_rfl, fun V hV => ?_⟩
              clear hV
              go_simp
            try simp only [Go.Act.put, List.setIfInBounds_toArray, List.set_cons_zero, List.set_cons_succ]
            refine wpAnyH_take (i := 10) (oi := ?oib10) (v := .pointer (some ⟨gb, ob + (j + 1) * 7, none⟩)) ?hib10 (by kernel_rfl) (by kernel_rfl) (by kernel_rfl) ?hqb10 ?hyb10 hHeld ?restb10
            case hib10 => simp only [List.getElem?_toArray, List.getElem?_cons_succ, List.getElem?_cons_zero, Option.some.injEq]; rfl
            case hqb10 => exact fun _ _ _ h => h
            case hyb10 =>
              refine Or.inl ⟨by kernel_rfl, fun V hV => ?_⟩
              clear hV
              go_simp
            try simp only [Go.Act.put, List.setIfInBounds_toArray, List.set_cons_zero, List.set_cons_succ]
            refine wpAnyH_take (i := 11) (oi := ?oib11) (v := .pointer (some ⟨gb, ob + (j + 1) * 7, none⟩)) ?hib11 (by kernel_rfl) (by kernel_rfl) (by kernel_rfl) ?hqb11 ?hyb11 hHeld ?restb11
            case hib11 => simp only [List.getElem?_toArray, List.getElem?_cons_succ, List.getElem?_cons_zero, Option.some.injEq]; rfl
            case hqb11 => exact fun _ _ _ h => h
            case hyb11 =>
              refine Or.inl ⟨by kernel_rfl, fun V hV => ?_⟩
              clear hV
              go_simp
            try simp only [Go.Act.put, List.setIfInBounds_toArray, List.set_cons_zero, List.set_cons_succ]
            refine wpAnyH_take (i := 12) (oi := ?oib12) (v := .int .i64 tj) ?hib12 (by kernel_rfl) (by kernel_rfl) (by kernel_rfl) ?hqb12 ?hyb12 hHeld ?restb12
            case hib12 => simp only [List.getElem?_toArray, List.getElem?_cons_succ, List.getElem?_cons_zero, Option.some.injEq]; rfl
            case hqb12 => exact fun _ _ _ h => h
            case hyb12 =>
              refine Or.inl ⟨by kernel_rfl, fun V hV => ?_⟩
              have qq := hV.cell cj.out (by simp); clear hV
              go_simp
            try simp only [Go.Act.put, List.setIfInBounds_toArray, List.set_cons_zero, List.set_cons_succ]
            refine wpAnyH_take (i := 13) (oi := ?oib13) (v := .int .i64 (tj - 1)) ?hib13 (by kernel_rfl) (by kernel_rfl) (by kernel_rfl) ?hqb13 ?hyb13 hHeld ?restb13
            case hib13 => simp only [List.getElem?_toArray, List.getElem?_cons_succ, List.getElem?_cons_zero, Option.some.injEq]; rfl
            case hqb13 => exact fun _ _ _ h => h
            case hyb13 =>
              refine Or.inl ⟨by kernel_rfl, fun V hV => ?_⟩
              clear hV
              go_simp
            try simp only [Go.Act.put, List.setIfInBounds_toArray, List.set_cons_zero, List.set_cons_succ]
            refine wpAnyH_take (i := 14) (oi := ?oib14) (v := .agg #[.int .i64 ti, .int .i64 (tj - 1)]) ?hib14 (by kernel_rfl) (by kernel_rfl) (by kernel_rfl) ?hqb14 ?hyb14 hHeld ?restb14
            case hib14 => simp only [List.getElem?_toArray, List.getElem?_cons_succ, List.getElem?_cons_zero, Option.some.injEq]; rfl
            case hqb14 => exact fun _ _ _ h => h
            case hyb14 =>
              refine Or.inl ⟨by kernel_rfl, fun V hV => ?_⟩
              clear hV
              go_simp
            try simp only [Go.Act.put, List.setIfInBounds_toArray, List.set_cons_zero, List.set_cons_succ]
            refine wpAnyH_ready (rs := [15]) (by kernel_rfl) (by simp) ?_
            refine AllReadyH.cons rfl (fun K hK => ?_) AllReadyH.nil
            go_simp
            refine hK.out _ _ (grown_trans (show wq.grownBy wq.drew none from ⟨rfl, rfl, rfl, Nat.le_refl _, fun _ _ _ => rfl⟩) (World.grownBy_alloc _ _ _)) (fun hHeld1 => ?_)
            clear hK K
            try simp only [Go.Act.put, List.setIfInBounds_toArray, List.set_cons_zero, List.set_cons_succ]
            have hb0 : (wq.drew.alloc (.cells #[.int .i64 0, .int .i64 0] 45)).heap[wq.heap.size]? = some (.cells #[.int .i64 0, .int .i64 0] 45 (0, 0)) := World.alloc_heap_new wq.drew _
            have z0 : (wq.drew.alloc (.cells #[.int .i64 0, .int .i64 0] 45)).frozen? ⟨wq.heap.size, 0, none⟩ = false := mblock_free hb0
            have z1 : (wq.drew.alloc (.cells #[.int .i64 0, .int .i64 0] 45)).frozen? ⟨wq.heap.size, 1, none⟩ = false := mblock_free hb0
            have zc0 : (wq.drew.alloc (.cells #[.int .i64 0, .int .i64 0] 45)).cell? ⟨wq.heap.size, 0, none⟩ = some (.int .i64 0) := mblock_cell hb0 0 _ rfl
            have zc1 : (wq.drew.alloc (.cells #[.int .i64 0, .int .i64 0] 45)).cell? ⟨wq.heap.size, 1, none⟩ = some (.int .i64 0) := mblock_cell hb0 1 _ rfl
            refine wpAnyH_ready (rs := [16]) (by kernel_rfl) (by simp) ?_
            refine AllReadyH.cons rfl (fun K hK => ?_) AllReadyH.nil
            go_simp
            have hgS : wq.grownBy ((wq.alloc (.cells #[.int .i64 ti, .int .i64 (tj - 1)] 45)).drew) none := grown_trans (World.grownBy_alloc _ _ _) ⟨rfl, rfl, rfl, Nat.le_refl _, fun _ _ _ => rfl⟩
            refine hK.out _ _ hgS (fun hHeld2 => ?_)
            clear hK K
            try simp only [Go.Act.put, List.setIfInBounds_toArray, List.set_cons_zero, List.set_cons_succ]
            refine wpAnyH_done (by kernel_rfl) ?_ _
            refine NoPanic.normal ?_
            have hbS2 : ((wq.alloc (.cells #[.int .i64 ti, .int .i64 (tj - 1)] 45)).drew).heap[wq.heap.size]? = some (.cells #[.int .i64 ti, .int .i64 (tj - 1)] 45 (0, 0)) := World.alloc_heap_new wq _
            clear hHeld hHeld1 hb0 z0 z1 zc0 zc1 ci cj hgS
            generalize (wq.alloc (.cells #[.int .i64 ti, .int .i64 (tj - 1)] 45)).drew = WS at *
            have hgS := hHeld2
            have hbS := hbS2
            clear hHeld2 hbS2
            have x0 : WS.cell? ⟨wq.heap.size, 0, none⟩ = some (.int .i64 ti) := mblock_cell hbS 0 _ rfl
            have x1 : WS.cell? ⟨wq.heap.size, 1, none⟩ = some (.int .i64 (tj - 1)) := mblock_cell hbS 1 _ rfl
            have HGS : Hid (w.grownBy WS none) := grown_trans hg.out hgS
            have HBS : Hid (WS.heap[w.heap.size]? = some (.cells #[.string nm, .int .i64 sp, .int .i64 st, .slice (some ⟨gb, ob, none⟩) ss.length sc, .slice lo ls.length lc, .slice to_ ts.length tc] 26 (0, 0))) := mblock_at hbx.out hgS (by simp)
            have HOS := Lib.hid (keptR ho.out hgS)
            have hi := HI0.out; have hz0 := HZ0.out; have hz1 := HZ1.out; have hz2 := HZ2.out
            clear hbS hgS hg b3 hbx ho
            by_cases hk : least ≤ tj - 1 - ti + 1
            · have HKP : Hid (restL (tmS ss) M least (j + 1) = restL (tmS ss) M least i ++ [⟨ti, tj - 1⟩]) := by
                show _ = _
                rw [HSN.out, if_pos]
                unfold keepR
                first | (simp; done) | (simp; omega)
              have hrl := HRL.out
              generalize restL (tmS ss) M least i = L0 at *
              clear HSN HRL
              have hsz := HGS.out.size
              go_wp2_with (at_builtin; refine wpList_append_own _ rfl _ _ 37 rfl w.heap.size 45 i0 (.agg #[.int .i64 0, .int .i64 0]) 2 16 Try.underlying37 hi hz0 hz1 hz2 rfl (by decide) v L0.length _ rfl (HOS.out.alloc _) ⟨WS.heap.size, 0, none⟩ 1 1 [.int .i64 ti, .int .i64 (tj - 1)] rfl rfl (World.news_of_block (cs := #[.int .i64 ti, .int .i64 (tj - 1)]) (t := 45) (fr := (0, 0)) (World.alloc_heap_new WS _)) (by simp [Value.oneCell']) (by unfold maxLen; omega) (by omega) (by simp; omega) ?_; intro v' w8 hown' hgrow' _)
              have hlt2 := HOS.out.lt
              have GN : Hid (w.grownBy w8 none) := grown_appR HGS.out hgrow' (fun g e => (hlt2 g e).1)
              have HB8 : Hid (w8.heap[w.heap.size]? = some (.cells #[.string nm, .int .i64 sp, .int .i64 st, .slice (some ⟨gb, ob, none⟩) ss.length sc, .slice lo ls.length lc, .slice to_ ts.length tc] 26 (0, 0))) := mblock_at (mblock_at HBS.out (World.grownBy_alloc WS _ none) (by simp)) hgrow' (fun e => own_far HOS.out HBS.out (by decide) e.symm)
              have HO9 : Hid (w8.ownsRow w.heap.size 45 2 v' (restL (tmS ss) M least (j + 1)).length ((restL (tmS ss) M least (j + 1)).flatMap spCs)) := by
                show World.ownsRow _ _ _ _ _ _ _
                rw [HKP.out, List.length_append, mflat_snoc]; exact hown'
              clear hown' hgrow' hlt2 x0 x1 hsz
              go_wp2_with fail
              go_roundw
              case rel => exact ⟨j + 1, _, by omega, rfl, by go_num, HFR.out, GN.out, HB8.out, HO9.out⟩
              case measure => simp [intOf]; omega
            · have HKP : Hid (restL (tmS ss) M least (j + 1) = restL (tmS ss) M least i) := by
                show _ = _
                rw [HSN.out, if_neg]
                · simp
                · unfold keepR
                  first | (simp; done) | (simp; omega)
              clear HSN HRL
              go_wp2_with fail
              go_roundw
              case rel => exact ⟨j + 1, _, by omega, rfl, by go_num, HFR.out, HGS.out, HBS.out, by show World.ownsRow _ _ _ _ _ _ _; rw [HKP.out]; exact HOS.out⟩
              case measure => simp [intOf]; omega
    · obtain rfl : i = n := by omega
      go_wp2_with fail
      go_ret
      exact ⟨⟨_, rfl, ho.out⟩, hg.out⟩
end Go.Proofs.Ytgkhhfojioepgaa
