/- The contract of the reference's Turned. -/
import Derived.Test.YtnjanjbjhbniiaaMTurnP
import Derived.Test.YtnjanjbjhbniiaaMSeg
import Derived.Deep.AppendLies
import Derived.Deep.RegionHeld3
import Derived.Lib.SliceRun
import Derived.Maps.AppendAt
import Derived.Laws.AppendOwn
import Derived.BigRegion
import Derived.BigQuiet
import Derived.Deep.CutBlock
import Derived.Deep.DeepCutAuto
namespace Go.Proofs.Ytnjanjbjhbniiaa
open Go.RowKit
set_option linter.unusedSimpArgs false
set_option linter.unusedVariables false

attribute [local go_sem] Oper.semAt_some

set_option maxRecDepth 100000 in
set_option maxHeartbeats 6400000 in
theorem rTurned_is (s : Seg) (w : World) (hs : SegAt w s) {E : Int} (hE : Hid (segE s.name s.gs = E)) :
    Calls Try.prog 10 #[s.val] w fun e w' => (∃ ao cap, e = .returned (.tuple #[.agg #[.string (tnN s), .slice ao (tnL s).length cap], .int .i64 E]) ∧ GatesAt w' ao (tnL s)) ∧ w.grownBy w' none := by
  have HS := Lib.hid hs
  obtain ⟨N, hN⟩ : ∃ n, tnN s = n := ⟨_, rfl⟩
  obtain ⟨L, hL⟩ : ∃ n, tnL s = n := ⟨_, rfl⟩
  rw [hN, hL]
  unfold tnN at hN
  unfold tnL at hL
  rw [hE.out] at hN hL
  obtain ⟨nm, go_, gc, gs⟩ := s
  simp only [Seg.val] at *
  have G0 : Hid (w.grownBy ((w.alloc (.cells #[.string nm, .slice go_ gs.length gc] 24)).alloc (.cells #[.string ⟨#[]⟩, .slice none 0 0] 24)) none) := grown_trans (World.grownBy_alloc _ _ _) (World.grownBy_alloc _ _ _)
  have BA : Hid (((w.alloc (.cells #[.string nm, .slice go_ gs.length gc] 24)).alloc (.cells #[.string ⟨#[]⟩, .slice none 0 0] 24)).heap[w.heap.size]? = some (.cells #[.string nm, .slice go_ gs.length gc] 24 (0, 0))) := mblock_at (row := none) (mheap_new w _) (World.grownBy_alloc _ _ _) (by simp)
  have BR : Hid (((w.alloc (.cells #[.string nm, .slice go_ gs.length gc] 24)).alloc (.cells #[.string ⟨#[]⟩, .slice none 0 0] 24)).heap[w.heap.size + 1]? = some (.cells #[.string ⟨#[]⟩, .slice none 0 0] 24 (0, 0))) := by
    have q := mheap_new (w.alloc (.cells #[.string nm, .slice go_ gs.length gc] 24)) (.cells #[.string ⟨#[]⟩, .slice none 0 0] 24)
    rw [show (w.alloc (.cells #[.string nm, .slice go_ gs.length gc] 24)).heap.size = w.heap.size + 1 by simp] at q
    exact q
  by_cases h0 : E = 0
  · rw [if_pos h0] at hN hL
    subst h0; subst hN
    have hlen := gates_in hE.out
    have HLEN := Lib.hid hlen
    have HLL := Lib.hid hL
    obtain ⟨b, off, hgo, qg⟩ := gates_at hs.hg (by show 0 < gs.length; omega)
    simp only at hgo qg
    subst hgo
    have QG := Lib.hid qg
    have rl : IntKind.i64.wrap ((gs.length : Int) - 1) = (gs.length : Int) - 1 := IntWalk.i64_in _ (by omega)
    obtain ⟨i0, hi, hz0, hz1, hz2⟩ := info_parts info_gt
    have HI0 := Lib.hid hi; have HZ0 := Lib.hid hz0; have HZ1 := Lib.hid hz1; have HZ2 := Lib.hid hz2
    clear hs hL hlen qg hi hz0 hz1 hz2
    go_enter Try.func10, Try.ntmps10
    go_wp2_with fail
    generalize ((w.alloc (.cells #[.string nm, .slice (some ⟨b, off, none⟩) gs.length gc] 24)).alloc (.cells #[.string ⟨#[]⟩, .slice none 0 0] 24)) = w0 at *
    refine (rcheckSeg_is ⟨nm, some ⟨b, off, none⟩, gc, gs⟩ _ (HS.out.grown G0.out) hE).mono ?_; rintro e w1 ⟨rfl, hg1⟩
    have G1 := Lib.hid (grown_trans G0.out hg1)
    have BA1 := Lib.hid (mblock_at BA.out hg1 (by simp)); have BR1 := Lib.hid (mblock_at BR.out hg1 (by simp))
    have a0 := mblock_cell BA1.out 0 _ rfl; have a1 := mblock_cell BA1.out 1 _ rfl
    clear hg1 BA BR G0
    go_upto_region 5 with (fail)
    have G2 := Lib.hid (World.grownBy_alloc w1 (.cells #[.string nm, .slice none 0 0] 24) none)
    have BX2 := Lib.hid (mheap_new w1 (.cells #[.string nm, .slice none 0 0] 24))
    have LX : Hid (w1.heap.size ≤ w1.heap.size) := Nat.le_refl _
    have LX2 : Hid (w1.heap.size + 1 ≤ (w1.alloc (.cells #[.string nm, .slice none 0 0] 24)).heap.size) := by show _ ≤ _; simp
    obtain ⟨X, hX⟩ : ∃ X, w1.heap.size = X := ⟨_, rfl⟩
    have HX := Lib.hid hX
    rw [hX] at BX2 LX2
    generalize w1.alloc (.cells #[.string nm, .slice none 0 0] 24) = w2 at *
    rw [hX]
    clear a0 a1
    have a1 := grown_cell G2.out (mblock_cell BA1.out 1 _ rfl)
    clear hX LX
    go_wp2_with fail
    go_loopw [6] (fun iv wr => ∃ (k : Nat) (v : Value), iv = .int .i64 ((gs.length : Int) - 1 - k) ∧ Hid (k ≤ gs.length) ∧ Hid (wr.heap[X]? = some (.cells #[.string nm, v] 24 (0, 0))) ∧ Hid (wr.ownsRow (X + 1) 73 4 v k (gtRw ((turnG gs).take k))) ∧ Hid (w1.grownBy wr none) ∧ Hid (X + 1 ≤ wr.heap.size)) (fun iv _ => (intOf iv + 1).toNat)
    case atStart => exact ⟨0, .slice none 0 0, by simp, Nat.zero_le _, BX2.out, World.ownsRow_nil _ _ _ _, G2.out, LX2.out⟩
    case round =>
      obtain ⟨k, v, rfl, hk, hx, ho, hg, hsz⟩ := hrel
      obtain ⟨wq, rfl⟩ : ∃ W : World, W = wr := ⟨_, rfl⟩
      have hk' := hk.out
      by_cases hlt : k < gs.length
      · obtain ⟨m, hm⟩ : ∃ m, gs.length - 1 - k = m := ⟨_, rfl⟩
        have em : (gs.length : Int) - 1 - (k : Int) = (m : Int) := by omega
        rw [em]
        have m0 : (0 : Int) ≤ (m : Int) := by omega
        have ml : (m : Int) < (gs.length : Int) := by omega
        have rm : IntKind.i64.wrap (m : Int) = (m : Int) := IntWalk.i64_in _ (by have := HLEN.out; omega)
        have rm1 : IntKind.i64.wrap ((m : Int) - 1) = (m : Int) - 1 := IntWalk.i64_in _ (by have := HLEN.out; omega)
        have dm : decide ((0 : Int) ≤ (m : Int)) = true := decide_eq_true m0
        have em1 : (gs.length : Int) - 1 - ((k + 1 : Nat) : Int) = (m : Int) - 1 := by omega
        have hml : m < gs.length := by omega
        obtain ⟨p0, p1, p2, p3⟩ := QG.out m hml
        have hrw := gtRw_take hlt
        simp only [hm] at hrw
        generalize gs[m] = g at *
        obtain ⟨ax, ay, bx, by_⟩ := g
        simp only at p0 p1 p2 p3
        have HRW : Hid (gtRw ((turnG gs).take (k + 1)) = gtRw ((turnG gs).take k) ++ [.int .i64 bx, .int .i64 by_, .int .i64 ax, .int .i64 ay]) := hrw
        have HO := Lib.hid ho.out; have HG := Lib.hid hg.out; have HX1 := Lib.hid hx.out; have HSZ := Lib.hid hsz.out
        have c1 := grown_cell hg.out (mblock_cell BA1.out 1 _ rfl)
        have gq := grown_trans G1.out hg.out
        have q0 := grown_cell gq p0; have q1 := grown_cell gq p1; have q2 := grown_cell gq p2; have q3 := grown_cell gq p3
        have HLT := Lib.hid hlt; have EM1 := Lib.hid em1
        have PP := Lib.hid (And.intro p0 (And.intro p1 (And.intro p2 p3)))
        clear ho hg hx hsz hk hk' hrw p0 p1 p2 p3 gq hlt em em1 hm hml
        go_wp2_with fail
        have gD : wq.grownBy wq.drew none := grown_drewN wq none 1
        have D0 : World.cell? wq.drew ⟨w.heap.size, 1, none⟩ = some (.slice (some ⟨b, off, none⟩) gs.length gc) ∧ World.cell? wq.drew ⟨b, off + m * 4, none⟩ = some (.int .i64 ax) ∧ World.cell? wq.drew ⟨b, off + m * 4 + 1, none⟩ = some (.int .i64 ay) ∧ World.cell? wq.drew ⟨b, off + m * 4 + 2, none⟩ = some (.int .i64 bx) ∧ World.cell? wq.drew ⟨b, off + m * 4 + 3, none⟩ = some (.int .i64 by_) := ⟨grown_cell gD c1, grown_cell gD q0, grown_cell gD q1, grown_cell gD q2, grown_cell gD q3⟩
        have X1 : Hid (wq.drew.heap[X]? = some (.cells #[.string nm, v] 24 (0, 0))) := mblock_at HX1.out gD (by simp)
        have O1 : Hid (wq.drew.ownsRow (X + 1) 73 4 v k (gtRw ((turnG gs).take k))) := HO.out.kept gD (by cases v.ownBlock <;> simp)
        have G1r : Hid (w1.grownBy wq.drew none) := grown_trans HG.out gD
        have S1 : Hid (X + 1 ≤ wq.drew.heap.size) := Nat.le_trans HSZ.out gD.size
        refine region_late (lateK (fun V => World.cell? V ⟨w.heap.size, 1, none⟩ = some (.slice (some ⟨b, off, none⟩) gs.length gc) ∧ World.cell? V ⟨b, off + m * 4, none⟩ = some (.int .i64 ax) ∧ World.cell? V ⟨b, off + m * 4 + 1, none⟩ = some (.int .i64 ay) ∧ World.cell? V ⟨b, off + m * 4 + 2, none⟩ = some (.int .i64 bx) ∧ World.cell? V ⟨b, off + m * 4 + 3, none⟩ = some (.int .i64 by_)) [(18, ⟨X, 1, none⟩, v)]) (by kernel_rfl) ⟨fun _ => mblock_cell X1.out 1 _ rfl, D0⟩ (fun hCu0 hSu0 => ?_)
        clear c1 q0 q1 q2 q3 gD HX1 HO HG HSZ
        generalize wq.drew = V1 at *
        refine wpAnyS_take (i := 0) (oi := ?oiu1) (v := .pointer (some ⟨X, 1, none⟩)) ?hiu1 (by kernel_rfl) (by kernel_rfl) (by kernel_rfl) (lateK_iff (by rfl)) ?hqu1 ?hyu1 hCu0 hSu0 ?restu1
        case hiu1 => simp only [List.getElem?_toArray, List.getElem?_cons_succ, List.getElem?_cons_zero, Option.some.injEq]; rfl
        case hqu1 => exact fun _ _ _ h => h
        case hyu1 =>
          refine Or.inl ⟨by kernel_rfl, fun V hV => ?_⟩
          clear hV
          go_simp
        intro hCu1 hSu1
        clear hCu0 hSu0
        try simp only [Go.Act.put, List.setIfInBounds_toArray, List.set_cons_zero, List.set_cons_succ]
        refine wpAnyS_take (i := 1) (oi := ?oiu2) (v := v) ?hiu2 (by kernel_rfl) (by kernel_rfl) (by kernel_rfl) (lateK_iff (by rfl)) ?hqu2 ?hyu2 hCu1 hSu1 ?restu2
        case hiu2 => simp only [List.getElem?_toArray, List.getElem?_cons_succ, List.getElem?_cons_zero, Option.some.injEq]; rfl
        case hqu2 => exact fun _ _ _ h => h
        case hyu2 =>
          refine Or.inl ⟨by kernel_rfl, fun V hV => ?_⟩
          have e1 := lateK_cell 0 hV rfl rfl (by kernel_rfl); clear hV
          go_simp
        intro hCu2 hSu2
        clear hCu1 hSu1
        try simp only [Go.Act.put, List.setIfInBounds_toArray, List.set_cons_zero, List.set_cons_succ]
        refine wpAnyS_take (i := 2) (oi := ?oiu3) (v := .pointer (some ⟨w.heap.size, 1, none⟩)) ?hiu3 (by kernel_rfl) (by kernel_rfl) (by kernel_rfl) (lateK_iff (by rfl)) ?hqu3 ?hyu3 hCu2 hSu2 ?restu3
        case hiu3 => simp only [List.getElem?_toArray, List.getElem?_cons_succ, List.getElem?_cons_zero, Option.some.injEq]; rfl
        case hqu3 => exact fun _ _ _ h => h
        case hyu3 =>
          refine Or.inl ⟨by kernel_rfl, fun V hV => ?_⟩
          clear hV
          go_simp
        intro hCu3 hSu3
        clear hCu2 hSu2
        try simp only [Go.Act.put, List.setIfInBounds_toArray, List.set_cons_zero, List.set_cons_succ]
        refine wpAnyS_take (i := 3) (oi := ?oiu4) (v := .slice (some ⟨b, off, none⟩) gs.length gc) ?hiu4 (by kernel_rfl) (by kernel_rfl) (by kernel_rfl) (lateK_iff (by rfl)) ?hqu4 ?hyu4 hCu3 hSu3 ?restu4
        case hiu4 => simp only [List.getElem?_toArray, List.getElem?_cons_succ, List.getElem?_cons_zero, Option.some.injEq]; rfl
        case hqu4 => exact fun _ _ _ h => h
        case hyu4 =>
          refine Or.inl ⟨by kernel_rfl, fun V hV => ?_⟩
          obtain ⟨e0, e1, e2, e3, e4⟩ := lateK_g hV; clear hV
          go_simp
        intro hCu4 hSu4
        clear hCu3 hSu3
        try simp only [Go.Act.put, List.setIfInBounds_toArray, List.set_cons_zero, List.set_cons_succ]
        refine wpAnyS_take (i := 4) (oi := ?oiu5) (v := .int .i64 (m : Int)) ?hiu5 (by kernel_rfl) (by kernel_rfl) (by kernel_rfl) (lateK_iff (by rfl)) ?hqu5 ?hyu5 hCu4 hSu4 ?restu5
        case hiu5 => simp only [List.getElem?_toArray, List.getElem?_cons_succ, List.getElem?_cons_zero, Option.some.injEq]; rfl
        case hqu5 => exact fun _ _ _ h => h
        case hyu5 =>
          refine Or.inl ⟨by kernel_rfl, fun V hV => ?_⟩
          clear hV
          go_simp
        intro hCu5 hSu5
        clear hCu4 hSu4
        try simp only [Go.Act.put, List.setIfInBounds_toArray, List.set_cons_zero, List.set_cons_succ]
        refine wpAnyS_take (i := 5) (oi := ?oiu6) (v := .pointer (some ⟨b, off + m * 4, none⟩)) ?hiu6 (by kernel_rfl) (by kernel_rfl) (by kernel_rfl) (lateK_iff (by rfl)) ?hqu6 ?hyu6 hCu5 hSu5 ?restu6
        case hiu6 => simp only [List.getElem?_toArray, List.getElem?_cons_succ, List.getElem?_cons_zero, Option.some.injEq]; rfl
        case hqu6 => exact fun _ _ _ h => h
        case hyu6 =>
          refine Or.inl ⟨by kernel_rfl, fun V hV => ?_⟩
          clear hV
          go_simp
        intro hCu6 hSu6
        clear hCu5 hSu5
        try simp only [Go.Act.put, List.setIfInBounds_toArray, List.set_cons_zero, List.set_cons_succ]
        refine wpAnyS_take (i := 6) (oi := ?oiu7) (v := .pointer (some ⟨b, off + m * 4 + 2, none⟩)) ?hiu7 (by kernel_rfl) (by kernel_rfl) (by kernel_rfl) (lateK_iff (by rfl)) ?hqu7 ?hyu7 hCu6 hSu6 ?restu7
        case hiu7 => simp only [List.getElem?_toArray, List.getElem?_cons_succ, List.getElem?_cons_zero, Option.some.injEq]; rfl
        case hqu7 => exact fun _ _ _ h => h
        case hyu7 =>
          refine Or.inl ⟨by kernel_rfl, fun V hV => ?_⟩
          clear hV
          go_simp
        intro hCu7 hSu7
        clear hCu6 hSu6
        try simp only [Go.Act.put, List.setIfInBounds_toArray, List.set_cons_zero, List.set_cons_succ]
        refine wpAnyS_take (i := 7) (oi := ?oiu8) (v := .agg #[.int .i64 bx, .int .i64 by_]) ?hiu8 (by kernel_rfl) (by kernel_rfl) (by kernel_rfl) (lateK_iff (by rfl)) ?hqu8 ?hyu8 hCu7 hSu7 ?restu8
        case hiu8 => simp only [List.getElem?_toArray, List.getElem?_cons_succ, List.getElem?_cons_zero, Option.some.injEq]; rfl
        case hqu8 => exact fun _ _ _ h => h
        case hyu8 =>
          refine Or.inl ⟨by kernel_rfl, fun V hV => ?_⟩
          obtain ⟨e0, e1, e2, e3, e4⟩ := lateK_g hV; clear hV
          go_simp
        intro hCu8 hSu8
        clear hCu7 hSu7
        try simp only [Go.Act.put, List.setIfInBounds_toArray, List.set_cons_zero, List.set_cons_succ]
        refine wpAnyS_take (i := 8) (oi := ?oiu9) (v := .pointer (some ⟨w.heap.size, 1, none⟩)) ?hiu9 (by kernel_rfl) (by kernel_rfl) (by kernel_rfl) (lateK_iff (by rfl)) ?hqu9 ?hyu9 hCu8 hSu8 ?restu9
        case hiu9 => simp only [List.getElem?_toArray, List.getElem?_cons_succ, List.getElem?_cons_zero, Option.some.injEq]; rfl
        case hqu9 => exact fun _ _ _ h => h
        case hyu9 =>
          refine Or.inl ⟨by kernel_rfl, fun V hV => ?_⟩
          clear hV
          go_simp
        intro hCu9 hSu9
        clear hCu8 hSu8
        try simp only [Go.Act.put, List.setIfInBounds_toArray, List.set_cons_zero, List.set_cons_succ]
        refine wpAnyS_take (i := 9) (oi := ?oiu10) (v := .slice (some ⟨b, off, none⟩) gs.length gc) ?hiu10 (by kernel_rfl) (by kernel_rfl) (by kernel_rfl) (lateK_iff (by rfl)) ?hqu10 ?hyu10 hCu9 hSu9 ?restu10
        case hiu10 => simp only [List.getElem?_toArray, List.getElem?_cons_succ, List.getElem?_cons_zero, Option.some.injEq]; rfl
        case hqu10 => exact fun _ _ _ h => h
        case hyu10 =>
          refine Or.inl ⟨by kernel_rfl, fun V hV => ?_⟩
          obtain ⟨e0, e1, e2, e3, e4⟩ := lateK_g hV; clear hV
          go_simp
        intro hCu10 hSu10
        clear hCu9 hSu9
        try simp only [Go.Act.put, List.setIfInBounds_toArray, List.set_cons_zero, List.set_cons_succ]
        refine wpAnyS_take (i := 10) (oi := ?oiu11) (v := .int .i64 (m : Int)) ?hiu11 (by kernel_rfl) (by kernel_rfl) (by kernel_rfl) (lateK_iff (by rfl)) ?hqu11 ?hyu11 hCu10 hSu10 ?restu11
        case hiu11 => simp only [List.getElem?_toArray, List.getElem?_cons_succ, List.getElem?_cons_zero, Option.some.injEq]; rfl
        case hqu11 => exact fun _ _ _ h => h
        case hyu11 =>
          refine Or.inl ⟨by kernel_rfl, fun V hV => ?_⟩
          clear hV
          go_simp
        intro hCu11 hSu11
        clear hCu10 hSu10
        try simp only [Go.Act.put, List.setIfInBounds_toArray, List.set_cons_zero, List.set_cons_succ]
        refine wpAnyS_take (i := 11) (oi := ?oiu12) (v := .pointer (some ⟨b, off + m * 4, none⟩)) ?hiu12 (by kernel_rfl) (by kernel_rfl) (by kernel_rfl) (lateK_iff (by rfl)) ?hqu12 ?hyu12 hCu11 hSu11 ?restu12
        case hiu12 => simp only [List.getElem?_toArray, List.getElem?_cons_succ, List.getElem?_cons_zero, Option.some.injEq]; rfl
        case hqu12 => exact fun _ _ _ h => h
        case hyu12 =>
          refine Or.inl ⟨by kernel_rfl, fun V hV => ?_⟩
          clear hV
          go_simp
        intro hCu12 hSu12
        clear hCu11 hSu11
        try simp only [Go.Act.put, List.setIfInBounds_toArray, List.set_cons_zero, List.set_cons_succ]
        refine wpAnyS_take (i := 12) (oi := ?oiu13) (v := .pointer (some ⟨b, off + m * 4, none⟩)) ?hiu13 (by kernel_rfl) (by kernel_rfl) (by kernel_rfl) (lateK_iff (by rfl)) ?hqu13 ?hyu13 hCu12 hSu12 ?restu13
        case hiu13 => simp only [List.getElem?_toArray, List.getElem?_cons_succ, List.getElem?_cons_zero, Option.some.injEq]; rfl
        case hqu13 => exact fun _ _ _ h => h
        case hyu13 =>
          refine Or.inl ⟨by kernel_rfl, fun V hV => ?_⟩
          clear hV
          go_simp
        intro hCu13 hSu13
        clear hCu12 hSu12
        try simp only [Go.Act.put, List.setIfInBounds_toArray, List.set_cons_zero, List.set_cons_succ]
        refine wpAnyS_take (i := 13) (oi := ?oiu14) (v := .agg #[.int .i64 ax, .int .i64 ay]) ?hiu14 (by kernel_rfl) (by kernel_rfl) (by kernel_rfl) (lateK_iff (by rfl)) ?hqu14 ?hyu14 hCu13 hSu13 ?restu14
        case hiu14 => simp only [List.getElem?_toArray, List.getElem?_cons_succ, List.getElem?_cons_zero, Option.some.injEq]; rfl
        case hqu14 => exact fun _ _ _ h => h
        case hyu14 =>
          refine Or.inl ⟨by kernel_rfl, fun V hV => ?_⟩
          obtain ⟨e0, e1, e2, e3, e4⟩ := lateK_g hV; clear hV
          go_simp
        intro hCu14 hSu14
        clear hCu13 hSu13
        try simp only [Go.Act.put, List.setIfInBounds_toArray, List.set_cons_zero, List.set_cons_succ]
        refine wpAnyS_take (i := 14) (oi := ?oiu15) (v := .agg #[.int .i64 bx, .int .i64 by_, .int .i64 ax, .int .i64 ay]) ?hiu15 (by kernel_rfl) (by kernel_rfl) (by kernel_rfl) (lateK_iff (by rfl)) ?hqu15 ?hyu15 hCu14 hSu14 ?restu15
        case hiu15 => simp only [List.getElem?_toArray, List.getElem?_cons_succ, List.getElem?_cons_zero, Option.some.injEq]; rfl
        case hqu15 => exact fun _ _ _ h => h
        case hyu15 =>
          refine Or.inl ⟨by kernel_rfl, fun V hV => ?_⟩
          clear hV
          go_simp
        intro hCu15 hSu15
        clear hCu14 hSu14
        try simp only [Go.Act.put, List.setIfInBounds_toArray, List.set_cons_zero, List.set_cons_succ]
        refine wpAnyS_ready (rs := [15]) (by kernel_rfl) (by simp) ?_
        refine AllReadyS.cons rfl hCu15 (fun K hK => ?_) AllReadyS.nil
        go_simp
        have ga := World.grownBy_alloc V1 (.cells #[.int .i64 bx, .int .i64 by_, .int .i64 ax, .int .i64 ay] 73) none
        have D1 : World.cell? (V1.alloc (.cells #[.int .i64 bx, .int .i64 by_, .int .i64 ax, .int .i64 ay] 73)) ⟨w.heap.size, 1, none⟩ = some (.slice (some ⟨b, off, none⟩) gs.length gc) ∧ World.cell? (V1.alloc (.cells #[.int .i64 bx, .int .i64 by_, .int .i64 ax, .int .i64 ay] 73)) ⟨b, off + m * 4, none⟩ = some (.int .i64 ax) ∧ World.cell? (V1.alloc (.cells #[.int .i64 bx, .int .i64 by_, .int .i64 ax, .int .i64 ay] 73)) ⟨b, off + m * 4 + 1, none⟩ = some (.int .i64 ay) ∧ World.cell? (V1.alloc (.cells #[.int .i64 bx, .int .i64 by_, .int .i64 ax, .int .i64 ay] 73)) ⟨b, off + m * 4 + 2, none⟩ = some (.int .i64 bx) ∧ World.cell? (V1.alloc (.cells #[.int .i64 bx, .int .i64 by_, .int .i64 ax, .int .i64 ay] 73)) ⟨b, off + m * 4 + 3, none⟩ = some (.int .i64 by_) := ⟨grown_cell ga D0.1, grown_cell ga D0.2.1, grown_cell ga D0.2.2.1, grown_cell ga D0.2.2.2.1, grown_cell ga D0.2.2.2.2⟩
        have X2 := Lib.hid (mblock_at X1.out ga (by simp))
        have O2 := Lib.hid (O1.out.alloc (.cells #[.int .i64 bx, .int .i64 by_, .int .i64 ax, .int .i64 ay] 73))
        have G2r := Lib.hid (grown_trans G1r.out ga)
        have N2 := mheap_new V1 (.cells #[.int .i64 bx, .int .i64 by_, .int .i64 ax, .int .i64 ay] 73)
        have S2 : Hid (X + 1 ≤ (V1.alloc (.cells #[.int .i64 bx, .int .i64 by_, .int .i64 ax, .int .i64 ay] 73)).heap.size) := Nat.le_trans S1.out ga.size
        refine hK.out _ _ ⟨fun _ => mblock_cell X2.out 1 _ rfl, D1⟩ (fun hCu16 hSu16 => ?_)
        clear hK hCu15 hSu15 K
        clear ga D0 X1 O1 G1r S1
        generalize World.alloc V1 (.cells #[.int .i64 bx, .int .i64 by_, .int .i64 ax, .int .i64 ay] 73) = V2 at *
        generalize V1.heap.size = g7 at *
        try simp only [Go.Act.put, List.setIfInBounds_toArray, List.set_cons_zero, List.set_cons_succ]
        refine wpAnyS_ready (rs := [16]) (by kernel_rfl) (by simp) ?_
        refine AllReadyS.cons rfl hCu16 (fun K hK => ?_) AllReadyS.nil
        refine step_append_lies V2 (by rfl) _ _ 22 (by rfl) (X + 1) 73 i0 _ 4 32 Try.underlying22 HI0.out HZ0.out HZ1.out HZ2.out rfl (by decide) v k (gtRw ((turnG gs).take k)) (by rfl) O2.out ⟨g7, 0, none⟩ 1 1 [.int .i64 bx, .int .i64 by_, .int .i64 ax, .int .i64 ay] (by rfl) (by rfl) (World.news_of_block N2) (by simp [Value.oneCell']) (by decide) (by have := HLT.out; have := HLEN.out; unfold maxLen; omega) (by have := HLT.out; have := HLEN.out; omega) S2.out _ rfl ?_
        intro gg cap V3 ho9 hg9 ha9 hl9
        have rr : ∀ r, v.ownBlock = some r → X < r := fun r hr => by have := (O2.out.lt r hr).1; omega
        have X3 := Lib.hid (mblock_row X2.out hg9 rr)
        have G3r := Lib.hid (mgrown_row2 G2r.out hg9 (fun r hr => by have := rr r hr; have := HX.out; omega))
        have O3 : Hid (V3.ownsRow (X + 1) 73 4 (.slice (some ⟨gg, 0, none⟩) (k + 1) cap) (k + 1) (gtRw ((turnG gs).take (k + 1)))) := by rw [HRW.out]; exact ho9
        have S3 : Hid (X + 1 ≤ V3.heap.size) := Nat.le_trans S2.out hg9.size
        have gq := grown_trans G1.out G3r.out
        have D2 : World.cell? V3 ⟨w.heap.size, 1, none⟩ = some (.slice (some ⟨b, off, none⟩) gs.length gc) ∧ World.cell? V3 ⟨b, off + m * 4, none⟩ = some (.int .i64 ax) ∧ World.cell? V3 ⟨b, off + m * 4 + 1, none⟩ = some (.int .i64 ay) ∧ World.cell? V3 ⟨b, off + m * 4 + 2, none⟩ = some (.int .i64 bx) ∧ World.cell? V3 ⟨b, off + m * 4 + 3, none⟩ = some (.int .i64 by_) := ⟨grown_cell G3r.out (mblock_cell BA1.out 1 _ rfl), grown_cell gq PP.out.1, grown_cell gq PP.out.2.1, grown_cell gq PP.out.2.2.1, grown_cell gq PP.out.2.2.2⟩
        refine hK.out _ _ ⟨fun _ => mblock_cell X3.out 1 _ rfl, D2⟩ (fun hCu17 hSu17 => ?_)
        clear hK hCu16 hSu16 K
        clear ho9 hg9 ha9 hl9 O2 G2r N2 S2 X2 D1 rr gq
        try simp only [Go.Act.put, List.setIfInBounds_toArray, List.set_cons_zero, List.set_cons_succ]
        refine wpAnyS_take (i := 17) (oi := ?oiu18) (v := .pointer (some ⟨X, 1, none⟩)) ?hiu18 (by kernel_rfl) (by kernel_rfl) (by kernel_rfl) (lateK_iff (by rfl)) ?hqu18 ?hyu18 hCu17 hSu17 ?restu18
        case hiu18 => simp only [List.getElem?_toArray, List.getElem?_cons_succ, List.getElem?_cons_zero, Option.some.injEq]; rfl
        case hqu18 => exact fun _ _ _ h => h
        case hyu18 =>
          refine Or.inl ⟨by kernel_rfl, fun V hV => ?_⟩
          clear hV
          go_simp
        intro hCu18 hSu18
        clear hCu17 hSu17
        try simp only [Go.Act.put, List.setIfInBounds_toArray, List.set_cons_zero, List.set_cons_succ]
        refine wpAnyS_ready (rs := [18]) (by kernel_rfl) (by simp) ?_
        refine AllReadyS.cons rfl hCu18 (fun K hK => ?_) AllReadyS.nil
        have x3 := mblock_cell X3.out 1 _ rfl; have f3 := mblock_free (k := 1) X3.out
        go_simp
        have X4 := Lib.hid (mblock_set (k := 1) X3.out (.slice (some ⟨gg, 0, none⟩) (k + 1) cap))
        have O5 := Lib.hid (mown_setR O3.out (show X < X + 1 by omega) 1 (.slice (some ⟨gg, 0, none⟩) (k + 1) cap))
        have G5 := Lib.hid (mgrown_set G3r.out (show w1.heap.size ≤ X by have := HX.out; omega) 1 (.slice (some ⟨gg, 0, none⟩) (k + 1) cap))
        have S5 : Hid (X + 1 ≤ (V3.setCell ⟨X, 1, none⟩ (.slice (some ⟨gg, 0, none⟩) (k + 1) cap)).heap.size) := by show _ ≤ _; have := S3.out; simpa [World.setCell] using this
        have gq := grown_trans G1.out G5.out
        have D3 : World.cell? (V3.setCell ⟨X, 1, none⟩ (.slice (some ⟨gg, 0, none⟩) (k + 1) cap)) ⟨w.heap.size, 1, none⟩ = some (.slice (some ⟨b, off, none⟩) gs.length gc) ∧ World.cell? (V3.setCell ⟨X, 1, none⟩ (.slice (some ⟨gg, 0, none⟩) (k + 1) cap)) ⟨b, off + m * 4, none⟩ = some (.int .i64 ax) ∧ World.cell? (V3.setCell ⟨X, 1, none⟩ (.slice (some ⟨gg, 0, none⟩) (k + 1) cap)) ⟨b, off + m * 4 + 1, none⟩ = some (.int .i64 ay) ∧ World.cell? (V3.setCell ⟨X, 1, none⟩ (.slice (some ⟨gg, 0, none⟩) (k + 1) cap)) ⟨b, off + m * 4 + 2, none⟩ = some (.int .i64 bx) ∧ World.cell? (V3.setCell ⟨X, 1, none⟩ (.slice (some ⟨gg, 0, none⟩) (k + 1) cap)) ⟨b, off + m * 4 + 3, none⟩ = some (.int .i64 by_) := ⟨grown_cell G5.out (mblock_cell BA1.out 1 _ rfl), grown_cell gq PP.out.1, grown_cell gq PP.out.2.1, grown_cell gq PP.out.2.2.1, grown_cell gq PP.out.2.2.2⟩
        refine hK.out _ _ ⟨lateUp (by rfl), D3⟩ (fun hCu19 hSu19 => ?_)
        clear hK hCu18 hSu18 K
        clear x3 f3 X3 O3 G3r S3 D2 gq
        generalize World.setCell V3 ⟨X, 1, none⟩ (.slice (some ⟨gg, 0, none⟩) (k + 1) cap) = V4 at *
        try simp only [Go.Act.put, List.setIfInBounds_toArray, List.set_cons_zero, List.set_cons_succ]
        refine wpAnyS_done (by kernel_rfl) ?_ _
        clear hCu19 hSu19
        go_wp2_with fail
        go_roundw
        case rel => exact ⟨k + 1, _, by rw [EM1.out], HLT.out, X4.out, O5.out, G5.out, S5.out⟩
        case measure => first | (simp [intOf]; done) | (simp [intOf]; omega)
      · have hkE : k = gs.length := by omega
        subst hkE
        have em : (gs.length : Int) - 1 - (gs.length : Int) = -1 := by omega
        rw [em]
        have O9 := ho.out
        rw [turn_all, ← turnG_len gs] at O9
        obtain ⟨ao, cp, hvv, _, hr, hbd⟩ := own_rows (cs := gtCs) (fun _ => rfl) O9
        subst hvv
        have HR := Lib.hid hr
        have HG := Lib.hid hg.out; have HX1 := Lib.hid hx.out
        have BR9 := Lib.hid (mblock_at BR1.out hg.out (by simp))
        have x0 := mblock_cell HX1.out 0 _ rfl; have x1 := mblock_cell HX1.out 1 _ rfl
        have z0 := mblock_cell BR9.out 0 _ rfl; have z1 := mblock_cell BR9.out 1 _ rfl
        have f0 := mblock_free (k := 0) BR9.out; have f1 := mblock_free (k := 1) BR9.out
        have HBD := Lib.hid hbd
        have SZ1 : Hid (w.heap.size + 1 < X) := by have := lt_of_block BR1.out; have := HX.out; show _ < _; omega
        clear ho hg hx hsz hk hk' O9 hr hbd em
        go_wp2_with fail
        have bz := mblock_set (k := 1) (mblock_set (k := 0) BR9.out (.string nm)) (.slice ao (turnG gs).length cp)
        have gz := mgrown_set (mgrown_set (grown_trans G1.out HG.out) (show w.heap.size ≤ w.heap.size + 1 by omega) 0 (.string nm)) (show w.heap.size ≤ w.heap.size + 1 by omega) 1 (.slice ao (turnG gs).length cp)
        have y0 := mblock_cell bz 0 (.string nm) rfl; have y1 := mblock_cell bz 1 (.slice ao (turnG gs).length cp) rfl
        have HRZ : RowsAt gtCs 4 ((wq.setCell ⟨w.heap.size + 1, 0, none⟩ (.string nm)).setCell ⟨w.heap.size + 1, 1, none⟩ (.slice ao (turnG gs).length cp)) ao (turnG gs) := by
          refine ⟨HR.out.nil, HR.out.spot, fun a e j hj i u hu => ?_⟩
          have hb := HBD.out a e
          have := SZ1.out
          rw [World.cell?_setCell_other _ _ _ _ (fun q => by have q2 := congrArg Addr.block q; simp at q2; omega), World.cell?_setCell_other _ _ _ _ (fun q => by have q2 := congrArg Addr.block q; simp at q2; omega)]
          exact HR.out.cells a e j hj i u hu
        generalize ((wq.setCell ⟨w.heap.size + 1, 0, none⟩ (.string nm)).setCell ⟨w.heap.size + 1, 1, none⟩ (.slice ao (turnG gs).length cp)) = w9 at *
        refine bodyPost_ret (v := .tuple #[.agg #[.string nm, .slice ao (turnG gs).length cp], .int .i64 0]) (by simp [results, Try.results10, go_sem, y0, y1]) rfl ⟨⟨ao, cp, by rw [← HLL.out], by rw [← HLL.out]; exact HRZ⟩, gz⟩
  · rw [if_neg h0] at hN hL
    subst hN; subst hL
    have hne : (E != 0) = true := by simpa using h0
    clear h0 hs
    go_enter Try.func10, Try.ntmps10
    go_wp2_with fail
    generalize ((w.alloc (.cells #[.string nm, .slice go_ gs.length gc] 24)).alloc (.cells #[.string ⟨#[]⟩, .slice none 0 0] 24)) = w0 at *
    refine (rcheckSeg_is ⟨nm, go_, gc, gs⟩ _ (HS.out.grown G0.out) hE).mono ?_; rintro e w1 ⟨rfl, hg1⟩
    have G1 := Lib.hid (grown_trans G0.out hg1)
    have BR1 := Lib.hid (mblock_at BR.out hg1 (by simp))
    have z0 := mblock_cell BR1.out 0 _ rfl; have z1 := mblock_cell BR1.out 1 _ rfl
    have f0 := mblock_free (k := 0) BR1.out; have f1 := mblock_free (k := 1) BR1.out
    clear hg1 BA BR G0
    go_wp2_with fail
    have bz := mblock_set (k := 1) (mblock_set (k := 0) BR1.out (.string ⟨#[]⟩)) (.slice none 0 0)
    have gz := mgrown_set (mgrown_set G1.out (show w.heap.size ≤ w.heap.size + 1 by omega) 0 (.string ⟨#[]⟩)) (show w.heap.size ≤ w.heap.size + 1 by omega) 1 (.slice none 0 0)
    have y0 := mblock_cell bz 0 (.string ⟨#[]⟩) rfl; have y1 := mblock_cell bz 1 (.slice none 0 0) rfl
    generalize ((w1.setCell ⟨w.heap.size + 1, 0, none⟩ (.string ⟨#[]⟩)).setCell ⟨w.heap.size + 1, 1, none⟩ (.slice none 0 0)) = w9 at *
    refine bodyPost_ret (v := .tuple #[.agg #[.string ⟨#[]⟩, .slice none 0 0], .int .i64 E]) (by simp [results, Try.results10, go_sem, y0, y1]) rfl ⟨⟨none, 0, rfl, ⟨fun _ => rfl, fun _ _ h => absurd rfl h, fun _ _ _ h => absurd h (Nat.not_lt_zero _)⟩⟩, gz⟩
end Go.Proofs.Ytnjanjbjhbniiaa
