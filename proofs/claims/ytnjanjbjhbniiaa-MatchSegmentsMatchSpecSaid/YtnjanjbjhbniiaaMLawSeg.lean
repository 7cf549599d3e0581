/- The law on segments, walked. -/
import Derived.Test.YtnjanjbjhbniiaaMTurn
import Derived.Test.YtnjanjbjhbniiaaMRTurn
import Derived.Test.YtnjanjbjhbniiaaMTold
namespace Go.Proofs.Ytnjanjbjhbniiaa
open Go.RowKit
set_option linter.unusedSimpArgs false
set_option linter.unusedVariables false

set_option maxHeartbeats 1600000 in
theorem equal_gates {w : World} {a1 a2 : Option Addr} {c1 c2 : Nat} {L : List Gt} (h1 : GatesAt w a1 L) (h2 : GatesAt w a2 L) (hn : (L.length : Int) ≤ 9223372036854775807) :
    Calls Try.prog 42 #[.slice a1 L.length c1, .slice a2 L.length c2] w fun e w' => e = .returned (.bool true) ∧ w.grownBy w' none := by
  have Q1 := Lib.hid h1; have Q2 := Lib.hid h2
  clear h1 h2
  go_enter Try.func42, Try.ntmps42
  go_wp2_with fail
  go_loopw [13] (fun iv wr => ∃ k : Nat, k ≤ L.length ∧ iv = .int .i64 k ∧ Hid (w.grownBy wr none)) (fun iv _ => L.length - (intOf iv).toNat)
  case atStart => exact ⟨0, Nat.zero_le _, rfl, grown_refl _ _⟩
  case round =>
    obtain ⟨k, hk, rfl, hg⟩ := hrel
    by_cases hlt : k < L.length
    · obtain ⟨b1, o1, rfl, q1⟩ := rows_at (Q1.out.grown hg.out) (by omega)
      obtain ⟨b2, o2, rfl, q2⟩ := rows_at (Q2.out.grown hg.out) (by omega)
      have x0 := q1 k hlt 0 _ rfl; have x1 := q1 k hlt 1 _ rfl; have x2 := q1 k hlt 2 _ rfl; have x3 := q1 k hlt 3 _ rfl
      have y0 := q2 k hlt 0 _ rfl; have y1 := q2 k hlt 1 _ rfl; have y2 := q2 k hlt 2 _ rfl; have y3 := q2 k hlt 3 _ rfl
      generalize L[k] = h at *
      obtain ⟨z0, z1, z2, z3⟩ := h
      simp only [Nat.add_zero] at x0 x1 x2 x3 y0 y1 y2 y3
      clear q1 q2
      go_wp2_with fail
      go_quiet (fail)
      go_wp2_with fail
      go_roundw
      case rel => exact ⟨k + 1, by omega, by go_num, grown_trans hg.out (grown_drewN _ _ _)⟩
      case measure => simp [intOf]; omega
    · go_wp2_with fail
      go_ret
      exact ⟨rfl, hg.out⟩

set_option maxHeartbeats 1600000 in
theorem same_is (nm : ByteArray) {a1 a2 : Option Addr} {c1 c2 : Nat} {L : List Gt} (w : World) (h1 : GatesAt w a1 L) (h2 : GatesAt w a2 L) (hn : (L.length : Int) ≤ 9223372036854775807) :
    Calls Try.prog 13 #[.agg #[.string nm, .slice a1 L.length c1], .agg #[.string nm, .slice a2 L.length c2]] w fun e w' => e = .returned (.bool true) ∧ w.grownBy w' none := by
  have Q1 := Lib.hid h1; have Q2 := Lib.hid h2
  clear h1 h2
  have G : Hid (w.grownBy ((w.alloc (.cells #[.string nm, .slice a1 L.length c1] 24)).alloc (.cells #[.string nm, .slice a2 L.length c2] 24)) none) := grown_trans (World.grownBy_alloc _ _ _) (World.grownBy_alloc _ _ _)
  have z0 : ((w.alloc (.cells #[.string nm, .slice a1 L.length c1] 24)).alloc (.cells #[.string nm, .slice a2 L.length c2] 24)).cell? ⟨w.heap.size, 0, none⟩ = some (.string nm) := by go_simp
  have z1 : ((w.alloc (.cells #[.string nm, .slice a1 L.length c1] 24)).alloc (.cells #[.string nm, .slice a2 L.length c2] 24)).cell? ⟨w.heap.size, 1, none⟩ = some (.slice a1 L.length c1) := by go_simp
  have z2 : ((w.alloc (.cells #[.string nm, .slice a1 L.length c1] 24)).alloc (.cells #[.string nm, .slice a2 L.length c2] 24)).cell? ⟨w.heap.size + 1, 0, none⟩ = some (.string nm) := by go_simp
  have z3 : ((w.alloc (.cells #[.string nm, .slice a1 L.length c1] 24)).alloc (.cells #[.string nm, .slice a2 L.length c2] 24)).cell? ⟨w.heap.size + 1, 1, none⟩ = some (.slice a2 L.length c2) := by go_simp
  go_enter Try.func13, Try.ntmps13
  go_wp2_with fail
  refine (equal_gates (Q1.out.grown G.out) (Q2.out.grown G.out) hn).mono ?_; rintro e w1 ⟨rfl, hg1⟩
  have G1 := Lib.hid (grown_trans G.out hg1)
  clear hg1 z0 z1 z2 z3
  go_wp2_with fail
  go_ret
  exact ⟨rfl, G1.out⟩

set_option maxRecDepth 100000 in
set_option maxHeartbeats 6400000 in
theorem segments_law (s : Seg) (w : World) (hs : SegAt w s) :
    Calls Try.prog 3 #[s.val] w fun e w' => e = .returned (.bool true) ∧ w.grownBy w' none := by
  have HS := Lib.hid hs
  obtain ⟨E, hE⟩ : ∃ e, segE s.name s.gs = e := ⟨_, rfl⟩
  have HE := Lib.hid hE
  obtain ⟨N, hN⟩ : ∃ n, tnN s = n := ⟨_, rfl⟩
  obtain ⟨L, hL⟩ : ∃ n, tnL s = n := ⟨_, rfl⟩
  have HL0 : Hid (L.length ≤ 50 ∧ N.size ≤ 140737488355328) := by
    rw [← hN, ← hL]
    unfold tnN tnL
    by_cases h0 : segE s.name s.gs = 0
    · rw [if_pos h0, if_pos h0, turnG_len]; exact ⟨(gates_in h0).2, hs.ns⟩
    · rw [if_neg h0, if_neg h0]; exact ⟨by simp, by show (0 : Nat) ≤ _; omega⟩
  have BACK : Hid (E = 0 → segE N L = 0 ∧ N = s.name ∧ turnG L = s.gs) := fun h => by
    have h0 := hE.trans h
    rw [← hN, ← hL]
    unfold tnN tnL
    rw [if_pos h0, if_pos h0]
    exact ⟨segE_turn h0, rfl, turnG_turn _⟩
  have T1 : Hid (∀ W : World, SegAt W s → Calls Try.prog 9 #[s.val] W fun e w' => (∃ ao cap, e = .returned (.tuple #[.agg #[.string N, .slice ao L.length cap], .int .i64 E]) ∧ GatesAt w' ao L) ∧ W.grownBy w' none) := fun W h => by have q := Turned_is s W h HE; rw [hN, hL] at q; exact q
  have T2 : Hid (∀ W : World, SegAt W s → Calls Try.prog 10 #[s.val] W fun e w' => (∃ ao cap, e = .returned (.tuple #[.agg #[.string N, .slice ao L.length cap], .int .i64 E]) ∧ GatesAt w' ao L) ∧ W.grownBy w' none) := fun W h => by have q := rTurned_is s W h HE; rw [hN, hL] at q; exact q
  obtain ⟨E2, hE2⟩ : ∃ e, segE N L = e := ⟨_, rfl⟩
  have HE2 := Lib.hid hE2
  have gl : (s.gs.length : Int) ≤ 9223372036854775807 := hs.gl
  obtain ⟨nm, go_, gc, gs⟩ := s
  simp only [Seg.val] at *
  have GL := Lib.hid gl
  have T3 : Hid (∀ (W : World) (ao : Option Addr) (cap : Nat), GatesAt W ao L → Calls Try.prog 9 #[.agg #[.string N, .slice ao L.length cap]] W fun e w' => (∃ n l a2 c2, Hid (E = 0 → nm = n ∧ gs = l ∧ E2 = 0) ∧ e = .returned (.tuple #[.agg #[.string n, .slice a2 l.length c2], .int .i64 E2]) ∧ GatesAt w' a2 l) ∧ W.grownBy w' none) := fun W ao cap h => by
    refine (Turned_is ⟨N, ao, cap, L⟩ W ⟨HL0.out.2, by have := HL0.out.1; show (L.length : Int) ≤ _; omega, h⟩ HE2).mono ?_
    rintro e w' ⟨⟨a2, c2, rfl, hg⟩, hw⟩
    refine ⟨⟨_, _, a2, c2, fun h0 => ?_, rfl, hg⟩, hw⟩
    obtain ⟨q1, q2, q3⟩ := BACK.out h0
    refine ⟨?_, ?_, hE2.symm.trans q1⟩
    · unfold tnN; rw [if_pos (show segE _ _ = 0 from q1)]; exact q2.symm
    · unfold tnL; rw [if_pos (show segE _ _ = 0 from q1)]; exact q3.symm
  clear hs hE hN hL hE2 gl
  go_enter Try.func3, Try.ntmps3
  go_wp2_with fail
  have GA := Lib.hid (World.grownBy_alloc w (.cells #[.string nm, .slice go_ gs.length gc] 24) none)
  have BA := Lib.hid (mheap_new w (.cells #[.string nm, .slice go_ gs.length gc] 24))
  generalize w.alloc (.cells #[.string nm, .slice go_ gs.length gc] 24) = w0 at *
  refine (T1.out _ (HS.out.grown GA.out)).mono ?_; rintro e w1 ⟨⟨a1, c1, rfl, p1⟩, hg1⟩
  have P1 := Lib.hid p1; have G1 := Lib.hid (grown_trans GA.out hg1); have BA1 := Lib.hid (mblock_at BA.out hg1 (by simp))
  clear p1 hg1 BA GA T1
  go_upto_region 2 with (fail)
  have gA := World.grownBy_alloc w1 (.cells #[.string N, .slice a1 L.length c1] 24) none
  have BB := Lib.hid (mheap_new w1 (.cells #[.string N, .slice a1 L.length c1] 24))
  have P2 := Lib.hid (P1.out.grown gA); have G2 := Lib.hid (grown_trans G1.out gA); have BA2 := Lib.hid (mblock_at BA1.out gA (by simp))
  generalize w1.alloc (.cells #[.string N, .slice a1 L.length c1] 24) = w2 at *
  generalize w1.heap.size = B at *
  clear gA P1 G1 BA1
  have x0 := mblock_cell BA2.out 0 _ rfl; have x1 := mblock_cell BA2.out 1 _ rfl
  go_wp2_with fail
  refine (T2.out _ (HS.out.grown G2.out)).mono ?_; rintro e w3 ⟨⟨a2, c2, rfl, p3⟩, hg3⟩
  have P3 := Lib.hid (P2.out.grown hg3); have Q3 := Lib.hid p3; have G3 := Lib.hid (grown_trans G2.out hg3); have BA3 := Lib.hid (mblock_at BA2.out hg3 (by simp)); have BB3 := Lib.hid (mblock_at BB.out hg3 (by simp))
  clear x0 x1 p3 hg3 P2 G2 BA2 BB T2
  go_upto_region 3 with (fail)
  have gA := World.grownBy_alloc w3 (.cells #[.string N, .slice a2 L.length c2] 24) none
  have BC := Lib.hid (mheap_new w3 (.cells #[.string N, .slice a2 L.length c2] 24))
  have P4 := Lib.hid (P3.out.grown gA); have Q4 := Lib.hid (Q3.out.grown gA); have G4 := Lib.hid (grown_trans G3.out gA); have BA4 := Lib.hid (mblock_at BA3.out gA (by simp)); have BB4 := Lib.hid (mblock_at BB3.out gA (by simp))
  generalize w3.alloc (.cells #[.string N, .slice a2 L.length c2] 24) = w4 at *
  generalize w3.heap.size = C at *
  clear gA P3 Q3 G3 BA3 BB3
  have x0 := mblock_cell BB4.out 0 _ rfl; have x1 := mblock_cell BB4.out 1 _ rfl
  go_wp2_with fail
  refine (T3.out _ _ _ P4.out).mono ?_; rintro e w5 ⟨⟨n3, l3, a3, c3, h3, rfl, p5⟩, hg5⟩
  have P5 := Lib.hid (P4.out.grown hg5); have Q5 := Lib.hid (Q4.out.grown hg5); have R5 := Lib.hid p5; have G5 := Lib.hid (grown_trans G4.out hg5); have BA5 := Lib.hid (mblock_at BA4.out hg5 (by simp)); have BB5 := Lib.hid (mblock_at BB4.out hg5 (by simp)); have BC5 := Lib.hid (mblock_at BC.out hg5 (by simp))
  clear x0 x1 p5 hg5 P4 Q4 G4 BA4 BB4 BC T3
  go_upto_region 4 with (fail)
  have gA := World.grownBy_alloc w5 (.cells #[.string n3, .slice a3 l3.length c3] 24) none
  have BD := Lib.hid (mheap_new w5 (.cells #[.string n3, .slice a3 l3.length c3] 24))
  have P6 := Lib.hid (P5.out.grown gA); have Q6 := Lib.hid (Q5.out.grown gA); have R6 := Lib.hid (R5.out.grown gA); have G6 := Lib.hid (grown_trans G5.out gA)
  have BA6 := Lib.hid (mblock_at BA5.out gA (by simp)); have BB6 := Lib.hid (mblock_at BB5.out gA (by simp)); have BC6 := Lib.hid (mblock_at BC5.out gA (by simp))
  generalize w5.alloc (.cells #[.string n3, .slice a3 l3.length c3] 24) = w6 at *
  generalize w5.heap.size = D at *
  clear gA P5 Q5 R5 G5 BA5 BB5 BC5
  have x0 := mblock_cell BA6.out 0 _ rfl; have x1 := mblock_cell BA6.out 1 _ rfl
  have y0 := mblock_cell BB6.out 0 _ rfl; have y1 := mblock_cell BB6.out 1 _ rfl
  have u0 := mblock_cell BC6.out 0 _ rfl; have u1 := mblock_cell BC6.out 1 _ rfl
  have t0 := mblock_cell BD.out 0 _ rfl; have t1 := mblock_cell BD.out 1 _ rfl
  clear BA6 BB6 BC6 BD
  have gd : w6.grownBy w6.drew none := grown_drewN w6 none 1
  have LN : Hid ((L.length : Int) ≤ 9223372036854775807) := by have := HL0.out.1; show _ ≤ _; omega
  by_cases e0 : E = 0
  · subst e0
    obtain ⟨rfl, rfl, e2⟩ := h3.out rfl
    subst e2
    have R7 := Lib.hid R6.out
    refine region_late (lateK (fun V => w6.grownBy V none) []) (by kernel_rfl) gd (fun hCp0 hSp0 => ?_)
    have gd := Lib.hid gd
    generalize w6.drew = wd at *
    refine wpAnyS_take (i := 0) (oi := ?oip1) (v := .agg #[.string nm, .slice go_ gs.length gc]) ?hip1 (by kernel_rfl) (by kernel_rfl) (by kernel_rfl) (lateK_iff (by rfl)) ?hqp1 ?hyp1 hCp0 hSp0 ?restp1
    case hip1 => simp only [List.getElem?_toArray, List.getElem?_cons_succ, List.getElem?_cons_zero, Option.some.injEq]; rfl
    case hqp1 => exact fun _ _ _ h => h
    case hyp1 =>
      refine Or.inl ⟨by kernel_rfl, fun V hV => ?_⟩
      have gV := lateK_g hV; have zzx0 := grown_cell gV x0; have zzx1 := grown_cell gV x1; clear gV; clear hV
      go_simp
    intro hCp1 hSp1
    clear hCp0 hSp0
    try simp only [Go.Act.put, List.setIfInBounds_toArray, List.set_cons_zero, List.set_cons_succ]
    refine wpAnyS_take (i := 2) (oi := ?oip2) (v := .agg #[.string nm, .slice go_ gs.length gc]) ?hip2 (by kernel_rfl) (by kernel_rfl) (by kernel_rfl) (lateK_iff (by rfl)) ?hqp2 ?hyp2 hCp1 hSp1 ?restp2
    case hip2 => simp only [List.getElem?_toArray, List.getElem?_cons_succ, List.getElem?_cons_zero, Option.some.injEq]; rfl
    case hqp2 => exact fun _ _ _ h => h
    case hyp2 =>
      refine Or.inl ⟨by kernel_rfl, fun V hV => ?_⟩
      have gV := lateK_g hV; have zzx0 := grown_cell gV x0; have zzx1 := grown_cell gV x1; clear gV; clear hV
      go_simp
    intro hCp2 hSp2
    clear hCp1 hSp1
    try simp only [Go.Act.put, List.setIfInBounds_toArray, List.set_cons_zero, List.set_cons_succ]
    refine wpAnyS_ready (rs := [1]) (by kernel_rfl) (by simp) ?_
    refine AllReadyS.cons rfl hCp2 (fun K hK => ?_) AllReadyS.nil
    go_simp
    refine (checkSeg_is ⟨nm, go_, gc, gs⟩ _ (HS.out.grown (grown_trans G6.out gd.out)) HE).mono ?_; rintro e w7 ⟨rfl, hg7⟩
    refine hK.out _ _ (grown_trans gd.out hg7) (fun hCp3 hSp3 => ?_)
    clear hK hCp2 hSp2 K
    try simp only [Go.Act.put, List.setIfInBounds_toArray, List.set_cons_zero, List.set_cons_succ]
    refine wpAnyS_ready (rs := [3]) (by kernel_rfl) (by simp) ?_
    refine AllReadyS.cons rfl hCp3 (fun K hK => ?_) AllReadyS.nil
    go_simp
    refine (rcheckSeg_is ⟨nm, go_, gc, gs⟩ _ (HS.out.grown (grown_trans G6.out (grown_trans gd.out hg7))) HE).mono ?_; rintro e w8 ⟨rfl, hg8⟩
    refine hK.out _ _ (grown_trans (grown_trans gd.out hg7) hg8) (fun hCp4 hSp4 => ?_)
    clear hK hCp3 hSp3 K
    try simp only [Go.Act.put, List.setIfInBounds_toArray, List.set_cons_zero, List.set_cons_succ]
    refine wpAnyS_take (i := 4) (oi := ?oip5) (v := .bool true) ?hip5 (by kernel_rfl) (by kernel_rfl) (by kernel_rfl) (lateK_iff (by rfl)) ?hqp5 ?hyp5 hCp4 hSp4 ?restp5
    case hip5 => simp only [List.getElem?_toArray, List.getElem?_cons_succ, List.getElem?_cons_zero, Option.some.injEq]; rfl
    case hqp5 => exact fun _ _ _ h => h
    case hyp5 =>
      refine Or.inl ⟨by kernel_rfl, fun V hV => ?_⟩
      clear hV
      go_simp
    intro hCp5 hSp5
    clear hCp4 hSp4
    try simp only [Go.Act.put, List.setIfInBounds_toArray, List.set_cons_zero, List.set_cons_succ]
    refine wpAnyS_take (i := 5) (oi := ?oip6) (v := .bool true) ?hip6 (by kernel_rfl) (by kernel_rfl) (by kernel_rfl) (lateK_iff (by rfl)) ?hqp6 ?hyp6 hCp5 hSp5 ?restp6
    case hip6 => simp only [List.getElem?_toArray, List.getElem?_cons_succ, List.getElem?_cons_zero, Option.some.injEq]; rfl
    case hqp6 => exact fun _ _ _ h => h
    case hyp6 =>
      refine Or.inl ⟨by kernel_rfl, fun V hV => ?_⟩
      clear hV
      go_simp
    intro hCp6 hSp6
    clear hCp5 hSp5
    try simp only [Go.Act.put, List.setIfInBounds_toArray, List.set_cons_zero, List.set_cons_succ]
    refine wpAnyS_take (i := 6) (oi := ?oip7) (v := .agg #[.string N, .slice a1 L.length c1]) ?hip7 (by kernel_rfl) (by kernel_rfl) (by kernel_rfl) (lateK_iff (by rfl)) ?hqp7 ?hyp7 hCp6 hSp6 ?restp7
    case hip7 => simp only [List.getElem?_toArray, List.getElem?_cons_succ, List.getElem?_cons_zero, Option.some.injEq]; rfl
    case hqp7 => exact fun _ _ _ h => h
    case hyp7 =>
      refine Or.inl ⟨by kernel_rfl, fun V hV => ?_⟩
      have gV := lateK_g hV; have zzy0 := grown_cell gV y0; have zzy1 := grown_cell gV y1; clear gV; clear hV
      go_simp
    intro hCp7 hSp7
    clear hCp6 hSp6
    try simp only [Go.Act.put, List.setIfInBounds_toArray, List.set_cons_zero, List.set_cons_succ]
    refine wpAnyS_take (i := 7) (oi := ?oip8) (v := .agg #[.string N, .slice a2 L.length c2]) ?hip8 (by kernel_rfl) (by kernel_rfl) (by kernel_rfl) (lateK_iff (by rfl)) ?hqp8 ?hyp8 hCp7 hSp7 ?restp8
    case hip8 => simp only [List.getElem?_toArray, List.getElem?_cons_succ, List.getElem?_cons_zero, Option.some.injEq]; rfl
    case hqp8 => exact fun _ _ _ h => h
    case hyp8 =>
      refine Or.inl ⟨by kernel_rfl, fun V hV => ?_⟩
      have gV := lateK_g hV; have zzu0 := grown_cell gV u0; have zzu1 := grown_cell gV u1; clear gV; clear hV
      go_simp
    intro hCp8 hSp8
    clear hCp7 hSp7
    try simp only [Go.Act.put, List.setIfInBounds_toArray, List.set_cons_zero, List.set_cons_succ]
    refine wpAnyS_ready (rs := [8]) (by kernel_rfl) (by simp) ?_
    refine AllReadyS.cons rfl hCp8 (fun K hK => ?_) AllReadyS.nil
    go_simp
    refine (same_is N _ (P6.out.grown (grown_trans (grown_trans gd.out hg7) hg8)) (Q6.out.grown (grown_trans (grown_trans gd.out hg7) hg8)) LN.out).mono ?_; rintro e w9 ⟨rfl, hg9⟩
    refine hK.out _ _ (grown_trans (grown_trans (grown_trans gd.out hg7) hg8) hg9) (fun hCp9 hSp9 => ?_)
    clear hK hCp8 hSp8 K
    try simp only [Go.Act.put, List.setIfInBounds_toArray, List.set_cons_zero, List.set_cons_succ]
    refine wpAnyS_take (i := 9) (oi := ?oip10) (v := .bool true) ?hip10 (by kernel_rfl) (by kernel_rfl) (by kernel_rfl) (lateK_iff (by rfl)) ?hqp10 ?hyp10 hCp9 hSp9 ?restp10
    case hip10 => simp only [List.getElem?_toArray, List.getElem?_cons_succ, List.getElem?_cons_zero, Option.some.injEq]; rfl
    case hqp10 => exact fun _ _ _ h => h
    case hyp10 =>
      refine Or.inl ⟨by kernel_rfl, fun V hV => ?_⟩
      clear hV
      go_simp
    intro hCp10 hSp10
    clear hCp9 hSp9
    try simp only [Go.Act.put, List.setIfInBounds_toArray, List.set_cons_zero, List.set_cons_succ]
    refine wpAnyS_take (i := 10) (oi := ?oip11) (v := .bool true) ?hip11 (by kernel_rfl) (by kernel_rfl) (by kernel_rfl) (lateK_iff (by rfl)) ?hqp11 ?hyp11 hCp10 hSp10 ?restp11
    case hip11 => simp only [List.getElem?_toArray, List.getElem?_cons_succ, List.getElem?_cons_zero, Option.some.injEq]; rfl
    case hqp11 => exact fun _ _ _ h => h
    case hyp11 =>
      refine Or.inl ⟨by kernel_rfl, fun V hV => ?_⟩
      clear hV
      go_simp
    intro hCp11 hSp11
    clear hCp10 hSp10
    try simp only [Go.Act.put, List.setIfInBounds_toArray, List.set_cons_zero, List.set_cons_succ]
    refine wpAnyS_take (i := 11) (oi := ?oip12) (v := .int .i64 0) ?hip12 (by kernel_rfl) (by kernel_rfl) (by kernel_rfl) (lateK_iff (by rfl)) ?hqp12 ?hyp12 hCp11 hSp11 ?restp12
    case hip12 => simp only [List.getElem?_toArray, List.getElem?_cons_succ, List.getElem?_cons_zero, Option.some.injEq]; rfl
    case hqp12 => exact fun _ _ _ h => h
    case hyp12 =>
      refine Or.inl ⟨by kernel_rfl, fun V hV => ?_⟩
      clear hV
      go_simp
    intro hCp12 hSp12
    clear hCp11 hSp11
    try simp only [Go.Act.put, List.setIfInBounds_toArray, List.set_cons_zero, List.set_cons_succ]
    refine wpAnyS_take (i := 12) (oi := ?oip13) (v := .int .i64 0) ?hip13 (by kernel_rfl) (by kernel_rfl) (by kernel_rfl) (lateK_iff (by rfl)) ?hqp13 ?hyp13 hCp12 hSp12 ?restp13
    case hip13 => simp only [List.getElem?_toArray, List.getElem?_cons_succ, List.getElem?_cons_zero, Option.some.injEq]; rfl
    case hqp13 => exact fun _ _ _ h => h
    case hyp13 =>
      refine Or.inl ⟨by kernel_rfl, fun V hV => ?_⟩
      clear hV
      go_simp
    intro hCp13 hSp13
    clear hCp12 hSp12
    try simp only [Go.Act.put, List.setIfInBounds_toArray, List.set_cons_zero, List.set_cons_succ]
    refine wpAnyS_take (i := 13) (oi := ?oip14) (v := .bool true) ?hip14 (by kernel_rfl) (by kernel_rfl) (by kernel_rfl) (lateK_iff (by rfl)) ?hqp14 ?hyp14 hCp13 hSp13 ?restp14
    case hip14 => simp only [List.getElem?_toArray, List.getElem?_cons_succ, List.getElem?_cons_zero, Option.some.injEq]; rfl
    case hqp14 => exact fun _ _ _ h => h
    case hyp14 =>
      refine Or.inl ⟨by kernel_rfl, fun V hV => ?_⟩
      clear hV
      go_simp
    intro hCp14 hSp14
    clear hCp13 hSp13
    try simp only [Go.Act.put, List.setIfInBounds_toArray, List.set_cons_zero, List.set_cons_succ]
    refine wpAnyS_take (i := 14) (oi := ?oip15) (v := .bool true) ?hip15 (by kernel_rfl) (by kernel_rfl) (by kernel_rfl) (lateK_iff (by rfl)) ?hqp15 ?hyp15 hCp14 hSp14 ?restp15
    case hip15 => simp only [List.getElem?_toArray, List.getElem?_cons_succ, List.getElem?_cons_zero, Option.some.injEq]; rfl
    case hqp15 => exact fun _ _ _ h => h
    case hyp15 =>
      refine Or.inl ⟨by kernel_rfl, fun V hV => ?_⟩
      clear hV
      go_simp
    intro hCp15 hSp15
    clear hCp14 hSp14
    try simp only [Go.Act.put, List.setIfInBounds_toArray, List.set_cons_zero, List.set_cons_succ]
    refine wpAnyS_take (i := 15) (oi := ?oip16) (v := .bool true) ?hip16 (by kernel_rfl) (by kernel_rfl) (by kernel_rfl) (lateK_iff (by rfl)) ?hqp16 ?hyp16 hCp15 hSp15 ?restp16
    case hip16 => simp only [List.getElem?_toArray, List.getElem?_cons_succ, List.getElem?_cons_zero, Option.some.injEq]; rfl
    case hqp16 => exact fun _ _ _ h => h
    case hyp16 =>
      refine Or.inl ⟨by kernel_rfl, fun V hV => ?_⟩
      clear hV
      go_simp
    intro hCp16 hSp16
    clear hCp15 hSp15
    try simp only [Go.Act.put, List.setIfInBounds_toArray, List.set_cons_zero, List.set_cons_succ]
    refine wpAnyS_take (i := 16) (oi := ?oip17) (v := .int .i64 0) ?hip17 (by kernel_rfl) (by kernel_rfl) (by kernel_rfl) (lateK_iff (by rfl)) ?hqp17 ?hyp17 hCp16 hSp16 ?restp17
    case hip17 => simp only [List.getElem?_toArray, List.getElem?_cons_succ, List.getElem?_cons_zero, Option.some.injEq]; rfl
    case hqp17 => exact fun _ _ _ h => h
    case hyp17 =>
      refine Or.inl ⟨by kernel_rfl, fun V hV => ?_⟩
      clear hV
      go_simp
    intro hCp17 hSp17
    clear hCp16 hSp16
    try simp only [Go.Act.put, List.setIfInBounds_toArray, List.set_cons_zero, List.set_cons_succ]
    refine wpAnyS_take (i := 17) (oi := ?oip18) (v := .bool false) ?hip18 (by kernel_rfl) (by kernel_rfl) (by kernel_rfl) (lateK_iff (by rfl)) ?hqp18 ?hyp18 hCp17 hSp17 ?restp18
    case hip18 => simp only [List.getElem?_toArray, List.getElem?_cons_succ, List.getElem?_cons_zero, Option.some.injEq]; rfl
    case hqp18 => exact fun _ _ _ h => h
    case hyp18 =>
      refine Or.inl ⟨by kernel_rfl, fun V hV => ?_⟩
      clear hV
      go_simp
    intro hCp18 hSp18
    clear hCp17 hSp17
    try simp only [Go.Act.put, List.setIfInBounds_toArray, List.set_cons_zero, List.set_cons_succ]
    refine wpAnyS_take (i := 18) (oi := ?oip19) (v := .bool false) ?hip19 (by kernel_rfl) (by kernel_rfl) (by kernel_rfl) (lateK_iff (by rfl)) ?hqp19 ?hyp19 hCp18 hSp18 ?restp19
    case hip19 => simp only [List.getElem?_toArray, List.getElem?_cons_succ, List.getElem?_cons_zero, Option.some.injEq]; rfl
    case hqp19 => exact fun _ _ _ h => h
    case hyp19 =>
      refine Or.inl ⟨by kernel_rfl, fun V hV => ?_⟩
      clear hV
      go_simp
    intro hCp19 hSp19
    clear hCp18 hSp18
    try simp only [Go.Act.put, List.setIfInBounds_toArray, List.set_cons_zero, List.set_cons_succ]
    refine wpAnyS_take (i := 19) (oi := ?oip20) (v := .int .i64 0) ?hip20 (by kernel_rfl) (by kernel_rfl) (by kernel_rfl) (lateK_iff (by rfl)) ?hqp20 ?hyp20 hCp19 hSp19 ?restp20
    case hip20 => simp only [List.getElem?_toArray, List.getElem?_cons_succ, List.getElem?_cons_zero, Option.some.injEq]; rfl
    case hqp20 => exact fun _ _ _ h => h
    case hyp20 =>
      refine Or.inl ⟨by kernel_rfl, fun V hV => ?_⟩
      clear hV
      go_simp
    intro hCp20 hSp20
    clear hCp19 hSp19
    try simp only [Go.Act.put, List.setIfInBounds_toArray, List.set_cons_zero, List.set_cons_succ]
    refine wpAnyS_take (i := 20) (oi := ?oip21) (v := .bool true) ?hip21 (by kernel_rfl) (by kernel_rfl) (by kernel_rfl) (lateK_iff (by rfl)) ?hqp21 ?hyp21 hCp20 hSp20 ?restp21
    case hip21 => simp only [List.getElem?_toArray, List.getElem?_cons_succ, List.getElem?_cons_zero, Option.some.injEq]; rfl
    case hqp21 => exact fun _ _ _ h => h
    case hyp21 =>
      refine Or.inl ⟨by kernel_rfl, fun V hV => ?_⟩
      clear hV
      go_simp
    intro hCp21 hSp21
    clear hCp20 hSp20
    try simp only [Go.Act.put, List.setIfInBounds_toArray, List.set_cons_zero, List.set_cons_succ]
    refine wpAnyS_take (i := 21) (oi := ?oip22) (v := .bool true) ?hip22 (by kernel_rfl) (by kernel_rfl) (by kernel_rfl) (lateK_iff (by rfl)) ?hqp22 ?hyp22 hCp21 hSp21 ?restp22
    case hip22 => simp only [List.getElem?_toArray, List.getElem?_cons_succ, List.getElem?_cons_zero, Option.some.injEq]; rfl
    case hqp22 => exact fun _ _ _ h => h
    case hyp22 =>
      refine Or.inl ⟨by kernel_rfl, fun V hV => ?_⟩
      clear hV
      go_simp
    intro hCp22 hSp22
    clear hCp21 hSp21
    try simp only [Go.Act.put, List.setIfInBounds_toArray, List.set_cons_zero, List.set_cons_succ]
    refine wpAnyS_take (i := 22) (oi := ?oip23) (v := .agg #[.string nm, .slice a3 gs.length c3]) ?hip23 (by kernel_rfl) (by kernel_rfl) (by kernel_rfl) (lateK_iff (by rfl)) ?hqp23 ?hyp23 hCp22 hSp22 ?restp23
    case hip23 => simp only [List.getElem?_toArray, List.getElem?_cons_succ, List.getElem?_cons_zero, Option.some.injEq]; rfl
    case hqp23 => exact fun _ _ _ h => h
    case hyp23 =>
      refine Or.inl ⟨by kernel_rfl, fun V hV => ?_⟩
      have gV := lateK_g hV; have zzt0 := grown_cell gV t0; have zzt1 := grown_cell gV t1; clear gV; clear hV
      go_simp
    intro hCp23 hSp23
    clear hCp22 hSp22
    try simp only [Go.Act.put, List.setIfInBounds_toArray, List.set_cons_zero, List.set_cons_succ]
    refine wpAnyS_take (i := 23) (oi := ?oip24) (v := .agg #[.string nm, .slice go_ gs.length gc]) ?hip24 (by kernel_rfl) (by kernel_rfl) (by kernel_rfl) (lateK_iff (by rfl)) ?hqp24 ?hyp24 hCp23 hSp23 ?restp24
    case hip24 => simp only [List.getElem?_toArray, List.getElem?_cons_succ, List.getElem?_cons_zero, Option.some.injEq]; rfl
    case hqp24 => exact fun _ _ _ h => h
    case hyp24 =>
      refine Or.inl ⟨by kernel_rfl, fun V hV => ?_⟩
      have gV := lateK_g hV; have zzx0 := grown_cell gV x0; have zzx1 := grown_cell gV x1; clear gV; clear hV
      go_simp
    intro hCp24 hSp24
    clear hCp23 hSp23
    try simp only [Go.Act.put, List.setIfInBounds_toArray, List.set_cons_zero, List.set_cons_succ]
    refine wpAnyS_ready (rs := [24]) (by kernel_rfl) (by simp) ?_
    refine AllReadyS.cons rfl hCp24 (fun K hK => ?_) AllReadyS.nil
    go_simp
    refine (same_is nm _ (R7.out.grown (grown_trans (grown_trans (grown_trans gd.out hg7) hg8) hg9)) (HS.out.hg.grown (grown_trans G6.out (grown_trans (grown_trans (grown_trans gd.out hg7) hg8) hg9))) GL.out).mono ?_; rintro e w10 ⟨rfl, hg10⟩
    refine hK.out _ _ (grown_trans (grown_trans (grown_trans (grown_trans gd.out hg7) hg8) hg9) hg10) (fun hCp25 hSp25 => ?_)
    clear hK hCp24 hSp24 K
    try simp only [Go.Act.put, List.setIfInBounds_toArray, List.set_cons_zero, List.set_cons_succ]
    refine wpAnyS_take (i := 25) (oi := ?oip26) (v := .bool true) ?hip26 (by kernel_rfl) (by kernel_rfl) (by kernel_rfl) (lateK_iff (by rfl)) ?hqp26 ?hyp26 hCp25 hSp25 ?restp26
    case hip26 => simp only [List.getElem?_toArray, List.getElem?_cons_succ, List.getElem?_cons_zero, Option.some.injEq]; rfl
    case hqp26 => exact fun _ _ _ h => h
    case hyp26 =>
      refine Or.inl ⟨by kernel_rfl, fun V hV => ?_⟩
      clear hV
      go_simp
    intro hCp26 hSp26
    clear hCp25 hSp25
    try simp only [Go.Act.put, List.setIfInBounds_toArray, List.set_cons_zero, List.set_cons_succ]
    refine wpAnyS_take (i := 26) (oi := ?oip27) (v := .bool true) ?hip27 (by kernel_rfl) (by kernel_rfl) (by kernel_rfl) (lateK_iff (by rfl)) ?hqp27 ?hyp27 hCp26 hSp26 ?restp27
    case hip27 => simp only [List.getElem?_toArray, List.getElem?_cons_succ, List.getElem?_cons_zero, Option.some.injEq]; rfl
    case hqp27 => exact fun _ _ _ h => h
    case hyp27 =>
      refine Or.inl ⟨by kernel_rfl, fun V hV => ?_⟩
      clear hV
      go_simp
    intro hCp27 hSp27
    clear hCp26 hSp26
    try simp only [Go.Act.put, List.setIfInBounds_toArray, List.set_cons_zero, List.set_cons_succ]
    refine wpAnyS_take (i := 27) (oi := ?oip28) (v := .bool true) ?hip28 (by kernel_rfl) (by kernel_rfl) (by kernel_rfl) (lateK_iff (by rfl)) ?hqp28 ?hyp28 hCp27 hSp27 ?restp28
    case hip28 => simp only [List.getElem?_toArray, List.getElem?_cons_succ, List.getElem?_cons_zero, Option.some.injEq]; rfl
    case hqp28 => exact fun _ _ _ h => h
    case hyp28 =>
      refine Or.inl ⟨by kernel_rfl, fun V hV => ?_⟩
      clear hV
      go_simp
    intro hCp28 hSp28
    clear hCp27 hSp27
    try simp only [Go.Act.put, List.setIfInBounds_toArray, List.set_cons_zero, List.set_cons_succ]
    refine wpAnyS_take (i := 28) (oi := ?oip29) (v := .bool true) ?hip29 (by kernel_rfl) (by kernel_rfl) (by kernel_rfl) (lateK_iff (by rfl)) ?hqp29 ?hyp29 hCp28 hSp28 ?restp29
    case hip29 => simp only [List.getElem?_toArray, List.getElem?_cons_succ, List.getElem?_cons_zero, Option.some.injEq]; rfl
    case hqp29 => exact fun _ _ _ h => h
    case hyp29 =>
      refine Or.inl ⟨by kernel_rfl, fun V hV => ?_⟩
      clear hV
      go_simp
    intro hCp29 hSp29
    clear hCp28 hSp28
    try simp only [Go.Act.put, List.setIfInBounds_toArray, List.set_cons_zero, List.set_cons_succ]
    refine wpAnyS_ready (rs := [29]) (by kernel_rfl) (by simp) ?_
    refine AllReadyS.cons rfl hCp29 (fun K hK => ?_) AllReadyS.nil
    go_simp
    refine (told5_any _).mono ?_; rintro e w11 ⟨rfl, hg11⟩
    refine hK.out _ _ (grown_trans (grown_trans (grown_trans (grown_trans (grown_trans gd.out hg7) hg8) hg9) hg10) hg11) (fun hCp30 hSp30 => ?_)
    clear hK hCp29 hSp29 K
    try simp only [Go.Act.put, List.setIfInBounds_toArray, List.set_cons_zero, List.set_cons_succ]
    refine wpAnyS_take (i := 30) (oi := ?oip31) (v := .bool true) ?hip31 (by kernel_rfl) (by kernel_rfl) (by kernel_rfl) (lateK_iff (by rfl)) ?hqp31 ?hyp31 hCp30 hSp30 ?restp31
    case hip31 => simp only [List.getElem?_toArray, List.getElem?_cons_succ, List.getElem?_cons_zero, Option.some.injEq]; rfl
    case hqp31 => exact fun _ _ _ h => h
    case hyp31 =>
      refine Or.inl ⟨by kernel_rfl, fun V hV => ?_⟩
      clear hV
      go_simp
    intro hCp31 hSp31
    clear hCp30 hSp30
    try simp only [Go.Act.put, List.setIfInBounds_toArray, List.set_cons_zero, List.set_cons_succ]
    refine wpAnyS_take (i := 31) (oi := ?oip32) (v := .bool true) ?hip32 (by kernel_rfl) (by kernel_rfl) (by kernel_rfl) (lateK_iff (by rfl)) ?hqp32 ?hyp32 hCp31 hSp31 ?restp32
    case hip32 => simp only [List.getElem?_toArray, List.getElem?_cons_succ, List.getElem?_cons_zero, Option.some.injEq]; rfl
    case hqp32 => exact fun _ _ _ h => h
    case hyp32 =>
      refine Or.inl ⟨by kernel_rfl, fun V hV => ?_⟩
      clear hV
      go_simp
    intro hCp32 hSp32
    clear hCp31 hSp31
    try simp only [Go.Act.put, List.setIfInBounds_toArray, List.set_cons_zero, List.set_cons_succ]
    refine wpAnyS_done (by kernel_rfl) ?_ _
    clear hCp32 hSp32
    have GZ := Lib.hid (grown_trans G6.out (grown_trans (grown_trans (grown_trans (grown_trans (grown_trans gd.out hg7) hg8) hg9) hg10) hg11))
    clear x0 x1 y0 y1 u0 u1 t0 t1 gd hg7 hg8 hg9 hg10 hg11
    go_wp2_with fail
    go_ret
    exact ⟨rfl, GZ.out⟩
  · have e1 : (E != 0) = true := by simpa using e0
    have e1b : (E == 0) = false := beq_eq_false_iff_ne.2 e0
    clear e0
    refine region_late (lateK (fun V => w6.grownBy V none) []) (by kernel_rfl) gd (fun hCn0 hSn0 => ?_)
    have gd := Lib.hid gd
    generalize w6.drew = wd at *
    refine wpAnyS_take (i := 0) (oi := ?oin1) (v := .agg #[.string nm, .slice go_ gs.length gc]) ?hin1 (by kernel_rfl) (by kernel_rfl) (by kernel_rfl) (lateK_iff (by rfl)) ?hqn1 ?hyn1 hCn0 hSn0 ?restn1
    case hin1 => simp only [List.getElem?_toArray, List.getElem?_cons_succ, List.getElem?_cons_zero, Option.some.injEq]; rfl
    case hqn1 => exact fun _ _ _ h => h
    case hyn1 =>
      refine Or.inl ⟨by kernel_rfl, fun V hV => ?_⟩
      have gV := lateK_g hV; have zzx0 := grown_cell gV x0; have zzx1 := grown_cell gV x1; clear gV; clear hV
      go_simp
    intro hCn1 hSn1
    clear hCn0 hSn0
    try simp only [Go.Act.put, List.setIfInBounds_toArray, List.set_cons_zero, List.set_cons_succ]
    refine wpAnyS_take (i := 2) (oi := ?oin2) (v := .agg #[.string nm, .slice go_ gs.length gc]) ?hin2 (by kernel_rfl) (by kernel_rfl) (by kernel_rfl) (lateK_iff (by rfl)) ?hqn2 ?hyn2 hCn1 hSn1 ?restn2
    case hin2 => simp only [List.getElem?_toArray, List.getElem?_cons_succ, List.getElem?_cons_zero, Option.some.injEq]; rfl
    case hqn2 => exact fun _ _ _ h => h
    case hyn2 =>
      refine Or.inl ⟨by kernel_rfl, fun V hV => ?_⟩
      have gV := lateK_g hV; have zzx0 := grown_cell gV x0; have zzx1 := grown_cell gV x1; clear gV; clear hV
      go_simp
    intro hCn2 hSn2
    clear hCn1 hSn1
    try simp only [Go.Act.put, List.setIfInBounds_toArray, List.set_cons_zero, List.set_cons_succ]
    refine wpAnyS_ready (rs := [1]) (by kernel_rfl) (by simp) ?_
    refine AllReadyS.cons rfl hCn2 (fun K hK => ?_) AllReadyS.nil
    go_simp
    refine (checkSeg_is ⟨nm, go_, gc, gs⟩ _ (HS.out.grown (grown_trans G6.out gd.out)) HE).mono ?_; rintro e w7 ⟨rfl, hg7⟩
    refine hK.out _ _ (grown_trans gd.out hg7) (fun hCn3 hSn3 => ?_)
    clear hK hCn2 hSn2 K
    try simp only [Go.Act.put, List.setIfInBounds_toArray, List.set_cons_zero, List.set_cons_succ]
    refine wpAnyS_ready (rs := [3]) (by kernel_rfl) (by simp) ?_
    refine AllReadyS.cons rfl hCn3 (fun K hK => ?_) AllReadyS.nil
    go_simp
    refine (rcheckSeg_is ⟨nm, go_, gc, gs⟩ _ (HS.out.grown (grown_trans G6.out (grown_trans gd.out hg7))) HE).mono ?_; rintro e w8 ⟨rfl, hg8⟩
    refine hK.out _ _ (grown_trans (grown_trans gd.out hg7) hg8) (fun hCn4 hSn4 => ?_)
    clear hK hCn3 hSn3 K
    try simp only [Go.Act.put, List.setIfInBounds_toArray, List.set_cons_zero, List.set_cons_succ]
    refine wpAnyS_take (i := 4) (oi := ?oin5) (v := .bool true) ?hin5 (by kernel_rfl) (by kernel_rfl) (by kernel_rfl) (lateK_iff (by rfl)) ?hqn5 ?hyn5 hCn4 hSn4 ?restn5
    case hin5 => simp only [List.getElem?_toArray, List.getElem?_cons_succ, List.getElem?_cons_zero, Option.some.injEq]; rfl
    case hqn5 => exact fun _ _ _ h => h
    case hyn5 =>
      refine Or.inl ⟨by kernel_rfl, fun V hV => ?_⟩
      clear hV
      go_simp
    intro hCn5 hSn5
    clear hCn4 hSn4
    try simp only [Go.Act.put, List.setIfInBounds_toArray, List.set_cons_zero, List.set_cons_succ]
    refine wpAnyS_take (i := 5) (oi := ?oin6) (v := .bool true) ?hin6 (by kernel_rfl) (by kernel_rfl) (by kernel_rfl) (lateK_iff (by rfl)) ?hqn6 ?hyn6 hCn5 hSn5 ?restn6
    case hin6 => simp only [List.getElem?_toArray, List.getElem?_cons_succ, List.getElem?_cons_zero, Option.some.injEq]; rfl
    case hqn6 => exact fun _ _ _ h => h
    case hyn6 =>
      refine Or.inl ⟨by kernel_rfl, fun V hV => ?_⟩
      clear hV
      go_simp
    intro hCn6 hSn6
    clear hCn5 hSn5
    try simp only [Go.Act.put, List.setIfInBounds_toArray, List.set_cons_zero, List.set_cons_succ]
    refine wpAnyS_take (i := 6) (oi := ?oin7) (v := .agg #[.string N, .slice a1 L.length c1]) ?hin7 (by kernel_rfl) (by kernel_rfl) (by kernel_rfl) (lateK_iff (by rfl)) ?hqn7 ?hyn7 hCn6 hSn6 ?restn7
    case hin7 => simp only [List.getElem?_toArray, List.getElem?_cons_succ, List.getElem?_cons_zero, Option.some.injEq]; rfl
    case hqn7 => exact fun _ _ _ h => h
    case hyn7 =>
      refine Or.inl ⟨by kernel_rfl, fun V hV => ?_⟩
      have gV := lateK_g hV; have zzy0 := grown_cell gV y0; have zzy1 := grown_cell gV y1; clear gV; clear hV
      go_simp
    intro hCn7 hSn7
    clear hCn6 hSn6
    try simp only [Go.Act.put, List.setIfInBounds_toArray, List.set_cons_zero, List.set_cons_succ]
    refine wpAnyS_take (i := 7) (oi := ?oin8) (v := .agg #[.string N, .slice a2 L.length c2]) ?hin8 (by kernel_rfl) (by kernel_rfl) (by kernel_rfl) (lateK_iff (by rfl)) ?hqn8 ?hyn8 hCn7 hSn7 ?restn8
    case hin8 => simp only [List.getElem?_toArray, List.getElem?_cons_succ, List.getElem?_cons_zero, Option.some.injEq]; rfl
    case hqn8 => exact fun _ _ _ h => h
    case hyn8 =>
      refine Or.inl ⟨by kernel_rfl, fun V hV => ?_⟩
      have gV := lateK_g hV; have zzu0 := grown_cell gV u0; have zzu1 := grown_cell gV u1; clear gV; clear hV
      go_simp
    intro hCn8 hSn8
    clear hCn7 hSn7
    try simp only [Go.Act.put, List.setIfInBounds_toArray, List.set_cons_zero, List.set_cons_succ]
    refine wpAnyS_ready (rs := [8]) (by kernel_rfl) (by simp) ?_
    refine AllReadyS.cons rfl hCn8 (fun K hK => ?_) AllReadyS.nil
    go_simp
    refine (same_is N _ (P6.out.grown (grown_trans (grown_trans gd.out hg7) hg8)) (Q6.out.grown (grown_trans (grown_trans gd.out hg7) hg8)) LN.out).mono ?_; rintro e w9 ⟨rfl, hg9⟩
    refine hK.out _ _ (grown_trans (grown_trans (grown_trans gd.out hg7) hg8) hg9) (fun hCn9 hSn9 => ?_)
    clear hK hCn8 hSn8 K
    try simp only [Go.Act.put, List.setIfInBounds_toArray, List.set_cons_zero, List.set_cons_succ]
    refine wpAnyS_take (i := 9) (oi := ?oin10) (v := .bool true) ?hin10 (by kernel_rfl) (by kernel_rfl) (by kernel_rfl) (lateK_iff (by rfl)) ?hqn10 ?hyn10 hCn9 hSn9 ?restn10
    case hin10 => simp only [List.getElem?_toArray, List.getElem?_cons_succ, List.getElem?_cons_zero, Option.some.injEq]; rfl
    case hqn10 => exact fun _ _ _ h => h
    case hyn10 =>
      refine Or.inl ⟨by kernel_rfl, fun V hV => ?_⟩
      clear hV
      go_simp
    intro hCn10 hSn10
    clear hCn9 hSn9
    try simp only [Go.Act.put, List.setIfInBounds_toArray, List.set_cons_zero, List.set_cons_succ]
    refine wpAnyS_take (i := 10) (oi := ?oin11) (v := .bool true) ?hin11 (by kernel_rfl) (by kernel_rfl) (by kernel_rfl) (lateK_iff (by rfl)) ?hqn11 ?hyn11 hCn10 hSn10 ?restn11
    case hin11 => simp only [List.getElem?_toArray, List.getElem?_cons_succ, List.getElem?_cons_zero, Option.some.injEq]; rfl
    case hqn11 => exact fun _ _ _ h => h
    case hyn11 =>
      refine Or.inl ⟨by kernel_rfl, fun V hV => ?_⟩
      clear hV
      go_simp
    intro hCn11 hSn11
    clear hCn10 hSn10
    try simp only [Go.Act.put, List.setIfInBounds_toArray, List.set_cons_zero, List.set_cons_succ]
    refine wpAnyS_take (i := 11) (oi := ?oin12) (v := .int .i64 E) ?hin12 (by kernel_rfl) (by kernel_rfl) (by kernel_rfl) (lateK_iff (by rfl)) ?hqn12 ?hyn12 hCn11 hSn11 ?restn12
    case hin12 => simp only [List.getElem?_toArray, List.getElem?_cons_succ, List.getElem?_cons_zero, Option.some.injEq]; rfl
    case hqn12 => exact fun _ _ _ h => h
    case hyn12 =>
      refine Or.inl ⟨by kernel_rfl, fun V hV => ?_⟩
      clear hV
      go_simp
    intro hCn12 hSn12
    clear hCn11 hSn11
    try simp only [Go.Act.put, List.setIfInBounds_toArray, List.set_cons_zero, List.set_cons_succ]
    refine wpAnyS_take (i := 12) (oi := ?oin13) (v := .int .i64 E) ?hin13 (by kernel_rfl) (by kernel_rfl) (by kernel_rfl) (lateK_iff (by rfl)) ?hqn13 ?hyn13 hCn12 hSn12 ?restn13
    case hin13 => simp only [List.getElem?_toArray, List.getElem?_cons_succ, List.getElem?_cons_zero, Option.some.injEq]; rfl
    case hqn13 => exact fun _ _ _ h => h
    case hyn13 =>
      refine Or.inl ⟨by kernel_rfl, fun V hV => ?_⟩
      clear hV
      go_simp
    intro hCn13 hSn13
    clear hCn12 hSn12
    try simp only [Go.Act.put, List.setIfInBounds_toArray, List.set_cons_zero, List.set_cons_succ]
    refine wpAnyS_take (i := 13) (oi := ?oin14) (v := .bool true) ?hin14 (by kernel_rfl) (by kernel_rfl) (by kernel_rfl) (lateK_iff (by rfl)) ?hqn14 ?hyn14 hCn13 hSn13 ?restn14
    case hin14 => simp only [List.getElem?_toArray, List.getElem?_cons_succ, List.getElem?_cons_zero, Option.some.injEq]; rfl
    case hqn14 => exact fun _ _ _ h => h
    case hyn14 =>
      refine Or.inl ⟨by kernel_rfl, fun V hV => ?_⟩
      clear hV
      go_simp
    intro hCn14 hSn14
    clear hCn13 hSn13
    try simp only [Go.Act.put, List.setIfInBounds_toArray, List.set_cons_zero, List.set_cons_succ]
    refine wpAnyS_take (i := 14) (oi := ?oin15) (v := .bool true) ?hin15 (by kernel_rfl) (by kernel_rfl) (by kernel_rfl) (lateK_iff (by rfl)) ?hqn15 ?hyn15 hCn14 hSn14 ?restn15
    case hin15 => simp only [List.getElem?_toArray, List.getElem?_cons_succ, List.getElem?_cons_zero, Option.some.injEq]; rfl
    case hqn15 => exact fun _ _ _ h => h
    case hyn15 =>
      refine Or.inl ⟨by kernel_rfl, fun V hV => ?_⟩
      clear hV
      go_simp
    intro hCn15 hSn15
    clear hCn14 hSn14
    try simp only [Go.Act.put, List.setIfInBounds_toArray, List.set_cons_zero, List.set_cons_succ]
    refine wpAnyS_take (i := 15) (oi := ?oin16) (v := .bool true) ?hin16 (by kernel_rfl) (by kernel_rfl) (by kernel_rfl) (lateK_iff (by rfl)) ?hqn16 ?hyn16 hCn15 hSn15 ?restn16
    case hin16 => simp only [List.getElem?_toArray, List.getElem?_cons_succ, List.getElem?_cons_zero, Option.some.injEq]; rfl
    case hqn16 => exact fun _ _ _ h => h
    case hyn16 =>
      refine Or.inl ⟨by kernel_rfl, fun V hV => ?_⟩
      clear hV
      go_simp
    intro hCn16 hSn16
    clear hCn15 hSn15
    try simp only [Go.Act.put, List.setIfInBounds_toArray, List.set_cons_zero, List.set_cons_succ]
    refine wpAnyS_take (i := 16) (oi := ?oin17) (v := .int .i64 E) ?hin17 (by kernel_rfl) (by kernel_rfl) (by kernel_rfl) (lateK_iff (by rfl)) ?hqn17 ?hyn17 hCn16 hSn16 ?restn17
    case hin17 => simp only [List.getElem?_toArray, List.getElem?_cons_succ, List.getElem?_cons_zero, Option.some.injEq]; rfl
    case hqn17 => exact fun _ _ _ h => h
    case hyn17 =>
      refine Or.inl ⟨by kernel_rfl, fun V hV => ?_⟩
      clear hV
      go_simp
    intro hCn17 hSn17
    clear hCn16 hSn16
    try simp only [Go.Act.put, List.setIfInBounds_toArray, List.set_cons_zero, List.set_cons_succ]
    refine wpAnyS_take (i := 17) (oi := ?oin18) (v := .bool true) ?hin18 (by kernel_rfl) (by kernel_rfl) (by kernel_rfl) (lateK_iff (by rfl)) ?hqn18 ?hyn18 hCn17 hSn17 ?restn18
    case hin18 => simp only [List.getElem?_toArray, List.getElem?_cons_succ, List.getElem?_cons_zero, Option.some.injEq]; rfl
    case hqn18 => exact fun _ _ _ h => h
    case hyn18 =>
      refine Or.inl ⟨by kernel_rfl, fun V hV => ?_⟩
      clear hV
      go_simp
    intro hCn18 hSn18
    clear hCn17 hSn17
    try simp only [Go.Act.put, List.setIfInBounds_toArray, List.set_cons_zero, List.set_cons_succ]
    refine wpAnyS_take (i := 18) (oi := ?oin19) (v := .bool true) ?hin19 (by kernel_rfl) (by kernel_rfl) (by kernel_rfl) (lateK_iff (by rfl)) ?hqn19 ?hyn19 hCn18 hSn18 ?restn19
    case hin19 => simp only [List.getElem?_toArray, List.getElem?_cons_succ, List.getElem?_cons_zero, Option.some.injEq]; rfl
    case hqn19 => exact fun _ _ _ h => h
    case hyn19 =>
      refine Or.inl ⟨by kernel_rfl, fun V hV => ?_⟩
      clear hV
      go_simp
    intro hCn19 hSn19
    clear hCn18 hSn18
    try simp only [Go.Act.put, List.setIfInBounds_toArray, List.set_cons_zero, List.set_cons_succ]
    refine wpAnyS_take (i := 19) (oi := ?oin20) (v := undef) ?hin20 (by kernel_rfl) (by kernel_rfl) (by kernel_rfl) (lateK_iff (by rfl)) ?hqn20 ?hyn20 hCn19 hSn19 ?restn20
    case hin20 => simp only [List.getElem?_toArray, List.getElem?_cons_succ, List.getElem?_cons_zero, Option.some.injEq]; rfl
    case hqn20 => exact fun _ _ _ h => h
    case hyn20 => exact Or.inr ⟨by kernel_rfl, rfl⟩
    intro hCn20 hSn20
    clear hCn19 hSn19
    try simp only [Go.Act.put, List.setIfInBounds_toArray, List.set_cons_zero, List.set_cons_succ]
    refine wpAnyS_take (i := 20) (oi := ?oin21) (v := undef) ?hin21 (by kernel_rfl) (by kernel_rfl) (by kernel_rfl) (lateK_iff (by rfl)) ?hqn21 ?hyn21 hCn20 hSn20 ?restn21
    case hin21 => simp only [List.getElem?_toArray, List.getElem?_cons_succ, List.getElem?_cons_zero, Option.some.injEq]; rfl
    case hqn21 => exact fun _ _ _ h => h
    case hyn21 => exact Or.inr ⟨by kernel_rfl, rfl⟩
    intro hCn21 hSn21
    clear hCn20 hSn20
    try simp only [Go.Act.put, List.setIfInBounds_toArray, List.set_cons_zero, List.set_cons_succ]
    refine wpAnyS_take (i := 21) (oi := ?oin22) (v := undef) ?hin22 (by kernel_rfl) (by kernel_rfl) (by kernel_rfl) (lateK_iff (by rfl)) ?hqn22 ?hyn22 hCn21 hSn21 ?restn22
    case hin22 => simp only [List.getElem?_toArray, List.getElem?_cons_succ, List.getElem?_cons_zero, Option.some.injEq]; rfl
    case hqn22 => exact fun _ _ _ h => h
    case hyn22 => exact Or.inr ⟨by kernel_rfl, rfl⟩
    intro hCn22 hSn22
    clear hCn21 hSn21
    try simp only [Go.Act.put, List.setIfInBounds_toArray, List.set_cons_zero, List.set_cons_succ]
    refine wpAnyS_take (i := 22) (oi := ?oin23) (v := undef) ?hin23 (by kernel_rfl) (by kernel_rfl) (by kernel_rfl) (lateK_iff (by rfl)) ?hqn23 ?hyn23 hCn22 hSn22 ?restn23
    case hin23 => simp only [List.getElem?_toArray, List.getElem?_cons_succ, List.getElem?_cons_zero, Option.some.injEq]; rfl
    case hqn23 => exact fun _ _ _ h => h
    case hyn23 => exact Or.inr ⟨by kernel_rfl, rfl⟩
    intro hCn23 hSn23
    clear hCn22 hSn22
    try simp only [Go.Act.put, List.setIfInBounds_toArray, List.set_cons_zero, List.set_cons_succ]
    refine wpAnyS_take (i := 23) (oi := ?oin24) (v := undef) ?hin24 (by kernel_rfl) (by kernel_rfl) (by kernel_rfl) (lateK_iff (by rfl)) ?hqn24 ?hyn24 hCn23 hSn23 ?restn24
    case hin24 => simp only [List.getElem?_toArray, List.getElem?_cons_succ, List.getElem?_cons_zero, Option.some.injEq]; rfl
    case hqn24 => exact fun _ _ _ h => h
    case hyn24 => exact Or.inr ⟨by kernel_rfl, rfl⟩
    intro hCn24 hSn24
    clear hCn23 hSn23
    try simp only [Go.Act.put, List.setIfInBounds_toArray, List.set_cons_zero, List.set_cons_succ]
    refine wpAnyS_ready (rs := [24]) (by kernel_rfl) (by simp) ?_
    refine AllReadyS.cons rfl hCn24 (fun K hK => ?_) AllReadyS.nil
    go_simp
    refine hK.out _ _ (grown_trans (grown_trans (grown_trans gd.out hg7) hg8) hg9) (fun hCn25 hSn25 => ?_)
    clear hK hCn24 hSn24 K
    try simp only [Go.Act.put, List.setIfInBounds_toArray, List.set_cons_zero, List.set_cons_succ]
    refine wpAnyS_take (i := 25) (oi := ?oin26) (v := undef) ?hin26 (by kernel_rfl) (by kernel_rfl) (by kernel_rfl) (lateK_iff (by rfl)) ?hqn26 ?hyn26 hCn25 hSn25 ?restn26
    case hin26 => simp only [List.getElem?_toArray, List.getElem?_cons_succ, List.getElem?_cons_zero, Option.some.injEq]; rfl
    case hqn26 => exact fun _ _ _ h => h
    case hyn26 => exact Or.inr ⟨by kernel_rfl, rfl⟩
    intro hCn26 hSn26
    clear hCn25 hSn25
    try simp only [Go.Act.put, List.setIfInBounds_toArray, List.set_cons_zero, List.set_cons_succ]
    refine wpAnyS_take (i := 26) (oi := ?oin27) (v := .bool true) ?hin27 (by kernel_rfl) (by kernel_rfl) (by kernel_rfl) (lateK_iff (by rfl)) ?hqn27 ?hyn27 hCn26 hSn26 ?restn27
    case hin27 => simp only [List.getElem?_toArray, List.getElem?_cons_succ, List.getElem?_cons_zero, Option.some.injEq]; rfl
    case hqn27 => exact fun _ _ _ h => h
    case hyn27 =>
      refine Or.inl ⟨by kernel_rfl, fun V hV => ?_⟩
      clear hV
      go_simp
    intro hCn27 hSn27
    clear hCn26 hSn26
    try simp only [Go.Act.put, List.setIfInBounds_toArray, List.set_cons_zero, List.set_cons_succ]
    refine wpAnyS_take (i := 27) (oi := ?oin28) (v := .bool true) ?hin28 (by kernel_rfl) (by kernel_rfl) (by kernel_rfl) (lateK_iff (by rfl)) ?hqn28 ?hyn28 hCn27 hSn27 ?restn28
    case hin28 => simp only [List.getElem?_toArray, List.getElem?_cons_succ, List.getElem?_cons_zero, Option.some.injEq]; rfl
    case hqn28 => exact fun _ _ _ h => h
    case hyn28 =>
      refine Or.inl ⟨by kernel_rfl, fun V hV => ?_⟩
      clear hV
      go_simp
    intro hCn28 hSn28
    clear hCn27 hSn27
    try simp only [Go.Act.put, List.setIfInBounds_toArray, List.set_cons_zero, List.set_cons_succ]
    refine wpAnyS_take (i := 28) (oi := ?oin29) (v := .bool true) ?hin29 (by kernel_rfl) (by kernel_rfl) (by kernel_rfl) (lateK_iff (by rfl)) ?hqn29 ?hyn29 hCn28 hSn28 ?restn29
    case hin29 => simp only [List.getElem?_toArray, List.getElem?_cons_succ, List.getElem?_cons_zero, Option.some.injEq]; rfl
    case hqn29 => exact fun _ _ _ h => h
    case hyn29 =>
      refine Or.inl ⟨by kernel_rfl, fun V hV => ?_⟩
      clear hV
      go_simp
    intro hCn29 hSn29
    clear hCn28 hSn28
    try simp only [Go.Act.put, List.setIfInBounds_toArray, List.set_cons_zero, List.set_cons_succ]
    refine wpAnyS_ready (rs := [29]) (by kernel_rfl) (by simp) ?_
    refine AllReadyS.cons rfl hCn29 (fun K hK => ?_) AllReadyS.nil
    go_simp
    refine (told5_any _).mono ?_; rintro e w11 ⟨rfl, hg11⟩
    refine hK.out _ _ (grown_trans (grown_trans (grown_trans (grown_trans gd.out hg7) hg8) hg9) hg11) (fun hCn30 hSn30 => ?_)
    clear hK hCn29 hSn29 K
    try simp only [Go.Act.put, List.setIfInBounds_toArray, List.set_cons_zero, List.set_cons_succ]
    refine wpAnyS_take (i := 30) (oi := ?oin31) (v := .bool true) ?hin31 (by kernel_rfl) (by kernel_rfl) (by kernel_rfl) (lateK_iff (by rfl)) ?hqn31 ?hyn31 hCn30 hSn30 ?restn31
    case hin31 => simp only [List.getElem?_toArray, List.getElem?_cons_succ, List.getElem?_cons_zero, Option.some.injEq]; rfl
    case hqn31 => exact fun _ _ _ h => h
    case hyn31 =>
      refine Or.inl ⟨by kernel_rfl, fun V hV => ?_⟩
      clear hV
      go_simp
    intro hCn31 hSn31
    clear hCn30 hSn30
    try simp only [Go.Act.put, List.setIfInBounds_toArray, List.set_cons_zero, List.set_cons_succ]
    refine wpAnyS_take (i := 31) (oi := ?oin32) (v := .bool true) ?hin32 (by kernel_rfl) (by kernel_rfl) (by kernel_rfl) (lateK_iff (by rfl)) ?hqn32 ?hyn32 hCn31 hSn31 ?restn32
    case hin32 => simp only [List.getElem?_toArray, List.getElem?_cons_succ, List.getElem?_cons_zero, Option.some.injEq]; rfl
    case hqn32 => exact fun _ _ _ h => h
    case hyn32 =>
      refine Or.inl ⟨by kernel_rfl, fun V hV => ?_⟩
      clear hV
      go_simp
    intro hCn32 hSn32
    clear hCn31 hSn31
    try simp only [Go.Act.put, List.setIfInBounds_toArray, List.set_cons_zero, List.set_cons_succ]
    refine wpAnyS_done (by kernel_rfl) ?_ _
    clear hCn32 hSn32
    have GZ := Lib.hid (grown_trans G6.out (grown_trans (grown_trans (grown_trans (grown_trans gd.out hg7) hg8) hg9) hg11))
    clear x0 x1 y0 y1 u0 u1 t0 t1 gd hg7 hg8 hg9 hg11
    go_wp2_with fail
    go_ret
    exact ⟨rfl, GZ.out⟩
end Go.Proofs.Ytnjanjbjhbniiaa
