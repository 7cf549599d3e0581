/- The contract of the reference's combined. -/
import Derived.Test.YtbacoopopokkfaaGreatDoorQSetE
import Derived.Test.YtbacoopopokkfaaGreatDoorGrV
import Derived.Deep.RegionHeld3
import Derived.Deep.AppendLies
import Derived.BigQuiet
namespace Go.Proofs.YtbacoopopokkfaaGreatDoor
open Go.RowKit Go.Shelf
set_option linter.unusedSimpArgs false
set_option linter.unusedVariables false

theorem int_at {w : World} {ao : Option Addr} {L : List Int} (h : RowsAt intCs 1 w ao L) (hl : 0 < L.length) : ∃ g o, ao = some ⟨g, o, none⟩ ∧ ∀ i (hi : i < L.length), w.cell? ⟨g, o + i, none⟩ = some (.int .i64 L[i]) := by
  obtain ⟨g, o, e, hc⟩ := rows_at h hl
  exact ⟨g, o, e, fun i hi => by have := hc i hi 0 _ rfl; simpa using this⟩
theorem grown_setS (W : World) (b k : Nat) (v : Value) : W.grownBy (W.setCell ⟨b, k, none⟩ v) (some b) :=
  ⟨rfl, rfl, rfl, by simp [World.setCell], fun i hi hne => by
    rw [Below.heap_setCell _ _ _ _ (fun e => hne (by rw [e]))]⟩
theorem cmbT_at {a b : List SpV} {i : Nat} (h : i < (endL a b).length) : (endL a b)[i] = cmbT a b i := by
  unfold cmbT; rw [List.getD_eq_getElem?_getD, List.getElem?_eq_getElem h]; rfl
theorem cmbT_bd {a b : List SpV} (ia : InB a) (ib : InB b) {i : Nat} (h : i < (endL a b).length) : 0 ≤ cmbT a b i ∧ cmbT a b i ≤ 1000000000001 := by
  rcases (endL_mem a b _).1 (cmb_mem a b h) with ⟨x, hx, e⟩ | ⟨x, hx, e⟩
  · have := ia x hx; rcases e with e | e <;> rw [e] <;> omega
  · have := ib x hx; rcases e with e | e <;> rw [e] <;> omega

attribute [local go_sem] Oper.semAt_some
set_option maxRecDepth 100000 in
set_option maxHeartbeats 6400000 in
theorem combined_is (ao bo : Option Addr) (ac bc : Nat) (A B : List SpV) (how : Nat) (hh : how = 1 ∨ how = 2 ∨ how = 3) (hla : A.length ≤ 1000) (hlb : B.length ≤ 1000) (ia : InB A) (ib : InB B) (ca : Canon A) (cb : Canon B) (w : World) (ha : RowsAt spCs 2 w ao A) (hb : RowsAt spCs 2 w bo B) :
    Calls Tryz.prog 46 #[.slice ao A.length ac, .slice bo B.length bc, .int .i64 (how : Int)] w fun x w' => (∃ v, x = .returned v ∧ SpOwn w.heap.size w' v (cmbL A B how)) ∧ w.grownBy w' none := by
  obtain ⟨i0, hi, hz0, hz1, hz2⟩ := info_parts zero_sp
  have HI0 := Lib.hid hi; have HZ0 := Lib.hid hz0; have HZ1 := Lib.hid hz1; have HZ2 := Lib.hid hz2
  have HA := Lib.hid ha; have HB := Lib.hid hb; have HIA := Lib.hid ia; have HIB := Lib.hid ib; have HCA := Lib.hid ca; have HCB := Lib.hid cb; have HH := Lib.hid hh
  clear hi hz0 hz1 hz2 ha hb ia ib ca cb hh
  go_enter Tryz.func46, Tryz.ntmps46
  go_wp2_with fail
  refine (ends_is ao bo ac bc A B hla hlb HIA.out HIB.out _ HA.out HB.out).mono ?_
  rintro e w1 ⟨⟨vl, rfl, hvl⟩, hg1⟩
  obtain ⟨lo, lc, rfl, hlr⟩ := hvl.rows
  have HLR := Lib.hid hlr
  have HVL := Lib.hid hvl.lt
  have HG1 := Lib.hid hg1
  have hlen := endL_len A B
  obtain ⟨N, hN⟩ : ∃ N, (endL A B).length = N := ⟨_, rfl⟩
  have HNN := Lib.hid hN
  rw [hN] at hlen ⊢
  have hN4 : N ≤ 4000 := by omega
  have HVL2 : Hid (∀ k, (Value.slice lo N lc).ownBlock = some k → k < w1.heap.size) := fun k e => by
    rw [← HNN.out] at e; exact (HVL.out k e).2
  clear hvl hg1 hlr hN hlen HVL
  go_wp2_with fail
  go_loopw [8, 9] (fun ov iv wr => (∃ (i : Nat) (out : List SpV) (v : Value), i ≤ N - 1 ∧ iv = .int .i64 i ∧ v = ov ∧ Hid (out = rowL (cmbT A B) (cmbM A B how) i) ∧ Hid (SpOwn w1.heap.size wr v out)) ∧ Hid (w1.grownBy wr none)) (fun _ iv _ => N - (intOf iv).toNat)
  case atStart => exact ⟨⟨0, [], _, Nat.zero_le _, rfl, rfl, rfl, SpOwn.nil _ _⟩, World.grownBy.refl _ _⟩
  case round =>
    obtain ⟨⟨i, out, v, hi, rfl, rfl, hout, ho⟩, hg⟩ := hrel
    by_cases hlt : i + 1 < N
    · have hltE : i + 1 < (endL A B).length := by rw [HNN.out]; exact hlt
      obtain ⟨gl, ol, rfl, hc⟩ := int_at HLR.out (by omega)
      have c0 := hc i (by omega)
      have c1 := hc (i + 1) hltE
      rw [cmbT_at (by omega)] at c0
      rw [cmbT_at hltE] at c1
      have b0 := cmbT_bd HIA.out HIB.out (show i < (endL A B).length by omega)
      have b1 := cmbT_bd HIA.out HIB.out hltE
      have HGL : Hid (gl < w1.heap.size) := HVL2.out gl rfl
      have HST : Hid (rowL (cmbT A B) (cmbM A B how) (i + 1) = rowS (cmbT A B) out i (cmbM A B how i)) := by
        show _ = _
        rw [hout.out]; rfl
      obtain ⟨t0, ht0⟩ : ∃ t, cmbT A B i = t := ⟨_, rfl⟩
      obtain ⟨t1, ht1⟩ : ∃ t, cmbT A B (i + 1) = t := ⟨_, rfl⟩
      rw [ht0] at c0 b0
      rw [ht1] at c1 b1
      replace c0 := hg.out.cell c0 (by simp); replace c1 := hg.out.cell c1 (by simp)
      have HT0 := Lib.hid ht0; have HT1 := Lib.hid ht1
      have ri : IntKind.i64.wrap ((i : Int) + 1) = (i : Int) + 1 := IntWalk.i64_in _ (by omega)
      have rt1 : IntKind.i64.wrap (t1 - 1) = t1 - 1 := IntWalk.i64_in _ (by omega)
      have rt0 : IntKind.i64.wrap (t0 - 1) = t0 - 1 := IntWalk.i64_in _ (by omega)
      have li : (i : Int) + 1 < (N : Int) := by omega
      have li0 : (i : Int) < (N : Int) := by omega
      have lz : (0 : Int) ≤ (i : Int) := by omega
      have lz1 : (0 : Int) ≤ (i : Int) + 1 := by omega
      have hol : out.length ≤ 4000 := by
        rw [hout.out]
        have q := (cmb_row HCA.out HCB.out how i (by omega)).2.2.1
        omega
      have ei : ((i + 1 : Nat) : Int) = (i : Int) + 1 := by omega
      have HEI := Lib.hid ei
      clear hc ht0 ht1 ei hltE
      by_cases hq : t0 = t1
      · have hb : (t0 == t1) = true := beq_iff_eq.2 hq
        have HRS : Hid (rowS (cmbT A B) out i (cmbM A B how i) = out) := by
          show _ = _
          unfold cmbM
          rw [HT0.out, HT1.out, decide_eq_true hq]; rfl
        clear hq
        as_aux_lemma =>
          go_wp2_with fail
          go_quiet (fail)
          go_wp2_with fail
          go_roundw
          case rel => exact ⟨⟨i + 1, out, v, by omega, by go_num, rfl, (by show _ = _; rw [HST.out, HRS.out]), ho.out.keep (grown_drewN _ _ _)⟩, grown_trans hg.out (grown_drewN _ _ _)⟩
          case measure => simp [intOf]; omega
      · have hb : (t0 == t1) = false := beq_eq_false_iff_ne.2 hq
        obtain ⟨pa, hpa⟩ : ∃ p, covS A t0 = p := ⟨_, rfl⟩
        obtain ⟨pb, hpb⟩ : ∃ p, covS B t0 = p := ⟨_, rfl⟩
        obtain ⟨kp, hkp⟩ : ∃ p, keepH how pa pb = p := ⟨_, rfl⟩
        have HM : Hid (cmbM A B how i = kp) := by
          show _ = _
          unfold cmbM
          rw [HT0.out, HT1.out, decide_eq_false hq, hpa, hpb, hkp]; rfl
        have HPA := Lib.hid hpa; have HPB := Lib.hid hpb; have HKP := Lib.hid hkp
        clear hpa hpb hkp hq
        have x0 : ∀ u : GrV wr, u.V.cell? ⟨gl, ol + i, none⟩ = some (.int .i64 t0) := fun u => u.h.cell c0 (by simp)
        have x1 : ∀ u : GrV wr, u.V.cell? ⟨gl, ol + (i + 1), none⟩ = some (.int .i64 t1) := fun u => u.h.cell c1 (by simp)
        have HC1 : Hid (∀ u : GrV wr, Calls Tryz.prog 32 #[.slice ao A.length ac, .int .i64 t0] u.V fun e w' => e = .returned (.bool pa) ∧ ∃ q : GrV wr, w' = q.V) :=
          fun u => GrV.calls (in_is ao ac A (by omega) t0 u.V (HA.out.grown (grown_trans HG1.out (grown_trans hg.out u.h))) HPA.out)
        have HC2 : Hid (∀ u : GrV wr, Calls Tryz.prog 32 #[.slice bo B.length bc, .int .i64 t0] u.V fun e w' => e = .returned (.bool pb) ∧ ∃ q : GrV wr, w' = q.V) :=
          fun u => GrV.calls (in_is bo bc B (by omega) t0 u.V (HB.out.grown (grown_trans HG1.out (grown_trans hg.out u.h))) HPB.out)
        have HC3 : Hid (∀ u : GrV wr, Calls Tryz.prog 65 #[.int .i64 (how : Int), .bool pa, .bool pb] u.V fun e w' => e = .returned (.bool kp) ∧ ∃ q : GrV wr, w' = q.V) :=
          fun u => (keeps_is how HH.out pa pb u.V).mono fun e w' h => ⟨by rw [h.1, HKP.out], u, h.2.symm⟩
        go_wp2_with fail
        refine wp_region_quiet_gv (by kernel_rfl) (by kernel_rfl) ?_
        repeat (quiet_step (fail))
        quiet_step (first | (go_at_call 32; exact HC1.out _))
        repeat (quiet_step (fail))
        quiet_step (first | (go_at_call 32; exact HC2.out _))
        repeat (quiet_step (fail))
        quiet_step (first | (go_at_call 65; exact HC3.out _))
        repeat (quiet_step (fail))
        refine wpQuiet_nil ?_
        rintro U ⟨p9, e9⟩
        have GU : Hid (wr.grownBy U none) := by show World.grownBy _ _ _; rw [e9]; exact p9.h
        have HGU := Lib.hid (grown_trans hg.out GU.out)
        have HOU := Lib.hid (ho.out.keep GU.out)
        replace c0 := GU.out.cell c0 (by simp); replace c1 := GU.out.cell c1 (by simp)
        clear e9 p9 HC1 HC2 HC3 x0 x1 hg ho GU
        cases kp with
        | false =>
          have HRS : Hid (rowS (cmbT A B) out i (cmbM A B how i) = out) := by
            show _ = _
            rw [HM.out]; rfl
          as_aux_lemma =>
            go_wp2_with fail
            go_roundw
            case rel => exact ⟨⟨i + 1, out, v, by omega, by go_num, rfl, (by show _ = _; rw [HST.out, HRS.out]), HOU.out⟩, HGU.out⟩
            case measure => simp [intOf]; omega
        | true =>
          obtain ⟨n, hn⟩ : ∃ n, out.length = n := ⟨_, rfl⟩
          have HLEN := Lib.hid hn
          rw [hn] at hol
          obtain ⟨ua, uc, rfl, hur⟩ := HOU.out.rows
          rw [hn] at HOU ⊢
          clear hur hn
          by_cases h0 : n = 0
          · subst h0
            have HRS : Hid (rowS (cmbT A B) out i (cmbM A B how i) = out ++ [⟨t0, t1 - 1⟩]) := by
              show _ = _
              unfold rowS
              rw [HM.out, if_pos rfl, HLEN.out, if_neg (by omega), HT0.out, HT1.out]
            as_aux_lemma =>
              go_wp2_with fail
              go_quiet (fail)
              have G8 : Hid (U.grownBy (U.drewN nq) none) := grown_drewN _ none nq
              generalize U.drewN nq = V8 at *
              have HG8 := Lib.hid (grown_trans HGU.out G8.out)
              have HSZ8 := Lib.hid HG8.out.size
              have HO8 : Hid (V8.ownsRow w1.heap.size 35 2 (.slice ua 0 uc) 0 (out.flatMap spCs)) := by
                have q : V8.ownsRow w1.heap.size 35 2 (.slice ua 0 uc) out.length (out.flatMap spCs) := HOU.out.keep G8.out
                rw [HLEN.out] at q; exact q
              have P0 := Lib.hid (G8.out.cell c0 (by simp)); have P1 := Lib.hid (G8.out.cell c1 (by simp))
              have NB : Hid (some gl ≠ (Value.slice ua 0 uc).ownBlock) := fun e => absurd HGL.out (Nat.not_lt.2 (HO8.out.lt _ e.symm).1)
              clear c0 c1 HOU
              go_wp2_with fail
              refine wp_region_noPanic ?_
              refine wp_region_held_drew (S := fun V => World.grownBy V8 V ((.slice ua 0 uc : Value)).ownBlock) (by kernel_rfl) (⟨rfl, rfl, rfl, Nat.le_refl _, fun _ _ _ => rfl⟩) (fun hHeld => ?_)
              refine wpAnyH_take (i := 0) (oi := ?oia0) (v := .slice ua 0 uc) ?hia0 (by kernel_rfl) (by kernel_rfl) (by kernel_rfl) ?hqa0 ?hya0 hHeld ?resta0
              case hia0 => simp only [List.getElem?_toArray, List.getElem?_cons_succ, List.getElem?_cons_zero, Option.some.injEq]; rfl
              case hqa0 => exact fun _ _ _ h => h
              case hya0 =>
                refine Or.inl ⟨by kernel_rfl, fun V hV => ?_⟩
                clear hV hHeld
                go_simp
              try simp only [Go.Act.put, List.setIfInBounds_toArray, List.set_cons_zero, List.set_cons_succ]
              refine wpAnyH_take (i := 1) (oi := ?oia1) (v := .slice (some ⟨gl, ol, none⟩) N lc) ?hia1 (by kernel_rfl) (by kernel_rfl) (by kernel_rfl) ?hqa1 ?hya1 hHeld ?resta1
              case hia1 => simp only [List.getElem?_toArray, List.getElem?_cons_succ, List.getElem?_cons_zero, Option.some.injEq]; rfl
              case hqa1 => exact fun _ _ _ h => h
              case hya1 =>
                refine Or.inl ⟨by kernel_rfl, fun V hV => ?_⟩
                clear hV hHeld
                go_simp
              try simp only [Go.Act.put, List.setIfInBounds_toArray, List.set_cons_zero, List.set_cons_succ]
              refine wpAnyH_take (i := 2) (oi := ?oia2) (v := .int .i64 (i : Int)) ?hia2 (by kernel_rfl) (by kernel_rfl) (by kernel_rfl) ?hqa2 ?hya2 hHeld ?resta2
              case hia2 => simp only [List.getElem?_toArray, List.getElem?_cons_succ, List.getElem?_cons_zero, Option.some.injEq]; rfl
              case hqa2 => exact fun _ _ _ h => h
              case hya2 =>
                refine Or.inl ⟨by kernel_rfl, fun V hV => ?_⟩
                clear hV hHeld
                go_simp
              try simp only [Go.Act.put, List.setIfInBounds_toArray, List.set_cons_zero, List.set_cons_succ]
              refine wpAnyH_take (i := 3) (oi := ?oia3) (v := .pointer (some ⟨gl, ol + i, none⟩)) ?hia3 (by kernel_rfl) (by kernel_rfl) (by kernel_rfl) ?hqa3 ?hya3 hHeld ?resta3
              case hia3 => simp only [List.getElem?_toArray, List.getElem?_cons_succ, List.getElem?_cons_zero, Option.some.injEq]; rfl
              case hqa3 => exact fun _ _ _ h => h
              case hya3 =>
                refine Or.inl ⟨by kernel_rfl, fun V hV => ?_⟩
                clear hV hHeld
                go_simp
              try simp only [Go.Act.put, List.setIfInBounds_toArray, List.set_cons_zero, List.set_cons_succ]
              refine wpAnyH_take (i := 4) (oi := ?oia4) (v := .int .i64 t0) ?hia4 (by kernel_rfl) (by kernel_rfl) (by kernel_rfl) ?hqa4 ?hya4 hHeld ?resta4
              case hia4 => simp only [List.getElem?_toArray, List.getElem?_cons_succ, List.getElem?_cons_zero, Option.some.injEq]; rfl
              case hqa4 => exact fun _ _ _ h => h
              case hya4 =>
                refine Or.inl ⟨by kernel_rfl, fun V hV => ?_⟩
                have r0 := hV.cell P0.out NB.out; clear hV hHeld
                go_simp
              try simp only [Go.Act.put, List.setIfInBounds_toArray, List.set_cons_zero, List.set_cons_succ]
              refine wpAnyH_take (i := 5) (oi := ?oia5) (v := .slice (some ⟨gl, ol, none⟩) N lc) ?hia5 (by kernel_rfl) (by kernel_rfl) (by kernel_rfl) ?hqa5 ?hya5 hHeld ?resta5
              case hia5 => simp only [List.getElem?_toArray, List.getElem?_cons_succ, List.getElem?_cons_zero, Option.some.injEq]; rfl
              case hqa5 => exact fun _ _ _ h => h
              case hya5 =>
                refine Or.inl ⟨by kernel_rfl, fun V hV => ?_⟩
                clear hV hHeld
                go_simp
              try simp only [Go.Act.put, List.setIfInBounds_toArray, List.set_cons_zero, List.set_cons_succ]
              refine wpAnyH_take (i := 6) (oi := ?oia6) (v := .int .i64 (i : Int)) ?hia6 (by kernel_rfl) (by kernel_rfl) (by kernel_rfl) ?hqa6 ?hya6 hHeld ?resta6
              case hia6 => simp only [List.getElem?_toArray, List.getElem?_cons_succ, List.getElem?_cons_zero, Option.some.injEq]; rfl
              case hqa6 => exact fun _ _ _ h => h
              case hya6 =>
                refine Or.inl ⟨by kernel_rfl, fun V hV => ?_⟩
                clear hV hHeld
                go_simp
              try simp only [Go.Act.put, List.setIfInBounds_toArray, List.set_cons_zero, List.set_cons_succ]
              refine wpAnyH_take (i := 7) (oi := ?oia7) (v := .int .i64 ((i : Int) + 1)) ?hia7 (by kernel_rfl) (by kernel_rfl) (by kernel_rfl) ?hqa7 ?hya7 hHeld ?resta7
              case hia7 => simp only [List.getElem?_toArray, List.getElem?_cons_succ, List.getElem?_cons_zero, Option.some.injEq]; rfl
              case hqa7 => exact fun _ _ _ h => h
              case hya7 =>
                refine Or.inl ⟨by kernel_rfl, fun V hV => ?_⟩
                clear hV hHeld
                go_simp
              try simp only [Go.Act.put, List.setIfInBounds_toArray, List.set_cons_zero, List.set_cons_succ]
              refine wpAnyH_take (i := 8) (oi := ?oia8) (v := .pointer (some ⟨gl, ol + (i + 1), none⟩)) ?hia8 (by kernel_rfl) (by kernel_rfl) (by kernel_rfl) ?hqa8 ?hya8 hHeld ?resta8
              case hia8 => simp only [List.getElem?_toArray, List.getElem?_cons_succ, List.getElem?_cons_zero, Option.some.injEq]; rfl
              case hqa8 => exact fun _ _ _ h => h
              case hya8 =>
                refine Or.inl ⟨by kernel_rfl, fun V hV => ?_⟩
                clear hV hHeld
                go_simp
              try simp only [Go.Act.put, List.setIfInBounds_toArray, List.set_cons_zero, List.set_cons_succ]
              refine wpAnyH_take (i := 9) (oi := ?oia9) (v := .int .i64 t1) ?hia9 (by kernel_rfl) (by kernel_rfl) (by kernel_rfl) ?hqa9 ?hya9 hHeld ?resta9
              case hia9 => simp only [List.getElem?_toArray, List.getElem?_cons_succ, List.getElem?_cons_zero, Option.some.injEq]; rfl
              case hqa9 => exact fun _ _ _ h => h
              case hya9 =>
                refine Or.inl ⟨by kernel_rfl, fun V hV => ?_⟩
                have r1 := hV.cell P1.out NB.out; clear hV hHeld
                go_simp
              try simp only [Go.Act.put, List.setIfInBounds_toArray, List.set_cons_zero, List.set_cons_succ]
              refine wpAnyH_take (i := 10) (oi := ?oia10) (v := .int .i64 (t1 - 1)) ?hia10 (by kernel_rfl) (by kernel_rfl) (by kernel_rfl) ?hqa10 ?hya10 hHeld ?resta10
              case hia10 => simp only [List.getElem?_toArray, List.getElem?_cons_succ, List.getElem?_cons_zero, Option.some.injEq]; rfl
              case hqa10 => exact fun _ _ _ h => h
              case hya10 =>
                refine Or.inl ⟨by kernel_rfl, fun V hV => ?_⟩
                clear hV hHeld
                go_simp
              try simp only [Go.Act.put, List.setIfInBounds_toArray, List.set_cons_zero, List.set_cons_succ]
              refine wpAnyH_take (i := 11) (oi := ?oia11) (v := .agg #[.int .i64 t0, .int .i64 (t1 - 1)]) ?hia11 (by kernel_rfl) (by kernel_rfl) (by kernel_rfl) ?hqa11 ?hya11 hHeld ?resta11
              case hia11 => simp only [List.getElem?_toArray, List.getElem?_cons_succ, List.getElem?_cons_zero, Option.some.injEq]; rfl
              case hqa11 => exact fun _ _ _ h => h
              case hya11 =>
                refine Or.inl ⟨by kernel_rfl, fun V hV => ?_⟩
                clear hV hHeld
                go_simp
              try simp only [Go.Act.put, List.setIfInBounds_toArray, List.set_cons_zero, List.set_cons_succ]
              refine wpAnyH_ready (rs := [12]) (by kernel_rfl) (by simp) ?_
              refine AllReadyH.cons rfl (fun K hK => ?_) AllReadyH.nil
              go_simp
              have hgX : World.grownBy V8 (World.alloc (V8).drew (.cells #[.int .i64 t0, .int .i64 (t1 - 1)] 35)) none := grown_trans (show World.grownBy V8 (V8).drew none from ⟨rfl, rfl, rfl, Nat.le_refl _, fun _ _ _ => rfl⟩) (World.grownBy_alloc _ _ _)
              refine hK.out _ _ (grown_low2 hgX) (fun hHeld1 => ?_)
              have HO1 := Lib.hid (keptR HO8.out hgX)
              have HBX := Lib.hid (heap_alloc_new (V8).drew (.cells #[.int .i64 t0, .int .i64 (t1 - 1)] 35))
              have hsw : (V8).drew.heap.size = (V8).heap.size := rfl
              try simp only [Go.Act.put, List.getElem_toArray, List.getElem_cons_zero, List.getElem_cons_succ, List.setIfInBounds_toArray, List.set_cons_zero, List.set_cons_succ]
              refine wpAnyH_ready (rs := [13]) (by kernel_rfl) (by simp) ?_
              refine AllReadyH.cons rfl (fun K hK => ?_) AllReadyH.nil
              refine step_append_lies _ (by rfl) _ _ _ (by rfl) w1.heap.size 35 i0 (.agg #[.int .i64 0, .int .i64 0]) 2 16 Tryz.underlying22 HI0.out HZ0.out HZ1.out HZ2.out rfl (by omega) (.slice ua 0 uc) (0) (out.flatMap spCs) (by rfl) HO1.out
                ⟨(V8).heap.size, 0, none⟩ 1 1 [.int .i64 t0, .int .i64 (t1 - 1)] (by rfl) (by rfl) (World.news_of_block HBX.out) (by simp [Value.oneCell'])
                (by omega) (by unfold maxLen; omega) (by omega) (by have := HSZ8.out; simp; omega) _ rfl ?_
              intro gg cap2 w4 hown1 hgrow hat hlt4
              refine hK.out _ _ (World.grownBy.trans hHeld1 hgrow) (fun hHeld => ?_)
              have HN2 : Hid (SpOwn w1.heap.size w4 (.slice (some ⟨gg, 0, none⟩) (0 + 1) cap2) (out ++ [⟨t0, t1 - 1⟩])) := SpOwn.more (by rw [HLEN.out]; exact hown1)
              have HG4 : Hid (w1.grownBy w4 none) := grown_anyS HG8.out (show World.grownBy V8 w4 ((.slice ua 0 uc : Value)).ownBlock from hHeld) (fun r e => (HO8.out.lt r e).1)
              clear hK hHeld1 hown1 hgrow hat hlt4 hgX HBX HO1
              try simp only [Go.Act.put, List.getElem_toArray, List.getElem_cons_zero, List.getElem_cons_succ, List.setIfInBounds_toArray, List.set_cons_zero, List.set_cons_succ]
              refine wpAnyH_take (i := 14) (oi := ?oia14) (v := .slice (some ⟨gg, 0, none⟩) (0 + 1) cap2) ?hia14 (by kernel_rfl) (by kernel_rfl) (by kernel_rfl) ?hqa14 ?hya14 hHeld ?resta14
              case hia14 => simp only [List.getElem?_toArray, List.getElem?_cons_succ, List.getElem?_cons_zero, Option.some.injEq]; rfl
              case hqa14 => exact fun _ _ _ h => h
              case hya14 =>
                refine Or.inl ⟨by kernel_rfl, fun V hV => ?_⟩
                clear hV hHeld
                go_simp
              try simp only [Go.Act.put, List.setIfInBounds_toArray, List.set_cons_zero, List.set_cons_succ]
              refine wpAnyH_done (by kernel_rfl) ?_ _
              refine NoPanic.normal ?_
              go_wp2_with fail
              go_roundw
              case rel => exact ⟨⟨i + 1, _, _, by omega, by go_num, rfl, (by show _ = _; rw [HST.out, HRS.out]), HN2.out⟩, HG4.out⟩
              case measure => simp [intOf]; omega
          · obtain ⟨m, rfl⟩ : ∃ m, n = m + 1 := ⟨n - 1, by omega⟩
            obtain ⟨gb, rfl⟩ : ∃ gb, ua = some ⟨gb, 0, none⟩ := by
              have q : U.ownsRow w1.heap.size 35 2 (.slice ua (m + 1) uc) out.length (out.flatMap spCs) := HOU.out
              rcases q.2 with ⟨e, q2⟩ | ⟨g', c', cur, e, _⟩
              · have := HLEN.out; omega
              · simp only [Value.slice.injEq] at e; exact ⟨g', e.1⟩
            have HO5 : Hid (U.ownsRow w1.heap.size 35 2 (.slice (some ⟨gb, 0, none⟩) (m + 1) uc) (m + 1) (out.flatMap spCs)) := by
              have q : U.ownsRow w1.heap.size 35 2 (.slice (some ⟨gb, 0, none⟩) (m + 1) uc) out.length (out.flatMap spCs) := HOU.out
              rw [HLEN.out] at q; exact q
            have hmL : m < out.length := by have := HLEN.out; omega
            have hLm : out[m]? = some out[m] := List.getElem?_eq_getElem hmL
            have hlast : spLast out = out[m] := by unfold spLast; rw [HLEN.out, Nat.add_sub_cancel, List.getD_eq_getElem?_getD, hLm]; rfl
            have e1 := own_cellK spCs_len HO5.out HLEN.out (show m < m + 1 by omega) hLm (c := 1) rfl
            obtain ⟨lt, hlt2⟩ : ∃ lt, out[m].to_ = lt := ⟨_, rfl⟩
            rw [hlt2] at e1
            have HLT : Hid ((spLast out).to_ = lt) := by show _ = _; rw [hlast]; exact hlt2
            have HFR : Hid (spLast out = ⟨out[m].fr, lt⟩) := by show _ = _; rw [hlast, ← hlt2]
            have rm1 : IntKind.i64.wrap ((m : Int) + 1 - 1) = (m : Int) := by rw [show (m : Int) + 1 - 1 = (m : Int) by omega]; exact IntWalk.i64_in _ (by omega)
            have rm2 : IntKind.i64.wrap (m : Int) = (m : Int) := IntWalk.i64_in _ (by omega)
            have im0 : (0 : Int) ≤ (m : Int) := by omega
            have im1 : (m : Int) < (m : Int) + 1 := by omega
            have im2 : decide ((0 : Int) < (m : Int) + 1) = true := decide_eq_true (by omega)
            have HGB : Hid (w1.heap.size ≤ gb ∧ gb < U.heap.size) := HO5.out.lt gb rfl
            have E1 := Lib.hid e1
            clear hlast hLm hlt2 h0
            by_cases he : lt = t0 - 1
            · have hbe : (lt == t0 - 1) = true := beq_iff_eq.2 he
              as_aux_lemma =>
                go_wp2_with fail
                go_quiet (fail)
                have G8 : Hid (U.grownBy (U.drewN nq) none) := grown_drewN _ none nq
                generalize U.drewN nq = V8 at *
                have HG8 := Lib.hid (grown_trans HGU.out G8.out)
                have HSZ8 := Lib.hid HG8.out.size
                have HO8 : Hid (V8.ownsRow w1.heap.size 35 2 (.slice (some ⟨gb, 0, none⟩) (m + 1) uc) (m + 1) (out.flatMap spCs)) := keptR HO5.out G8.out
                have f6 : V8.cell? ⟨gb, m * 2 + 1, none⟩ = some (.int .i64 lt) := G8.out.cell E1.out (by simp)
                have fr6 : V8.frozen? ⟨gb, m * 2 + 1, none⟩ = false := own_freeK HO8.out (m * 2 + 1)
                have d0 := G8.out.cell c0 (by simp); have d1 := G8.out.cell c1 (by simp)
                have HN : Hid (SpOwn w1.heap.size (V8.setCell ⟨gb, m * 2 + 1, none⟩ (.int .i64 (t1 - 1))) (.slice (some ⟨gb, 0, none⟩) (m + 1) uc) (rowL (cmbT A B) (cmbM A B how) (i + 1))) := by
                  have q := own_setV HO8.out (i := m * 2 + 1) (.int .i64 (t1 - 1))
                  have e : rowL (cmbT A B) (cmbM A B how) (i + 1) = out.set m ⟨out[m].fr, t1 - 1⟩ := by
                    rw [HST.out]
                    unfold rowS
                    rw [HM.out, if_pos rfl, if_pos ⟨by omega, by rw [HLT.out, HT0.out]; exact he⟩, HFR.out, HLEN.out, HT1.out]; rfl
                  rw [← sp_set out m hmL] at q
                  show World.ownsRow _ _ _ _ _ _ _
                  rw [e, List.length_set, HLEN.out]; exact q
                have HG9 := Lib.hid (grown_anyS HG8.out (grown_setS V8 gb (m * 2 + 1) (.int .i64 (t1 - 1))) (fun k e => by cases e; exact HGB.out.1))
                clear c0 c1 HOU HO5 HO8 e1
                go_wp2_with fail
                go_roundw
                case rel => exact ⟨⟨i + 1, _, _, by omega, by go_num, rfl, rfl, HN.out⟩, HG9.out⟩
                case measure => simp [intOf]; omega
            · have hbe : (lt == t0 - 1) = false := beq_eq_false_iff_ne.2 he
              have HRS : Hid (rowS (cmbT A B) out i (cmbM A B how i) = out ++ [⟨t0, t1 - 1⟩]) := by
                show _ = _
                unfold rowS
                rw [HM.out, if_pos rfl, if_neg (fun h => by have := h.2; rw [HLT.out, HT0.out] at this; exact he this), HT0.out, HT1.out]
              as_aux_lemma =>
                go_wp2_with fail
                go_quiet (fail)
                have G8 : Hid (U.grownBy (U.drewN nq) none) := grown_drewN _ none nq
                generalize U.drewN nq = V8 at *
                have HG8 := Lib.hid (grown_trans HGU.out G8.out)
                have HSZ8 := Lib.hid HG8.out.size
                have HO8 : Hid (V8.ownsRow w1.heap.size 35 2 (.slice (some ⟨gb, 0, none⟩) (m + 1) uc) (m + 1) (out.flatMap spCs)) := keptR HO5.out G8.out
                have P0 := Lib.hid (G8.out.cell c0 (by simp)); have P1 := Lib.hid (G8.out.cell c1 (by simp))
                have NB : Hid (some gl ≠ (Value.slice (some ⟨gb, 0, none⟩) (m + 1) uc).ownBlock) := fun e => absurd HGL.out (Nat.not_lt.2 (HO8.out.lt _ e.symm).1)
                clear c0 c1 HOU
                go_wp2_with fail
                refine wp_region_noPanic ?_
                refine wp_region_held_drew (S := fun V => World.grownBy V8 V ((.slice (some ⟨gb, 0, none⟩) (m + 1) uc : Value)).ownBlock) (by kernel_rfl) (⟨rfl, rfl, rfl, Nat.le_refl _, fun _ _ _ => rfl⟩) (fun hHeld => ?_)
                refine wpAnyH_take (i := 0) (oi := ?oib0) (v := .slice (some ⟨gb, 0, none⟩) (m + 1) uc) ?hib0 (by kernel_rfl) (by kernel_rfl) (by kernel_rfl) ?hqb0 ?hyb0 hHeld ?restb0
                case hib0 => simp only [List.getElem?_toArray, List.getElem?_cons_succ, List.getElem?_cons_zero, Option.some.injEq]; rfl
                case hqb0 => exact fun _ _ _ h => h
                case hyb0 =>
                  refine Or.inl ⟨by kernel_rfl, fun V hV => ?_⟩
                  clear hV hHeld
                  go_simp
                try simp only [Go.Act.put, List.setIfInBounds_toArray, List.set_cons_zero, List.set_cons_succ]
                refine wpAnyH_take (i := 1) (oi := ?oib1) (v := .slice (some ⟨gl, ol, none⟩) N lc) ?hib1 (by kernel_rfl) (by kernel_rfl) (by kernel_rfl) ?hqb1 ?hyb1 hHeld ?restb1
                case hib1 => simp only [List.getElem?_toArray, List.getElem?_cons_succ, List.getElem?_cons_zero, Option.some.injEq]; rfl
                case hqb1 => exact fun _ _ _ h => h
                case hyb1 =>
                  refine Or.inl ⟨by kernel_rfl, fun V hV => ?_⟩
                  clear hV hHeld
                  go_simp
                try simp only [Go.Act.put, List.setIfInBounds_toArray, List.set_cons_zero, List.set_cons_succ]
                refine wpAnyH_take (i := 2) (oi := ?oib2) (v := .int .i64 (i : Int)) ?hib2 (by kernel_rfl) (by kernel_rfl) (by kernel_rfl) ?hqb2 ?hyb2 hHeld ?restb2
                case hib2 => simp only [List.getElem?_toArray, List.getElem?_cons_succ, List.getElem?_cons_zero, Option.some.injEq]; rfl
                case hqb2 => exact fun _ _ _ h => h
                case hyb2 =>
                  refine Or.inl ⟨by kernel_rfl, fun V hV => ?_⟩
                  clear hV hHeld
                  go_simp
                try simp only [Go.Act.put, List.setIfInBounds_toArray, List.set_cons_zero, List.set_cons_succ]
                refine wpAnyH_take (i := 3) (oi := ?oib3) (v := .pointer (some ⟨gl, ol + i, none⟩)) ?hib3 (by kernel_rfl) (by kernel_rfl) (by kernel_rfl) ?hqb3 ?hyb3 hHeld ?restb3
                case hib3 => simp only [List.getElem?_toArray, List.getElem?_cons_succ, List.getElem?_cons_zero, Option.some.injEq]; rfl
                case hqb3 => exact fun _ _ _ h => h
                case hyb3 =>
                  refine Or.inl ⟨by kernel_rfl, fun V hV => ?_⟩
                  clear hV hHeld
                  go_simp
                try simp only [Go.Act.put, List.setIfInBounds_toArray, List.set_cons_zero, List.set_cons_succ]
                refine wpAnyH_take (i := 4) (oi := ?oib4) (v := .int .i64 t0) ?hib4 (by kernel_rfl) (by kernel_rfl) (by kernel_rfl) ?hqb4 ?hyb4 hHeld ?restb4
                case hib4 => simp only [List.getElem?_toArray, List.getElem?_cons_succ, List.getElem?_cons_zero, Option.some.injEq]; rfl
                case hqb4 => exact fun _ _ _ h => h
                case hyb4 =>
                  refine Or.inl ⟨by kernel_rfl, fun V hV => ?_⟩
                  have r0 := hV.cell P0.out NB.out; clear hV hHeld
                  go_simp
                try simp only [Go.Act.put, List.setIfInBounds_toArray, List.set_cons_zero, List.set_cons_succ]
                refine wpAnyH_take (i := 5) (oi := ?oib5) (v := .slice (some ⟨gl, ol, none⟩) N lc) ?hib5 (by kernel_rfl) (by kernel_rfl) (by kernel_rfl) ?hqb5 ?hyb5 hHeld ?restb5
                case hib5 => simp only [List.getElem?_toArray, List.getElem?_cons_succ, List.getElem?_cons_zero, Option.some.injEq]; rfl
                case hqb5 => exact fun _ _ _ h => h
                case hyb5 =>
                  refine Or.inl ⟨by kernel_rfl, fun V hV => ?_⟩
                  clear hV hHeld
                  go_simp
                try simp only [Go.Act.put, List.setIfInBounds_toArray, List.set_cons_zero, List.set_cons_succ]
                refine wpAnyH_take (i := 6) (oi := ?oib6) (v := .int .i64 (i : Int)) ?hib6 (by kernel_rfl) (by kernel_rfl) (by kernel_rfl) ?hqb6 ?hyb6 hHeld ?restb6
                case hib6 => simp only [List.getElem?_toArray, List.getElem?_cons_succ, List.getElem?_cons_zero, Option.some.injEq]; rfl
                case hqb6 => exact fun _ _ _ h => h
                case hyb6 =>
                  refine Or.inl ⟨by kernel_rfl, fun V hV => ?_⟩
                  clear hV hHeld
                  go_simp
                try simp only [Go.Act.put, List.setIfInBounds_toArray, List.set_cons_zero, List.set_cons_succ]
                refine wpAnyH_take (i := 7) (oi := ?oib7) (v := .int .i64 ((i : Int) + 1)) ?hib7 (by kernel_rfl) (by kernel_rfl) (by kernel_rfl) ?hqb7 ?hyb7 hHeld ?restb7
                case hib7 => simp only [List.getElem?_toArray, List.getElem?_cons_succ, List.getElem?_cons_zero, Option.some.injEq]; rfl
                case hqb7 => exact fun _ _ _ h => h
                case hyb7 =>
                  refine Or.inl ⟨by kernel_rfl, fun V hV => ?_⟩
                  clear hV hHeld
                  go_simp
                try simp only [Go.Act.put, List.setIfInBounds_toArray, List.set_cons_zero, List.set_cons_succ]
                refine wpAnyH_take (i := 8) (oi := ?oib8) (v := .pointer (some ⟨gl, ol + (i + 1), none⟩)) ?hib8 (by kernel_rfl) (by kernel_rfl) (by kernel_rfl) ?hqb8 ?hyb8 hHeld ?restb8
                case hib8 => simp only [List.getElem?_toArray, List.getElem?_cons_succ, List.getElem?_cons_zero, Option.some.injEq]; rfl
                case hqb8 => exact fun _ _ _ h => h
                case hyb8 =>
                  refine Or.inl ⟨by kernel_rfl, fun V hV => ?_⟩
                  clear hV hHeld
                  go_simp
                try simp only [Go.Act.put, List.setIfInBounds_toArray, List.set_cons_zero, List.set_cons_succ]
                refine wpAnyH_take (i := 9) (oi := ?oib9) (v := .int .i64 t1) ?hib9 (by kernel_rfl) (by kernel_rfl) (by kernel_rfl) ?hqb9 ?hyb9 hHeld ?restb9
                case hib9 => simp only [List.getElem?_toArray, List.getElem?_cons_succ, List.getElem?_cons_zero, Option.some.injEq]; rfl
                case hqb9 => exact fun _ _ _ h => h
                case hyb9 =>
                  refine Or.inl ⟨by kernel_rfl, fun V hV => ?_⟩
                  have r1 := hV.cell P1.out NB.out; clear hV hHeld
                  go_simp
                try simp only [Go.Act.put, List.setIfInBounds_toArray, List.set_cons_zero, List.set_cons_succ]
                refine wpAnyH_take (i := 10) (oi := ?oib10) (v := .int .i64 (t1 - 1)) ?hib10 (by kernel_rfl) (by kernel_rfl) (by kernel_rfl) ?hqb10 ?hyb10 hHeld ?restb10
                case hib10 => simp only [List.getElem?_toArray, List.getElem?_cons_succ, List.getElem?_cons_zero, Option.some.injEq]; rfl
                case hqb10 => exact fun _ _ _ h => h
                case hyb10 =>
                  refine Or.inl ⟨by kernel_rfl, fun V hV => ?_⟩
                  clear hV hHeld
                  go_simp
                try simp only [Go.Act.put, List.setIfInBounds_toArray, List.set_cons_zero, List.set_cons_succ]
                refine wpAnyH_take (i := 11) (oi := ?oib11) (v := .agg #[.int .i64 t0, .int .i64 (t1 - 1)]) ?hib11 (by kernel_rfl) (by kernel_rfl) (by kernel_rfl) ?hqb11 ?hyb11 hHeld ?restb11
                case hib11 => simp only [List.getElem?_toArray, List.getElem?_cons_succ, List.getElem?_cons_zero, Option.some.injEq]; rfl
                case hqb11 => exact fun _ _ _ h => h
                case hyb11 =>
                  refine Or.inl ⟨by kernel_rfl, fun V hV => ?_⟩
                  clear hV hHeld
                  go_simp
                try simp only [Go.Act.put, List.setIfInBounds_toArray, List.set_cons_zero, List.set_cons_succ]
                refine wpAnyH_ready (rs := [12]) (by kernel_rfl) (by simp) ?_
                refine AllReadyH.cons rfl (fun K hK => ?_) AllReadyH.nil
                go_simp
                have hgX : World.grownBy V8 (World.alloc (V8).drew (.cells #[.int .i64 t0, .int .i64 (t1 - 1)] 35)) none := grown_trans (show World.grownBy V8 (V8).drew none from ⟨rfl, rfl, rfl, Nat.le_refl _, fun _ _ _ => rfl⟩) (World.grownBy_alloc _ _ _)
                refine hK.out _ _ (grown_low2 hgX) (fun hHeld1 => ?_)
                have HO1 := Lib.hid (keptR HO8.out hgX)
                have HBX := Lib.hid (heap_alloc_new (V8).drew (.cells #[.int .i64 t0, .int .i64 (t1 - 1)] 35))
                have hsw : (V8).drew.heap.size = (V8).heap.size := rfl
                try simp only [Go.Act.put, List.getElem_toArray, List.getElem_cons_zero, List.getElem_cons_succ, List.setIfInBounds_toArray, List.set_cons_zero, List.set_cons_succ]
                refine wpAnyH_ready (rs := [13]) (by kernel_rfl) (by simp) ?_
                refine AllReadyH.cons rfl (fun K hK => ?_) AllReadyH.nil
                refine step_append_lies _ (by rfl) _ _ _ (by rfl) w1.heap.size 35 i0 (.agg #[.int .i64 0, .int .i64 0]) 2 16 Tryz.underlying22 HI0.out HZ0.out HZ1.out HZ2.out rfl (by omega) (.slice (some ⟨gb, 0, none⟩) (m + 1) uc) (m + 1) (out.flatMap spCs) (by rfl) HO1.out
                  ⟨(V8).heap.size, 0, none⟩ 1 1 [.int .i64 t0, .int .i64 (t1 - 1)] (by rfl) (by rfl) (World.news_of_block HBX.out) (by simp [Value.oneCell'])
                  (by omega) (by unfold maxLen; omega) (by omega) (by have := HSZ8.out; simp; omega) _ rfl ?_
                intro gg cap2 w4 hown1 hgrow hat hlt4
                refine hK.out _ _ (World.grownBy.trans hHeld1 hgrow) (fun hHeld => ?_)
                have HN2 : Hid (SpOwn w1.heap.size w4 (.slice (some ⟨gg, 0, none⟩) (m + 1 + 1) cap2) (out ++ [⟨t0, t1 - 1⟩])) := SpOwn.more (by rw [HLEN.out]; exact hown1)
                have HG4 : Hid (w1.grownBy w4 none) := grown_anyS HG8.out (show World.grownBy V8 w4 ((.slice (some ⟨gb, 0, none⟩) (m + 1) uc : Value)).ownBlock from hHeld) (fun r e => (HO8.out.lt r e).1)
                clear hK hHeld1 hown1 hgrow hat hlt4 hgX HBX HO1
                try simp only [Go.Act.put, List.getElem_toArray, List.getElem_cons_zero, List.getElem_cons_succ, List.setIfInBounds_toArray, List.set_cons_zero, List.set_cons_succ]
                refine wpAnyH_take (i := 14) (oi := ?oib14) (v := .slice (some ⟨gg, 0, none⟩) (m + 1 + 1) cap2) ?hib14 (by kernel_rfl) (by kernel_rfl) (by kernel_rfl) ?hqb14 ?hyb14 hHeld ?restb14
                case hib14 => simp only [List.getElem?_toArray, List.getElem?_cons_succ, List.getElem?_cons_zero, Option.some.injEq]; rfl
                case hqb14 => exact fun _ _ _ h => h
                case hyb14 =>
                  refine Or.inl ⟨by kernel_rfl, fun V hV => ?_⟩
                  clear hV hHeld
                  go_simp
                try simp only [Go.Act.put, List.setIfInBounds_toArray, List.set_cons_zero, List.set_cons_succ]
                refine wpAnyH_done (by kernel_rfl) ?_ _
                refine NoPanic.normal ?_
                go_wp2_with fail
                go_roundw
                case rel => exact ⟨⟨i + 1, _, _, by omega, by go_num, rfl, (by show _ = _; rw [HST.out, HRS.out]), HN2.out⟩, HG4.out⟩
                case measure => simp [intOf]; omega
    · have HD : Hid (out = cmbL A B how) := by
        show _ = _
        rw [hout.out]
        unfold cmbL
        rw [HNN.out, show N - 1 = i by omega]
      have lni : ¬ (i : Int) + 1 < (N : Int) := by omega
      have ri : IntKind.i64.wrap ((i : Int) + 1) = (i : Int) + 1 := IntWalk.i64_in _ (by omega)
      go_wp2_with fail
      go_ret
      exact ⟨⟨v, rfl, by rw [← HD.out]; exact ho.out.low HG1.out.size⟩, grown_trans HG1.out hg.out⟩
end Go.Proofs.YtbacoopopokkfaaGreatDoor
