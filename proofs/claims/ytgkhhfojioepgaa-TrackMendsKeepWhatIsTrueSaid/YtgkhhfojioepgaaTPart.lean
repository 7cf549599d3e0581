/- The contract of part. -/
import Derived.Test.YtgkhhfojioepgaaTPtB
import Derived.Deep.CutBlock
import Derived.Deep.DeepCutAuto
import Derived.Deep.RegionHeld3
import Derived.Deep.AppendLies
namespace Go.Proofs.Ytgkhhfojioepgaa
open Go.RowKit
set_option linter.unusedSimpArgs false
set_option linter.unusedVariables false

attribute [local go_sem] Oper.semAt_some

theorem own_addr {w : World} {base e size n cp : Nat} {ao : Option Addr} {xs : List Value} (h : w.ownsRow base e size (.slice ao n cp) n xs) (hn : 0 < n) : ∃ g, ao = some ⟨g, 0, none⟩ := by
  obtain ⟨g, cap, hv, _⟩ := h.form hn
  injection hv with e1 _ _
  exact ⟨g, e1⟩
theorem own_apart {w : World} {b1 b2 e1 e2 n1 n2 s1 s2 N : Nat} {v1 v2 : Value} {x1 x2 : List Value} (_h1 : w.ownsRow b1 e1 s1 v1 n1 x1) (h2 : w.ownsRow b2 e2 s2 v2 n2 x2) (hv : ∀ r, v1.ownBlock = some r → b1 ≤ r ∧ r < N) (hN : N ≤ b2) : v1.ownBlock = none ∨ v1.ownBlock ≠ v2.ownBlock := by
  cases hv1 : v1.ownBlock with
  | none => exact .inl rfl
  | some r => exact .inr (fun e => by have := (hv r hv1).2; have := (h2.lt r e.symm).1; omega)

set_option maxRecDepth 100000 in
set_option maxHeartbeats 6400000 in
theorem part_is (a : Act) (hok : ActOk a) (w0 w : World) (ha : ActAt w0 a) (g0 : w0.grownBy w none) (bR : Nat) (hbR : w0.heap.size ≤ bR) (hb1 : bR ≤ w.heap.size) (v : Value) (L : List Smp) (hn : L.length ≤ 20002) (hb : ∀ x ∈ L, 0 ≤ x.t ∧ x.t ≤ 1000000) (ho : w.ownsRow bR 28 7 v L.length (smpRw L)) :
    Calls Try.prog 80 #[a.val, v] w fun e w' => (∃ v', e = .returned v' ∧ ActNew bR w' v' (partV a (firstT L) L)) ∧ w0.grownBy w' none := by
  obtain ⟨ao, cp, rfl⟩ : ∃ ao cap, v = .slice ao L.length cap := by
    rcases ho.2 with ⟨hv, h0⟩ | ⟨g, c, cur, hv, _⟩
    · exact ⟨none, 0, by rw [hv, h0]⟩
    · exact ⟨_, c, hv⟩
  obtain ⟨nm, sp, st, so, sc, ss, lo, lc, ls, to_, tc, ts⟩ := a
  simp only [Act.val] at *
  have hl : (ss.length : Int) ≤ 20000 := hok.sl
  have hl2 : (ls.length : Int) ≤ 200 := hok.ll
  have hl3 : (ts.length : Int) ≤ 20 := hok.tl
  have hs0 : 0 ≤ st := hok.st0
  have hs1 : st ≤ 86399999999 := hok.st1
  have HLB : Hid (∀ x ∈ ls, 0 ≤ x.fr ∧ x.fr < x.to_ ∧ x.to_ ≤ 1000000) := fun x hx => by
    have q := laps_in_bd ls 0 hok.laps x hx
    have q2 : x.to_ ≤ spanL ss := q.2.2
    have q3 : spanL ss ≤ 1000000 := (span_bd2 (sok_of hok)).2
    omega
  have HA0 := Lib.hid ha; have HA := Lib.hid (ha.grown g0); have HO := Lib.hid ho; have HB := Lib.hid hb; have G0 := Lib.hid g0
  have HDD : Hid (0 ≤ firstT L ∧ firstT L ≤ 1000000) := by
    show _ ∧ _
    cases L with
    | nil => exact ⟨Int.le_refl _, by decide⟩
    | cons x r => exact hb x (by simp)
  obtain ⟨D, hD⟩ : ∃ D, firstT L = D := ⟨_, rfl⟩
  rw [hD] at HDD ⊢
  have hd0 := HDD.out.1; have hd1 := HDD.out.2
  have HD := Lib.hid hD
  have M0 := Lib.hid (ClB.new w #[.string nm, .int .i64 sp, .int .i64 st, .slice so ss.length sc, .slice lo ls.length lc, .slice to_ ts.length tc] #[.string ⟨#[]⟩, .int .i64 0, .int .i64 0, .slice none 0 0, .slice none 0 0, .slice none 0 0])
  have hng : Hid (∀ r, (Value.slice ao L.length cp).ownBlock = some r → bR ≤ r ∧ r < w.heap.size) := fun r hr => HO.out.lt r hr
  obtain ⟨i0, hi, hz0, hz1, hz2⟩ := info_parts cinfo_laps
  have HI0 := Lib.hid hi; have HZ0 := Lib.hid hz0; have HZ1 := Lib.hid hz1; have HZ2 := Lib.hid hz2
  clear hi hz0 hz1 hz2 ha ho hb g0 hD hok
  go_enter Try.func80, Try.ntmps80
  go_wp2_with fail
  refine (clone_any ⟨nm, sp, st, so, sc, ss, lo, lc, ls, to_, tc, ts⟩ (by show ss.length ≤ _; omega) (by show ls.length ≤ _; omega) (by show ts.length ≤ _; omega) _ (HA.out.grown M0.out.g)).mono ?_; rintro e w4 ⟨⟨vv, rfl, hvv⟩, hg4⟩
  obtain ⟨a1, c1, a2, c2, a3, c3, rfl, hat, hfar⟩ := hvv
  have HAT := Lib.hid hat
  have HFAR := Lib.hid (hfar.mono (M := w.heap.size + 2) M0.out.lt)
  have GW4 : Hid (w.grownBy (w4.alloc (.cells #[.string nm, .int .i64 sp, .int .i64 st, .slice a1 ss.length c1, .slice a2 ls.length c2, .slice a3 ts.length c3] 26)) none) := grown_trans (grown_trans M0.out.g hg4) (World.grownBy_alloc _ _ _)
  have MC := Lib.hid (PtB.new G0.out (M0.out.grown hg4) HAT.out.ht HFAR.out.t #[.string nm, .int .i64 sp, .int .i64 st, .slice a1 ss.length c1, .slice a2 ls.length c2, .slice a3 ts.length c3])
  have HFT : Hid (∀ p, a3 = some p → w.heap.size + 2 ≤ p.block) := HFAR.out.t
  have B0 : Hid (w0.heap.size ≤ bR ∧ bR ≤ w.heap.size) := ⟨hbR, hb1⟩
  clear hg4 hat hfar M0 HAT HFAR hbR hb1
  go_upto_region 2 with (fail)
  obtain ⟨B, hB⟩ : ∃ B, w4.heap.size = B := ⟨_, rfl⟩
  obtain ⟨W5, hW5⟩ : ∃ W, w4.alloc (.cells #[.string nm, .int .i64 sp, .int .i64 st, .slice a1 ss.length c1, .slice a2 ls.length c2, .slice a3 ts.length c3] 26) = W := ⟨_, rfl⟩
  have M5 : Hid (PtB w0 w.heap.size #[.string nm, .int .i64 sp, .int .i64 st, .slice so ss.length sc, .slice lo ls.length lc, .slice to_ ts.length tc] #[.string ⟨#[]⟩, .int .i64 0, .int .i64 0, .slice none 0 0, .slice none 0 0, .slice none 0 0] B #[.string nm, .int .i64 sp, .int .i64 st, .slice a1 ss.length c1, .slice a2 ls.length c2, .slice a3 ts.length c3] a3 ts W5) := by
    rw [← hW5, ← hB]; exact MC.out
  have hWB : Hid (w.heap.size + 1 < B) := M5.out.lt
  have hrB : Hid (∀ r, (Value.slice ao L.length cp).ownBlock = some r → r ≠ B) := fun r hr => by have := (hng.out r hr).2; have := hWB.out; omega
  have HO5 : Hid (W5.ownsRow bR 28 7 (.slice ao L.length cp) L.length (smpRw L)) := by
    have g5 : w.grownBy W5 none := by rw [← hW5]; exact GW4.out
    exact HO.out.kept g5 (by cases (Value.slice ao L.length cp).ownBlock <;> simp)
  rw [hW5, hB]
  clear hW5 hB MC GW4
  have f3 := block_free (k := 3) M5.out.b
  have b3 := block_cell M5.out.b 3 _ rfl
  go_upto_region 3 with (fail)
  have M6 : Hid (PtB w0 w.heap.size #[.string nm, .int .i64 sp, .int .i64 st, .slice so ss.length sc, .slice lo ls.length lc, .slice to_ ts.length tc] #[.string ⟨#[]⟩, .int .i64 0, .int .i64 0, .slice none 0 0, .slice none 0 0, .slice none 0 0] B #[.string nm, .int .i64 sp, .int .i64 st, (.slice ao L.length cp), .slice a2 ls.length c2, .slice a3 ts.length c3] a3 ts (W5.setCell ⟨B, 3, none⟩ (.slice ao L.length cp))) := M5.out.setB 3 _
  have O6 : Hid ((W5.setCell ⟨B, 3, none⟩ (.slice ao L.length cp)).ownsRow bR 28 7 (.slice ao L.length cp) L.length (smpRw L)) := own_out HO5.out hrB.out 3 _
  clear b3 f3 M5 HO5
  generalize World.setCell W5 ⟨B, 3, none⟩ (.slice ao L.length cp) = W6 at *
  go_upto_if 15 with (fail)
  obtain ⟨qq, hq⟩ : ∃ q, decide (0 < L.length) = q := ⟨_, rfl⟩
  have hqI : decide ((0 : Int) < (L.length : Int)) = qq := by rw [← hq]; simp
  simp only [hq]
  have HQ := Lib.hid hq
  clear hq hqI
  go_cut [6] (fun tv wx => tv = .int .i64 D ∧ W6 = wx)
  case first =>
    cases qq
    · have h0 : L.length = 0 := by have := HQ.out; simp at this; rw [this]; rfl
      have e : L = [] := List.eq_nil_of_length_eq_zero h0
      have hd : D = 0 := by rw [← HD.out, e]; rfl
      clear h0 e
      go_wp2_with fail
      go_meet
      exact ⟨by rw [hd], by first | rfl | trivial⟩
    · have h0 : ¬ L.length = 0 := by have := HQ.out; simp at this; omega
      obtain ⟨g, e1⟩ := own_addr O6.out (by omega)
      subst e1
      obtain ⟨ao2, cp2, hv2, hsm, _⟩ := own_smps O6.out
      injection hv2 with e1 e2 e3
      clear e2 e3
      have c0 := (hsm.cells _ e1.symm 0 (by omega)).1
      simp only [Nat.zero_mul, Nat.add_zero] at c0
      have hd : (L[0]'(by omega)).t = D := by
        have q := HD.out
        cases L with
        | nil => exact absurd rfl h0
        | cons x r => exact q
      rw [hd] at c0
      have hp : 0 < L.length := by omega
      have hp2 : (0 : Int) < (L.length : Int) := by omega
      clear h0 e1 hd hsm
      go_wp2_with fail
      go_meet
      exact ⟨by first | rfl | trivial, by first | rfl | trivial⟩
  case rest =>
    obtain ⟨rfl, rfl⟩ := hcut
    have b2 := block_cell M6.out.b 2 _ rfl
    have f2 := block_free (k := 2) M6.out.b
    have r2 : IntKind.i64.wrap (st + D) = st + D := IntWalk.i64_in _ (by omega)
    go_upto_region 7 with (fail)
    have M7 : Hid (PtB w0 w.heap.size #[.string nm, .int .i64 sp, .int .i64 st, .slice so ss.length sc, .slice lo ls.length lc, .slice to_ ts.length tc] #[.string ⟨#[]⟩, .int .i64 0, .int .i64 0, .slice none 0 0, .slice none 0 0, .slice none 0 0] B #[.string nm, .int .i64 sp, .int .i64 (st + D), (.slice ao L.length cp), .slice a2 ls.length c2, .slice a3 ts.length c3] a3 ts (W6.setCell ⟨B, 2, none⟩ (.int .i64 (st + D)))) := M6.out.setB 2 _
    have O7 : Hid ((W6.setCell ⟨B, 2, none⟩ (.int .i64 (st + D))).ownsRow bR 28 7 (.slice ao L.length cp) L.length (smpRw L)) := own_out O6.out hrB.out 2 _
    clear b2 f2 M6 O6
    generalize World.setCell W6 ⟨B, 2, none⟩ (.int .i64 (st + D)) = W7 at *
    have b3 := block_cell M7.out.b 3 _ rfl
    have r3 : IntKind.i64.wrap (-D) = -D := IntWalk.i64_in _ (by omega)
    go_wp2_with fail
    refine (move_is bR (.slice ao L.length cp) L hn (-D) (by omega) (fun x hx => by have := HB.out x hx; omega) _ O7.out).mono ?_; rintro e w8 ⟨rfl, ho8, hg8⟩
    have M8 : Hid (PtB w0 w.heap.size #[.string nm, .int .i64 sp, .int .i64 st, .slice so ss.length sc, .slice lo ls.length lc, .slice to_ ts.length tc] #[.string ⟨#[]⟩, .int .i64 0, .int .i64 0, .slice none 0 0, .slice none 0 0, .slice none 0 0] B #[.string nm, .int .i64 sp, .int .i64 (st + D), (.slice ao L.length cp), .slice a2 ls.length c2, .slice a3 ts.length c3] a3 ts w8) := M7.out.kept hg8 (fun r hr => by have := hng.out r hr; have := B0.out; omega)
    have O8 := Lib.hid ho8
    clear b3 M7 O7 ho8 hg8
    obtain ⟨sv, hsv⟩ : ∃ e, spanL (L.map (mvS (-D))) = e := ⟨_, rfl⟩
    have HSV := Lib.hid hsv
    clear hsv
    have f4 := block_free (k := 4) M8.out.b
    have b4 := block_cell M8.out.b 4 _ rfl
    go_upto_region 9 with (fail)
    have M9 : Hid (PtB w0 w.heap.size #[.string nm, .int .i64 sp, .int .i64 st, .slice so ss.length sc, .slice lo ls.length lc, .slice to_ ts.length tc] #[.string ⟨#[]⟩, .int .i64 0, .int .i64 0, .slice none 0 0, .slice none 0 0, .slice none 0 0] B #[.string nm, .int .i64 sp, .int .i64 (st + D), (.slice ao L.length cp), .slice none 0 0, .slice a3 ts.length c3] a3 ts (w8.setCell ⟨B, 4, none⟩ (.slice none 0 0))) := M8.out.setB 4 _
    have O9 : Hid ((w8.setCell ⟨B, 4, none⟩ (.slice none 0 0)).ownsRow bR 28 7 (.slice ao L.length cp) L.length (smpRw (L.map (mvS (-D))))) := own_out O8.out hrB.out 4 _
    clear b4 f4 M8 O8
    generalize World.setCell w8 ⟨B, 4, none⟩ (.slice none 0 0) = W9 at *
    have u4 := block_cell M9.out.a 4 _ rfl
    have KSP : Hid (∀ (Vw : World) (al : Option Addr) (cl : Nat) (M : List LapV), SmpsAt Vw ao (L.map (mvS (-D))) → Calls Try.prog 56 #[.agg #[.string nm, .int .i64 sp, .int .i64 (st + D), (.slice ao L.length cp), .slice al M.length cl, .slice a3 ts.length c3]] Vw fun e w' => e = .returned (.int .i64 sv) ∧ Vw.grownBy w' none) := fun Vw al cl M hV => by
      have q := span_any ⟨nm, sp, st + D, ao, cp, L.map (mvS (-D)), al, cl, M, a3, c3, ts⟩ (by show ((L.map (mvS (-D))).length : Int) ≤ _; rw [List.length_map]; omega) Vw hV HSV
      simp only [Act.val, List.length_map] at q
      exact q
    go_wp2_with fail
    clear u4
    go_loopw [34] (fun iv wr => ∃ (k : Nat) (al : Option Addr) (cl : Nat) (M : List LapV), iv = .int .i64 k ∧ k ≤ ls.length ∧ Hid (M = lapsM D sv (ls.take k)) ∧ Hid (PtB w0 w.heap.size #[.string nm, .int .i64 sp, .int .i64 st, .slice so ss.length sc, .slice lo ls.length lc, .slice to_ ts.length tc] #[.string ⟨#[]⟩, .int .i64 0, .int .i64 0, .slice none 0 0, .slice none 0 0, .slice none 0 0] B #[.string nm, .int .i64 sp, .int .i64 (st + D), (.slice ao L.length cp), .slice al M.length cl, .slice a3 ts.length c3] a3 ts wr) ∧ Hid (wr.ownsRow (B + 1) 77 3 (.slice al M.length cl) M.length (lapRw M)) ∧ Hid (wr.ownsRow bR 28 7 (.slice ao L.length cp) L.length (smpRw (L.map (mvS (-D))))))
      (fun iv _ => ls.length - (intOf iv).toNat)
    case atStart => exact ⟨0, none, 0, [], rfl, Nat.zero_le _, by show _ = _; simp [lapsM], M9.out, World.ownsRow_nil _ _ _ _, O9.out⟩
    case round =>
      obtain ⟨k, al, cl, M, rfl, hk, hMe, hM, hOL, hOS⟩ := hrel
      by_cases hlt : k < ls.length
      · obtain ⟨b, off, rfl, hcl⟩ := lapsS_at (HA0.out.hl.grown hM.out.g) (by show 0 < ls.length; omega)
        obtain ⟨x0, x1, x2⟩ := hcl k hlt
        have hlb := HLB.out ls[k] (List.getElem_mem hlt)
        have hMn : Hid (lapsM D sv (ls.take (k + 1)) = M ++ (lapM D sv ls[k]).toList) := by show _ = _; rw [hMe.out]; exact lapsM_take hlt
        have hMl : Hid (M.length ≤ 200) := by show _ ≤ _; rw [hMe.out]; have := lapsM_le D sv (ls.take k); simp at this; omega
        generalize ls[k] = x at *
        obtain ⟨fr, to2, nml⟩ := x
        simp only at x0 x1 x2 hlb
        obtain ⟨p0, p1, p2⟩ := hlb
        obtain ⟨F, hF⟩ : ∃ F, max (fr - D) 0 = F := ⟨_, rfl⟩
        obtain ⟨E, hE⟩ : ∃ E, min (to2 - D) sv = E := ⟨_, rfl⟩
        have HLM : Hid (lapM D sv ⟨fr, to2, nml⟩ = if F < E then some ⟨F, E, nml⟩ else none) := by show _ = _; unfold lapM; simp only; rw [hF, hE]
        have r5 : IntKind.i64.wrap (fr - D) = fr - D := IntWalk.i64_in _ (by omega)
        have r6 : IntKind.i64.wrap (to2 - D) = to2 - D := IntWalk.i64_in _ (by omega)
        clear hcl hMe
        go_upto_region 12 with (fail)
        obtain ⟨X, hX⟩ : ∃ X, wr.heap.size = X := ⟨_, rfl⟩
        have gX := World.grownBy_alloc wr (.cells #[.int .i64 fr, .int .i64 to2, .string nml] 77) none
        have M1 : Hid (PtB w0 w.heap.size #[.string nm, .int .i64 sp, .int .i64 st, .slice so ss.length sc, .slice (some ⟨b, off, none⟩) ls.length lc, .slice to_ ts.length tc] #[.string ⟨#[]⟩, .int .i64 0, .int .i64 0, .slice none 0 0, .slice none 0 0, .slice none 0 0] B #[.string nm, .int .i64 sp, .int .i64 (st + D), (.slice ao L.length cp), .slice al M.length cl, .slice a3 ts.length c3] a3 ts (wr.alloc (.cells #[.int .i64 fr, .int .i64 to2, .string nml] 77)).drew) := (hM.out.grown gX).grown (grown_drewN _ none 1)
        have OL1 : Hid ((wr.alloc (.cells #[.int .i64 fr, .int .i64 to2, .string nml] 77)).drew.ownsRow (B + 1) 77 3 (.slice al M.length cl) M.length (lapRw M)) := (hOL.out.alloc _).kept (grown_drewN _ none 1) (by cases (Value.slice al M.length cl).ownBlock <;> simp)
        have OS1 : Hid (((wr.alloc (.cells #[.int .i64 fr, .int .i64 to2, .string nml] 77)).drew).ownsRow bR 28 7 (.slice ao L.length cp) L.length (smpRw (L.map (mvS (-D))))) := (hOS.out.alloc _).kept (grown_drewN _ none 1) (by cases (Value.slice ao L.length cp).ownBlock <;> simp)
        have X1 : Hid ((wr.alloc (.cells #[.int .i64 fr, .int .i64 to2, .string nml] 77)).drew.heap[X]? = some (.cells #[.int .i64 fr, .int .i64 to2, .string nml] 77 (0, 0))) := by rw [← hX]; exact heap_alloc_new wr _
        have XB : Hid (B < X) := by show _ < _; have := hM.out.bsz; omega
        have XL : Hid (∀ r, (Value.slice al M.length cl).ownBlock = some r → r ≠ X) := fun r hr => by have := (hOL.out.lt r hr).2; omega
        have XS : Hid (∀ r, (Value.slice ao L.length cp).ownBlock = some r → r ≠ X) := fun r hr => by have := (hOS.out.lt r hr).2; omega
        rw [hX]
        clear hX gX hM hOL hOS x0 x1 x2
        refine region_late (lateK (fun V => World.cell? V ⟨B, 0, none⟩ = some (.string nm) ∧ World.cell? V ⟨B, 1, none⟩ = some (.int .i64 sp) ∧ World.cell? V ⟨B, 2, none⟩ = some (.int .i64 (st + D)) ∧ World.cell? V ⟨B, 3, none⟩ = some ((.slice ao L.length cp)) ∧ World.cell? V ⟨B, 4, none⟩ = some (.slice al M.length cl) ∧ World.cell? V ⟨B, 5, none⟩ = some (.slice a3 ts.length c3)) [(13, ⟨X, 0, none⟩, .int .i64 fr), (15, ⟨X, 1, none⟩, .int .i64 to2)]) (by kernel_rfl) ⟨fun _ => block_cell X1.out 0 _ rfl, fun _ => block_cell X1.out 1 _ rfl, ⟨block_cell M1.out.b 0 _ rfl, block_cell M1.out.b 1 _ rfl, block_cell M1.out.b 2 _ rfl, block_cell M1.out.b 3 _ rfl, block_cell M1.out.b 4 _ rfl, block_cell M1.out.b 5 _ rfl⟩⟩ (fun hC0 hS0 => ?_)
        generalize (wr.alloc (.cells #[.int .i64 fr, .int .i64 to2, .string nml] 77)).drew = V1 at *
        refine wpAnyS_take (i := 0) (oi := ?oi1) (v := .pointer (some ⟨X, 0, none⟩)) ?hi1 (by kernel_rfl) (by kernel_rfl) (by kernel_rfl) (lateK_iff (by rfl)) ?hq1 ?hy1 hC0 hS0 ?rest1
        case hi1 => simp only [List.getElem?_toArray, List.getElem?_cons_zero, Option.some.injEq]; rfl
        case hq1 => exact fun _ _ _ h => h
        case hy1 =>
          refine Or.inl ⟨by kernel_rfl, fun V hV => ?_⟩
          clear hV
          go_simp
        intro hC1 hS1
        clear hC0 hS0
        try simp only [Go.Act.put, List.setIfInBounds_toArray, List.set_cons_zero, List.set_cons_succ]
        refine wpAnyS_take (i := 1) (oi := ?oi2) (v := .int .i64 fr) ?hi2 (by kernel_rfl) (by kernel_rfl) (by kernel_rfl) (lateK_iff (by rfl)) ?hq2 ?hy2 hC1 hS1 ?rest2
        case hi2 => simp only [List.getElem?_toArray, List.getElem?_cons_succ, List.getElem?_cons_zero, Option.some.injEq]; rfl
        case hq2 => exact fun _ _ _ h => h
        case hy2 =>
          refine Or.inl ⟨by kernel_rfl, fun V hV => ?_⟩
          have q1 := lateK_cell 0 hV rfl rfl (by kernel_rfl); clear hV
          go_simp
        intro hC2 hS2
        clear hC1 hS1
        try simp only [Go.Act.put, List.setIfInBounds_toArray, List.set_cons_zero, List.set_cons_succ]
        refine wpAnyS_take (i := 2) (oi := ?oi3) (v := .int .i64 D) ?hi3 (by kernel_rfl) (by kernel_rfl) (by kernel_rfl) (lateK_iff (by rfl)) ?hq3 ?hy3 hC2 hS2 ?rest3
        case hi3 => simp only [List.getElem?_toArray, List.getElem?_cons_succ, List.getElem?_cons_zero, Option.some.injEq]; rfl
        case hq3 => exact fun _ _ _ h => h
        case hy3 =>
          refine Or.inl ⟨by kernel_rfl, fun V hV => ?_⟩
          clear hV
          go_simp
        intro hC3 hS3
        clear hC2 hS2
        try simp only [Go.Act.put, List.setIfInBounds_toArray, List.set_cons_zero, List.set_cons_succ]
        refine wpAnyS_take (i := 3) (oi := ?oi4) (v := .int .i64 (fr - D)) ?hi4 (by kernel_rfl) (by kernel_rfl) (by kernel_rfl) (lateK_iff (by rfl)) ?hq4 ?hy4 hC3 hS3 ?rest4
        case hi4 => simp only [List.getElem?_toArray, List.getElem?_cons_succ, List.getElem?_cons_zero, Option.some.injEq]; rfl
        case hq4 => exact fun _ _ _ h => h
        case hy4 =>
          refine Or.inl ⟨by kernel_rfl, fun V hV => ?_⟩
          clear hV
          go_simp
        intro hC4 hS4
        clear hC3 hS3
        try simp only [Go.Act.put, List.setIfInBounds_toArray, List.set_cons_zero, List.set_cons_succ]
        refine wpAnyS_take (i := 4) (oi := ?oi5) (v := .int .i64 F) ?hi5 (by kernel_rfl) (by kernel_rfl) (by kernel_rfl) (lateK_iff (by rfl)) ?hq5 ?hy5 hC4 hS4 ?rest5
        case hi5 => simp only [List.getElem?_toArray, List.getElem?_cons_succ, List.getElem?_cons_zero, Option.some.injEq]; rfl
        case hq5 => exact fun _ _ _ h => h
        case hy5 =>
          refine Or.inl ⟨by kernel_rfl, fun V hV => ?_⟩
          clear hV
          go_simp
        intro hC5 hS5
        clear hC4 hS4
        try simp only [Go.Act.put, List.setIfInBounds_toArray, List.set_cons_zero, List.set_cons_succ]
        refine wpAnyS_take (i := 5) (oi := ?oi6) (v := .pointer (some ⟨X, 1, none⟩)) ?hi6 (by kernel_rfl) (by kernel_rfl) (by kernel_rfl) (lateK_iff (by rfl)) ?hq6 ?hy6 hC5 hS5 ?rest6
        case hi6 => simp only [List.getElem?_toArray, List.getElem?_cons_succ, List.getElem?_cons_zero, Option.some.injEq]; rfl
        case hq6 => exact fun _ _ _ h => h
        case hy6 =>
          refine Or.inl ⟨by kernel_rfl, fun V hV => ?_⟩
          clear hV
          go_simp
        intro hC6 hS6
        clear hC5 hS5
        try simp only [Go.Act.put, List.setIfInBounds_toArray, List.set_cons_zero, List.set_cons_succ]
        refine wpAnyS_take (i := 6) (oi := ?oi7) (v := .int .i64 to2) ?hi7 (by kernel_rfl) (by kernel_rfl) (by kernel_rfl) (lateK_iff (by rfl)) ?hq7 ?hy7 hC6 hS6 ?rest7
        case hi7 => simp only [List.getElem?_toArray, List.getElem?_cons_succ, List.getElem?_cons_zero, Option.some.injEq]; rfl
        case hq7 => exact fun _ _ _ h => h
        case hy7 =>
          refine Or.inl ⟨by kernel_rfl, fun V hV => ?_⟩
          have q1 := lateK_cell 1 hV rfl rfl (by kernel_rfl); clear hV
          go_simp
        intro hC7 hS7
        clear hC6 hS6
        try simp only [Go.Act.put, List.setIfInBounds_toArray, List.set_cons_zero, List.set_cons_succ]
        refine wpAnyS_take (i := 7) (oi := ?oi8) (v := .int .i64 D) ?hi8 (by kernel_rfl) (by kernel_rfl) (by kernel_rfl) (lateK_iff (by rfl)) ?hq8 ?hy8 hC7 hS7 ?rest8
        case hi8 => simp only [List.getElem?_toArray, List.getElem?_cons_succ, List.getElem?_cons_zero, Option.some.injEq]; rfl
        case hq8 => exact fun _ _ _ h => h
        case hy8 =>
          refine Or.inl ⟨by kernel_rfl, fun V hV => ?_⟩
          clear hV
          go_simp
        intro hC8 hS8
        clear hC7 hS7
        try simp only [Go.Act.put, List.setIfInBounds_toArray, List.set_cons_zero, List.set_cons_succ]
        refine wpAnyS_take (i := 8) (oi := ?oi9) (v := .int .i64 (to2 - D)) ?hi9 (by kernel_rfl) (by kernel_rfl) (by kernel_rfl) (lateK_iff (by rfl)) ?hq9 ?hy9 hC8 hS8 ?rest9
        case hi9 => simp only [List.getElem?_toArray, List.getElem?_cons_succ, List.getElem?_cons_zero, Option.some.injEq]; rfl
        case hq9 => exact fun _ _ _ h => h
        case hy9 =>
          refine Or.inl ⟨by kernel_rfl, fun V hV => ?_⟩
          clear hV
          go_simp
        intro hC9 hS9
        clear hC8 hS8
        try simp only [Go.Act.put, List.setIfInBounds_toArray, List.set_cons_zero, List.set_cons_succ]
        refine wpAnyS_take (i := 9) (oi := ?oi10) (v := .agg #[.string nm, .int .i64 sp, .int .i64 (st + D), (.slice ao L.length cp), .slice al M.length cl, .slice a3 ts.length c3]) ?hi10 (by kernel_rfl) (by kernel_rfl) (by kernel_rfl) (lateK_iff (by rfl)) ?hq10 ?hy10 hC9 hS9 ?rest10
        case hi10 => simp only [List.getElem?_toArray, List.getElem?_cons_succ, List.getElem?_cons_zero, Option.some.injEq]; rfl
        case hq10 => exact fun _ _ _ h => h
        case hy10 =>
          refine Or.inl ⟨by kernel_rfl, fun V hV => ?_⟩
          obtain ⟨q0, q1, q2, q3, q4, q5⟩ := lateK_g hV; clear hV
          go_simp
        intro hC10 hS10
        clear hC9 hS9
        try simp only [Go.Act.put, List.setIfInBounds_toArray, List.set_cons_zero, List.set_cons_succ]
        refine wpAnyS_take (i := 12) (oi := ?oi11) (v := .pointer (some ⟨X, 0, none⟩)) ?hi11 (by kernel_rfl) (by kernel_rfl) (by kernel_rfl) (lateK_iff (by rfl)) ?hq11 ?hy11 hC10 hS10 ?rest11
        case hi11 => simp only [List.getElem?_toArray, List.getElem?_cons_succ, List.getElem?_cons_zero, Option.some.injEq]; rfl
        case hq11 => exact fun _ _ _ h => h
        case hy11 =>
          refine Or.inl ⟨by kernel_rfl, fun V hV => ?_⟩
          clear hV
          go_simp
        intro hC11 hS11
        clear hC10 hS10
        try simp only [Go.Act.put, List.setIfInBounds_toArray, List.set_cons_zero, List.set_cons_succ]
        refine wpAnyS_ready (rs := [10]) (by kernel_rfl) (by simp) ?_
        refine AllReadyS.cons rfl hC11 (fun K hK => ?_) AllReadyS.nil
        go_simp
        have hsm1 : SmpsAt V1 ao (L.map (mvS (-D))) := by
          have q : V1.ownsRow bR 28 7 (.slice ao L.length cp) (L.map (mvS (-D))).length (smpRw (L.map (mvS (-D)))) := by rw [List.length_map]; exact OS1.out
          obtain ⟨ao2, cp2, hv2, hs2, _⟩ := own_smps q
          injection hv2 with e1 _ _
          rw [e1]; exact hs2
        refine (KSP.out _ al cl M hsm1).mono ?_
        rintro e w9 ⟨rfl, hg9⟩
        have M2 := Lib.hid (M1.out.grown hg9)
        have OL2 := Lib.hid (OL1.out.kept hg9 (by cases (Value.slice al M.length cl).ownBlock <;> simp))
        have OS2 := Lib.hid (OS1.out.kept hg9 (by cases (Value.slice ao L.length cp).ownBlock <;> simp))
        have X2 := Lib.hid (block_at X1.out hg9 (by simp))
        refine hK.out _ _ ⟨fun _ => block_cell X2.out 0 _ rfl, fun _ => block_cell X2.out 1 _ rfl, ⟨block_cell M2.out.b 0 _ rfl, block_cell M2.out.b 1 _ rfl, block_cell M2.out.b 2 _ rfl, block_cell M2.out.b 3 _ rfl, block_cell M2.out.b 4 _ rfl, block_cell M2.out.b 5 _ rfl⟩⟩ (fun hC12 hS12 => ?_)
        clear hK hC11 hS11 K
        clear hg9 M1 OL1 OS1 X1 hsm1
        try simp only [Go.Act.put, List.setIfInBounds_toArray, List.set_cons_zero, List.set_cons_succ]
        refine wpAnyS_take (i := 11) (oi := ?oi13) (v := .int .i64 E) ?hi13 (by kernel_rfl) (by kernel_rfl) (by kernel_rfl) (lateK_iff (by rfl)) ?hq13 ?hy13 hC12 hS12 ?rest13
        case hi13 => simp only [List.getElem?_toArray, List.getElem?_cons_succ, List.getElem?_cons_zero, Option.some.injEq]; rfl
        case hq13 => exact fun _ _ _ h => h
        case hy13 =>
          refine Or.inl ⟨by kernel_rfl, fun V hV => ?_⟩
          clear hV
          go_simp
        intro hC13 hS13
        clear hC12 hS12
        try simp only [Go.Act.put, List.setIfInBounds_toArray, List.set_cons_zero, List.set_cons_succ]
        refine wpAnyS_ready (rs := [13]) (by kernel_rfl) (by simp) ?_
        refine AllReadyS.cons rfl hC13 (fun K hK => ?_) AllReadyS.nil
        have x0 := block_cell X2.out 0 _ rfl; have f0 := block_free (k := 0) X2.out
        go_simp
        have M3 : Hid (PtB w0 w.heap.size #[.string nm, .int .i64 sp, .int .i64 st, .slice so ss.length sc, .slice (some ⟨b, off, none⟩) ls.length lc, .slice to_ ts.length tc] #[.string ⟨#[]⟩, .int .i64 0, .int .i64 0, .slice none 0 0, .slice none 0 0, .slice none 0 0] B #[.string nm, .int .i64 sp, .int .i64 (st + D), (.slice ao L.length cp), .slice al M.length cl, .slice a3 ts.length c3] a3 ts (w9.setCell ⟨X, 0, none⟩ (.int .i64 F))) := M2.out.kept (setcR_grown _ X 0 _) (fun r hr => by have := XB.out; have := M2.out.g.size; have := M2.out.bsz; have := lt_of_block X2.out; have := M2.out.ln; have := M2.out.lt; injection hr with hr; omega)
        have OL3 := Lib.hid (own_out OL2.out XL.out 0 (.int .i64 F))
        have OS3 := Lib.hid (own_out OS2.out XS.out 0 (.int .i64 F))
        have X3 : Hid ((w9.setCell ⟨X, 0, none⟩ (.int .i64 F)).heap[X]? = some (.cells #[.int .i64 F, .int .i64 to2, .string nml] 77 (0, 0))) := block_set X2.out _
        refine hK.out _ _ ⟨lateUp (by rfl), fun _ => block_cell X3.out 1 _ rfl, ⟨block_cell M3.out.b 0 _ rfl, block_cell M3.out.b 1 _ rfl, block_cell M3.out.b 2 _ rfl, block_cell M3.out.b 3 _ rfl, block_cell M3.out.b 4 _ rfl, block_cell M3.out.b 5 _ rfl⟩⟩ (fun hC14 hS14 => ?_)
        clear hK hC13 hS13 K
        clear x0 f0 M2 OL2 OS2 X2
        generalize World.setCell w9 ⟨X, 0, none⟩ (.int .i64 F) = V3 at *
        try simp only [Go.Act.put, List.setIfInBounds_toArray, List.set_cons_zero, List.set_cons_succ]
        refine wpAnyS_take (i := 14) (oi := ?oi15) (v := .pointer (some ⟨X, 1, none⟩)) ?hi15 (by kernel_rfl) (by kernel_rfl) (by kernel_rfl) (lateK_iff (by rfl)) ?hq15 ?hy15 hC14 hS14 ?rest15
        case hi15 => simp only [List.getElem?_toArray, List.getElem?_cons_succ, List.getElem?_cons_zero, Option.some.injEq]; rfl
        case hq15 => exact fun _ _ _ h => h
        case hy15 =>
          refine Or.inl ⟨by kernel_rfl, fun V hV => ?_⟩
          clear hV
          go_simp
        intro hC15 hS15
        clear hC14 hS14
        try simp only [Go.Act.put, List.setIfInBounds_toArray, List.set_cons_zero, List.set_cons_succ]
        refine wpAnyS_ready (rs := [15]) (by kernel_rfl) (by simp) ?_
        refine AllReadyS.cons rfl hC15 (fun K hK => ?_) AllReadyS.nil
        have x1 := block_cell X3.out 1 _ rfl; have f1 := block_free (k := 1) X3.out
        go_simp
        have M4 : Hid (PtB w0 w.heap.size #[.string nm, .int .i64 sp, .int .i64 st, .slice so ss.length sc, .slice (some ⟨b, off, none⟩) ls.length lc, .slice to_ ts.length tc] #[.string ⟨#[]⟩, .int .i64 0, .int .i64 0, .slice none 0 0, .slice none 0 0, .slice none 0 0] B #[.string nm, .int .i64 sp, .int .i64 (st + D), (.slice ao L.length cp), .slice al M.length cl, .slice a3 ts.length c3] a3 ts (V3.setCell ⟨X, 1, none⟩ (.int .i64 E))) := M3.out.kept (setcR_grown _ X 1 _) (fun r hr => by have := XB.out; have := M3.out.g.size; have := M3.out.bsz; have := lt_of_block X3.out; have := M3.out.ln; have := M3.out.lt; injection hr with hr; omega)
        have OL4 := Lib.hid (own_out OL3.out XL.out 1 (.int .i64 E))
        have OS4 := Lib.hid (own_out OS3.out XS.out 1 (.int .i64 E))
        have X4 : Hid ((V3.setCell ⟨X, 1, none⟩ (.int .i64 E)).heap[X]? = some (.cells #[.int .i64 F, .int .i64 E, .string nml] 77 (0, 0))) := block_set X3.out _
        refine hK.out _ _ ⟨lateUp (by rfl), lateUp (by rfl), ⟨block_cell M4.out.b 0 _ rfl, block_cell M4.out.b 1 _ rfl, block_cell M4.out.b 2 _ rfl, block_cell M4.out.b 3 _ rfl, block_cell M4.out.b 4 _ rfl, block_cell M4.out.b 5 _ rfl⟩⟩ (fun hC16 hS16 => ?_)
        clear hK hC15 hS15 K
        clear x1 f1 M3 OL3 OS3 X3
        generalize World.setCell V3 ⟨X, 1, none⟩ (.int .i64 E) = V4 at *
        try simp only [Go.Act.put, List.setIfInBounds_toArray, List.set_cons_zero, List.set_cons_succ]
        refine wpAnyS_done (by kernel_rfl) ?_ _
        clear hC16 hS16
        have x0 := block_cell X4.out 0 _ rfl
        have x1 := block_cell X4.out 1 _ rfl
        have x2 := block_cell X4.out 2 _ rfl
        clear hF hE KSP
        by_cases hc : F < E
        · have HN : Hid (lapsM D sv (ls.take (k + 1)) = M ++ [⟨F, E, nml⟩]) := by show _ = _; rw [hMn.out, HLM.out, if_pos hc]; rfl
          have HNs : Hid (M ++ [(⟨F, E, nml⟩ : LapV)] = lapsM D sv (ls.take (k + 1))) := HN.out.symm
          have b4 := block_cell M4.out.b 4 _ rfl
          have HLT := Lib.hid hlt
          clear hMn HLM
          go_wp2_with (at_builtin; refine wpList_append_own _ rfl _ _ 23 rfl (B + 1) 77 i0 (.agg #[.int .i64 0, .int .i64 0, .string ⟨#[]⟩]) 3 32 Try.underlying23 HI0.out HZ0.out HZ1.out HZ2.out rfl (by decide) _ _ _ rfl (OL4.out.alloc _) ⟨V4.heap.size, 0, none⟩ 1 1 [.int .i64 F, .int .i64 E, .string nml] rfl rfl (World.news_of_block (cs := #[.int .i64 F, .int .i64 E, .string nml]) (t := 77) (fr := (0, 0)) (heap_alloc_new V4 _)) (by simp [Value.oneCell']) (by have := hMl.out; unfold maxLen; omega) (by have := hMl.out; omega) (by have := M4.out.bsz; simp; omega) ?_; intro v' w10 ho10 hg10 hnil; obtain ⟨gg, cap2, rfl, hgb, _⟩ := ho10.form (by omega); have M5 : Hid (PtB w0 w.heap.size #[.string nm, .int .i64 sp, .int .i64 st, .slice so ss.length sc, .slice (some ⟨b, off, none⟩) ls.length lc, .slice to_ ts.length tc] #[.string ⟨#[]⟩, .int .i64 0, .int .i64 0, .slice none 0 0, .slice none 0 0, .slice none 0 0] B #[.string nm, .int .i64 sp, .int .i64 (st + D), (.slice ao L.length cp), .slice al M.length cl, .slice a3 ts.length c3] a3 ts w10) := (M4.out.grown (World.grownBy_alloc _ _ _)).kept hg10 (fun r hr => by have := (OL4.out.lt r hr).1; have := M4.out.g.size; have := M4.out.ln; have := M4.out.lt; omega); have OS5 : Hid (w10.ownsRow bR 28 7 (.slice ao L.length cp) L.length (smpRw (L.map (mvS (-D))))) := (OS4.out.alloc _).kept hg10 (own_apart OS4.out OL4.out hng.out (by have := hWB.out; omega)); have OL5 := Lib.hid ho10; have f4 := block_free (k := 4) M5.out.b; have b5 := block_cell M5.out.b 4 _ rfl; clear ho10 hg10 hnil M4 OS4 OL4 X4 b4)
          have M6 : Hid (PtB w0 w.heap.size #[.string nm, .int .i64 sp, .int .i64 st, .slice so ss.length sc, .slice (some ⟨b, off, none⟩) ls.length lc, .slice to_ ts.length tc] #[.string ⟨#[]⟩, .int .i64 0, .int .i64 0, .slice none 0 0, .slice none 0 0, .slice none 0 0] B #[.string nm, .int .i64 sp, .int .i64 (st + D), (.slice ao L.length cp), .slice (some ⟨gg, 0, none⟩) (M.length + 1) cap2, .slice a3 ts.length c3] a3 ts (w10.setCell ⟨B, 4, none⟩ (.slice (some ⟨gg, 0, none⟩) (M.length + 1) cap2))) := M5.out.setB 4 _
          have OS6 := Lib.hid (own_out OS5.out hrB.out 4 (.slice (some ⟨gg, 0, none⟩) (M.length + 1) cap2))
          have OL6 := Lib.hid (own_out OL5.out (P := B) (fun r hr => by have := (OL5.out.lt r hr).1; omega) 4 (.slice (some ⟨gg, 0, none⟩) (M.length + 1) cap2))
          go_roundw
          case rel => exact ⟨k + 1, some ⟨gg, 0, none⟩, cap2, M ++ [⟨F, E, nml⟩], by go_num, HLT.out, HNs, by have q := M6; rw [List.length_append]; exact q, by have q := OL6; rw [List.length_append]; unfold lapRw at q ⊢; rw [List.flatMap_append]; exact q, OS6⟩
          case measure => have := HLT.out; simp [intOf]; omega
        · have HN : Hid (lapsM D sv (ls.take (k + 1)) = M) := by show _ = _; rw [hMn.out, HLM.out, if_neg hc]; simp
          have HNs : Hid (M = lapsM D sv (ls.take (k + 1))) := HN.out.symm
          have HLT := Lib.hid hlt
          clear hMn HLM
          go_wp2_with fail
          go_roundw
          case rel => exact ⟨k + 1, al, cl, M, by go_num, HLT.out, HNs, M4, OL4, OS4⟩
          case measure => have := HLT.out; simp [intOf]; omega
      · obtain rfl : k = ls.length := by omega
        have hMl : Hid (M = lapsM D sv ls) := by show _ = _; rw [hMe.out, List.take_length]
        clear hMe
        have b0 := block_cell hM.out.b 0 _ rfl
        have b1 := block_cell hM.out.b 1 _ rfl
        have b2 := block_cell hM.out.b 2 _ rfl
        have b3 := block_cell hM.out.b 3 _ rfl
        have b4 := block_cell hM.out.b 4 _ rfl
        have b5 := block_cell hM.out.b 5 _ rfl
        have z0 := block_cell hM.out.z 0 _ rfl
        have y0 := block_free (k := 0) hM.out.z
        have z1 := block_cell hM.out.z 1 _ rfl
        have y1 := block_free (k := 1) hM.out.z
        have z2 := block_cell hM.out.z 2 _ rfl
        have y2 := block_free (k := 2) hM.out.z
        have z3 := block_cell hM.out.z 3 _ rfl
        have y3 := block_free (k := 3) hM.out.z
        have z4 := block_cell hM.out.z 4 _ rfl
        have y4 := block_free (k := 4) hM.out.z
        have z5 := block_cell hM.out.z 5 _ rfl
        have y5 := block_free (k := 5) hM.out.z
        go_wp2_with fail
        refine bodyPost_ret (v := .agg #[.string nm, .int .i64 sp, .int .i64 (st + D), (.slice ao L.length cp), .slice al M.length cl, .slice a3 ts.length c3]) (by simp [results, Try.results80, go_sem, z0, z1, z2, z3, z4, z5]) rfl ⟨⟨_, rfl, ?_⟩, ((((((hM.out.setZ 0 _).setZ 1 _).setZ 2 _).setZ 3 _).setZ 4 _).setZ 5 _).g⟩
        have hME := hMl.out
        subst hME
        have qs : wr.ownsRow bR 28 7 (.slice ao L.length cp) (L.map (mvS (-D))).length (smpRw (L.map (mvS (-D)))) := by rw [List.length_map]; exact hOS.out
        obtain ⟨ao2, cp2, hv2, hs2, hb2⟩ := own_smps qs
        injection hv2 with e1 _ e3
        subst e1; subst e3
        obtain ⟨al2, cl2, hv3, hs3, hb3⟩ := own_lapsR hOL.out (lapsM_name HA0.out.hl.sizes)
        injection hv3 with e1 _ e3
        subst e1; subst e3
        refine ⟨ao, cp, al, cl, a3, c3, by unfold partV; simp only [Act.val, List.length_map]; rw [HSV.out], ?_, ⟨fun p hp => by have hp2 : ao = some p := hp; have := (hng.out p.block (by rw [hp2]; rfl)).1; omega, fun p hp => by have := (hb3 p hp).1; have := hM.out.lt; have := B0.out; omega, fun p hp => by have := HFT.out p hp; have := B0.out; omega⟩⟩
        unfold partV
        simp only
        rw [HSV.out]
        have hlt1 := hM.out.lt
        refine ⟨HA0.out.ns, by show ((L.map (mvS (-D))).length : Int) ≤ _; rw [List.length_map]; omega, by show ((lapsM D sv ls).length : Int) ≤ _; have := lapsM_le D sv ls; omega, HA0.out.tl, hs2.eq fun p hp o => ?_, hs3.eq fun p hp o => ?_, (((((((hM.out.setZ 0 _).setZ 1 _).setZ 2 _).setZ 3 _).setZ 4 _).setZ 5 _)).t⟩
        · have := (hng.out p.block (by rw [hp]; rfl)).2
          iterate 6 rw [World.cell?_setCell_other _ _ _ _ (fun e => by injection e with e; omega)]
        · have := (hb3 p hp).1
          iterate 6 rw [World.cell?_setCell_other _ _ _ _ (fun e => by injection e with e; omega)]

end Go.Proofs.Ytgkhhfojioepgaa
