/- The contract of Simple where there is an answer: the walk. -/
import Derived.Test.YtgkhhfojioepgaaTSimQ
namespace Go.Proofs.Ytgkhhfojioepgaa
open Go.RowKit
set_option linter.unusedSimpArgs false
set_option linter.unusedVariables false

def sLen : Value → Nat
  | .slice _ n _ => n
  | _ => 0
def muS (n : Nat) (k a : Value) : Nat := if sLen a = 0 then 0 else 2 + 2 * (n - sLen k) - sLen a
theorem muS_push {n kl al ck ca ck2 ca2 : Nat} {x y x2 y2 : Option Addr} (h0 : 0 < al) (h : kl + al + 1 ≤ n) : muS n (.slice x kl ck) (.slice y (al + 1) ca) < muS n (.slice x2 kl ck2) (.slice y2 al ca2) := by
  unfold muS sLen; simp only; rw [if_neg (by omega), if_neg (by omega)]; omega
theorem muS_pop {n kl al rl ck ca ck2 ca2 : Nat} {x y x2 y2 : Option Addr} (h0 : al = rl + 1) (h : kl + al ≤ n) : muS n (.slice x (kl + 1) ck) (.slice y rl ca) < muS n (.slice x2 kl ck2) (.slice y2 al ca2) := by
  unfold muS sLen; simp only; rw [if_neg (show ¬ al = 0 by omega)]; split <;> omega
theorem muS_skip {n kl al ck ca ck2 ca2 : Nat} {x y x2 y2 : Option Addr} (h0 : al = 0 + 1) : muS n (.slice x kl ck) (.slice y 0 ca) < muS n (.slice x2 kl ck2) (.slice y2 al ca2) := by
  subst h0; unfold muS sLen; simp only; rw [if_pos trivial, if_neg (by omega)]; omega
theorem own_cap {w : World} {base g n cap : Nat} {e : TypeId} {xs : List Value} (h : w.ownsRow base e 1 (.slice (some ⟨g, 0, none⟩) n cap) n xs) : n ≤ cap ∧ cap ≤ maxLen := by
  rcases h.2 with ⟨h', _⟩ | ⟨g', cap', cur, h', hb, hg, hnc, hcm, hcs, htake⟩
  · simp at h'
  · simp only [Value.slice.injEq, Option.some.injEq, Addr.mk.injEq, and_true, true_and] at h'
    obtain ⟨rfl, rfl⟩ := h'
    exact ⟨hnc, hcm⟩

set_option maxRecDepth 100000 in
set_option maxHeartbeats 4000000 in
theorem Simple_ok (nm : ByteArray) (sp st : Int) (b off sc : Nat) (ss : List Smp) (lo : Option Addr) (lc : Nat) (ls : List LapV) (to_ : Option Addr) (tc : Nat) (ts : List ByteArray) (most : Int) (m0 : 0 ≤ most) (m1 : most ≤ 100000000) (hl : (ss.length : Int) ≤ 5000) (hn1 : 1 ≤ ss.length) (w : World)
    (HA : Hid (ActAt w ⟨nm, sp, st, some ⟨b, off, none⟩, sc, ss, lo, lc, ls, to_, tc, ts⟩)) (HTE : Hid (thinE ⟨nm, sp, st, some ⟨b, off, none⟩, sc, ss, lo, lc, ls, to_, tc, ts⟩ most 5000 = 0)) (HS : Hid (SOk ss)) :
    Calls Try.prog 40 #[.agg #[.string nm, .int .i64 sp, .int .i64 st, .slice (some ⟨b, off, none⟩) ss.length sc, .slice lo ls.length lc, .slice to_ ts.length tc], .int .i64 most] w fun x w' => (∃ v, x = .returned (.tuple #[v, .int .i64 0]) ∧ w'.ownsRow w.heap.size 3 1 v (simL ss (most * most)).length (natVs (simL ss (most * most)))) ∧ w.grownBy w' none := by
  have hll : ss.length ≤ 5000 := by omega
  obtain ⟨la, hla⟩ : ∃ la : Nat, ss.length = la + 1 := ⟨ss.length - 1, by omega⟩
  have HLA := Lib.hid hla
  have hla2 : (ss.length : Int) - 1 = (la : Int) := by omega
  have rlen : IntKind.i64.wrap ((ss.length : Int) - 1) = (la : Int) := by rw [hla2]; exact IntWalk.i64_in _ (by omega)
  have hnz : ((ss.length : Int) == 0) = false := by rw [beq_eq_false_iff_ne]; omega
  obtain ⟨hsq0, hsq⟩ := sq_most m0 m1
  obtain ⟨M, hM⟩ : ∃ M, most * most = M := ⟨_, rfl⟩
  rw [hM] at hsq hsq0
  have rM : IntKind.i64.wrap (most * most) = M := by rw [hM]; exact IntWalk.i64_in _ (by omega)
  rw [hM]
  have HM0 := Lib.hid hsq0
  have HL := Lib.hid hll
  clear hla hM hsq hsq0
  obtain ⟨i0, hi, hz0, hz1, hz2⟩ := info_parts info_int
  have HI := Lib.hid hi; have HZ0 := Lib.hid hz0; have HZ1 := Lib.hid hz1; have HZ2 := Lib.hid hz2
  clear hi hz0 hz1 hz2
  go_enter Try.func40, Try.ntmps40
  go_wp2_with fail
  refine (checkThin_any ⟨nm, sp, st, some ⟨b, off, none⟩, sc, ss, lo, lc, ls, to_, tc, ts⟩ most 5000 _ (HA.out.grown (World.grownBy_alloc _ _ _)) HTE).mono ?_; rintro e w1 ⟨rfl, hg1⟩
  have G1 : w.grownBy w1 none := grown_trans (World.grownBy_alloc w (.cells #[.string nm, .int .i64 sp, .int .i64 st, .slice (some ⟨b, off, none⟩) ss.length sc, .slice lo ls.length lc, .slice to_ ts.length tc] 26) none) hg1
  have b3 : w1.cell? ⟨w.heap.size, 3, none⟩ = some (.slice (some ⟨b, off, none⟩) ss.length sc) := grown_cell hg1 (by go_simp)
  have HAS := Lib.hid (HA.out.hs.grown G1)
  have GW := Lib.hid G1
  have HB3 := Lib.hid b3
  clear hg1 G1
  have b31 : (w1.alloc (.cells #[.int .i64 0] 3)).cell? ⟨w.heap.size, 3, none⟩ = some (.slice (some ⟨b, off, none⟩) ss.length sc) := grown_cell (World.grownBy_alloc _ _ _) b3
  have HM : Hid (SmM w1 w1.heap.size 1 (w1.heap.size + 1) 1 [0] [la] ((w1.alloc (.cells #[.int .i64 0] 3)).alloc (.cells #[.int .i64 (la : Nat)] 3))) := by
    refine ⟨(World.ownsRow_lit w1 #[.int .i64 0] 1 (Nat.le_refl _) (by unfold maxLen; omega) rfl).alloc _, ?_, by omega, grown_trans (World.grownBy_alloc _ _ _) (World.grownBy_alloc _ _ _)⟩
    have q := World.ownsRow_lit (base := w1.heap.size) (e := 3) (size := 1) (w1.alloc (.cells #[.int .i64 0] 3)) #[.int .i64 (la : Nat)] 1 (by simp) (by unfold maxLen; omega) rfl
    simpa [natVs] using q
  go_wp2_with fail
  clear b3 b31
  go_loopw [7, 8] (fun kv av wr => ∃ (P T : List Nat) (p gk ck ga ca kl al : Nat), kv = .slice (some ⟨gk, 0, none⟩) kl ck ∧ av = .slice (some ⟨ga, 0, none⟩) al ca ∧ Hid (P.length = kl) ∧ Hid (T.reverse.length = al) ∧ Hid (SmP ss M P p T) ∧ Hid (SmM w1 gk ck ga ca P T.reverse wr))
    (fun kv av _ => muS ss.length kv av)
  case atStart => exact ⟨[0], [la], 0, w1.heap.size, 1, w1.heap.size + 1, 1, 1, 1, rfl, by go_simp, rfl, rfl, SmP.start HLA.out, HM.out⟩
  case round =>
    obtain ⟨P, T, p, gk, ck, ga, ca, kl, al, rfl, rfl, hkl, hal, hP, hM⟩ := hrel
    cases T with
    | nil =>
      obtain rfl : al = 0 := by have := hal.out; simp at this; exact this.symm
      have HF : Hid (P = simL ss M) := hP.out.done
      have HOF : Hid (wr.ownsRow w.heap.size 3 1 (.slice (some ⟨gk, 0, none⟩) kl ck) (simL ss M).length (natVs (simL ss M))) := by
        show World.ownsRow _ _ _ _ _ _ _
        have := hM.out.k
        rw [← HF.out]
        rw [hkl.out] at this ⊢
        exact own_low2 this GW.out.size
      have GF : Hid (w.grownBy wr none) := grown_trans GW.out hM.out.g
      clear hP hM hkl hal HM
      go_wp2_with fail
      go_ret2
      exact ⟨⟨_, rfl, HOF.out⟩, GF.out⟩
    | cons t r =>
      obtain ⟨rl, hrl⟩ : ∃ rl, r.length = rl := ⟨_, rfl⟩
      obtain rfl : al = rl + 1 := by have := hal.out; simp at this; omega
      obtain ⟨kp, hkp⟩ : ∃ kp, kl = kp + 1 := ⟨kl - 1, by have := hP.out.pos; have := hkl.out; omega⟩
      obtain ⟨al, hal2⟩ : ∃ al, al = rl + 1 := ⟨_, rfl⟩
      have HAL := Lib.hid hal2
      have HRL := Lib.hid hrl
      have HKP := Lib.hid hkp
      rw [← hal2] at hal ⊢
      have hQl : (t :: r).reverse = r.reverse ++ [t] := by simp
      have hpn := hP.out.pin
      have htn := hP.out.inn t (by simp)
      obtain ⟨hpt, -, hpw⟩ := hP.out.le
      have hcK : wr.cell? ⟨gk, kp, none⟩ = some (.int .i64 (p : Nat)) := by
        have := hM.out.lastK hP.out.last hP.out.pos
        rw [hkl.out, hkp, Nat.add_sub_cancel] at this; exact this
      have hcA : wr.cell? ⟨ga, rl, none⟩ = some (.int .i64 (t : Nat)) := by
        have := hM.out.lastA (p := t) (by rw [hQl]; simp) (by simp)
        rw [hal.out, hal2, Nat.add_sub_cancel] at this; exact this
      have hcap := own_cap hM.out.a
      rw [hal.out] at hcap
      have hklb : kl ≤ ss.length := by have := hP.out.len; have := hkl.out; omega
      have halb : al ≤ 5001 := by
        rcases hP.out.chain with c | ⟨c, _⟩ | c
        · cases c
        · injection c with _ c; subst c; simp at hrl; omega
        · have := chain_len _ _ c hP.out.inn hpn; simp only [List.length_cons] at this; omega
      have wal : IntKind.i64.wrap ((al : Int) - 1) = (rl : Int) := by
        rw [show (al : Int) - 1 = (rl : Int) by omega]; exact IntWalk.i64_in _ (by omega)
      have wkl : IntKind.i64.wrap ((kl : Int) - 1) = (kp : Int) := by
        rw [show (kl : Int) - 1 = (kp : Int) by omega]; exact IntWalk.i64_in _ (by omega)
      have hpos : decide ((0 : Int) < (al : Int)) = true := by rw [decide_eq_true_iff]; omega
      have hpos2 : (0 : Int) < (al : Int) := by omega
      have i1 : (rl : Int) < (al : Int) := by omega
      have i2 : (0 : Int) ≤ (rl : Int) := by omega
      have i3 : (kp : Int) < (kl : Int) := by omega
      have i4 : (0 : Int) ≤ (kp : Int) := by omega
      obtain ⟨⟨A, B⟩, hW⟩ : ∃ q, wstV ss p t (t - 1 - p) = q := ⟨_, rfl⟩
      have HWE := Lib.hid hW
      have b3 : wr.cell? ⟨w.heap.size, 3, none⟩ = some (.slice (some ⟨b, off, none⟩) ss.length sc) := grown_cell hM.out.g HB3.out
      have HSW : Hid (∀ W : World, (wr.grownBy W none ∧ World.cell? W ⟨w.heap.size, 3, none⟩ = some (.slice (some ⟨b, off, none⟩) ss.length sc) ∧ World.cell? W ⟨gk, kp, none⟩ = some (.int .i64 (p : Nat))) → SmpsAt W (some ⟨b, off, none⟩) ss) := fun W h => (HAS.out.grown hM.out.g).grown h.1
      have hS0 : (wr.grownBy wr none ∧ World.cell? wr ⟨w.heap.size, 3, none⟩ = some (.slice (some ⟨b, off, none⟩) ss.length sc) ∧ World.cell? wr ⟨gk, kp, none⟩ = some (.int .i64 (p : Nat))) := ⟨grown_refl _ _, b3, hcK⟩
      have hstep : ∀ W W' : World, (wr.grownBy W none ∧ World.cell? W ⟨w.heap.size, 3, none⟩ = some (.slice (some ⟨b, off, none⟩) ss.length sc) ∧ World.cell? W ⟨gk, kp, none⟩ = some (.int .i64 (p : Nat))) → W.grownBy W' none → (wr.grownBy W' none ∧ World.cell? W' ⟨w.heap.size, 3, none⟩ = some (.slice (some ⟨b, off, none⟩) ss.length sc) ∧ World.cell? W' ⟨gk, kp, none⟩ = some (.int .i64 (p : Nat))) := fun W W' h g => ⟨grown_trans h.1 g, grown_cell g h.2.1, grown_cell g h.2.2⟩
      have HSTEP := Lib.hid hstep; have HSD : Hid (wr.grownBy wr.drew none ∧ World.cell? wr.drew ⟨w.heap.size, 3, none⟩ = some (.slice (some ⟨b, off, none⟩) ss.length sc) ∧ World.cell? wr.drew ⟨gk, kp, none⟩ = some (.int .i64 (p : Nat))) := hstep _ _ hS0 (grown_drewN wr none 1)
      clear hS0 hstep hW HM hrl hkp hal2 hQl
      go_wp2_with fail
      clear b3 hcK hcA
      go_region_held3 (fun W => (wr.grownBy W none ∧ World.cell? W ⟨w.heap.size, 3, none⟩ = some (.slice (some ⟨b, off, none⟩) ss.length sc) ∧ World.cell? W ⟨gk, kp, none⟩ = some (.int .i64 (p : Nat)))) (first | exact HSD.out | (refine HSTEP.out _ _ ?_ (by assumption) <;> assumption)) (first
        | (go_at_call 100; refine (worst_is b off sc ss HS p t hpt htn _ (HSW.out _ (by first | assumption | exact HSD.out)) HWE).mono ?_; rintro x7 w7 ⟨rfl, hg7⟩))
      all_goals
        rename_i hfin
        obtain ⟨w9, hw9⟩ : ∃ w9, w9 = w7 := ⟨_, rfl⟩
        subst hw9
        have HM9 := Lib.hid (hM.out.grown hfin.1)
        clear hfin HSTEP HSD HSW hM
        have hi := HI.out; have hz0 := HZ0.out; have hz1 := HZ1.out; have hz2 := HZ2.out
        have HKB : Hid (gk < w9.heap.size) := (HM9.out.k.lt gk (by simp [Value.ownBlock])).2
        have HSZ : Hid (w1.heap.size ≤ w9.heap.size) := HM9.out.g.size
        by_cases hlt : M < B
        · obtain ⟨hP2, hbd⟩ := hP.out.push HS.out HM0.out HWE.out hlt
          have HP2 := Lib.hid hP2
          have g1 : decide (M < B) = true := by simp; omega
          have hown : Hid (w9.ownsRow w1.heap.size 3 1 (.slice (some ⟨ga, 0, none⟩) al ca) al (natVs (t :: r).reverse)) := by
            have := HM9.out.a; rw [hal.out] at this; exact this
          have hlt2 := hown.out.lt
          have HCN : Hid (∀ j u, [Value.int .i64 (A : Int)][j]? = some u → (w9.alloc (.cells #[.int .i64 (A : Int)] 3)).cell? ((⟨w9.heap.size, 0, none⟩ : Addr).add j) = some u) := cell_one_new w9 (.int .i64 (A : Int)) 3
          have hvs : natVs (A :: t :: r).reverse = natVs (t :: r).reverse ++ [.int .i64 (A : Int)] := by simp [natVs]
          have hln : Hid ((A :: t :: r).reverse.length = al + 1) := by show _ = _; rw [List.length_reverse, List.length_cons, List.length_cons, HRL.out, ← HAL.out]
          have HVS := Lib.hid hvs
          have HBD : Hid (kl + al + 1 ≤ ss.length) := by have := hkl.out; have := HAL.out; have := HRL.out; show _ ≤ _; omega
          clear hP2 hbd hvs
          go_wp2_with (at_builtin; refine wpList_append_lies _ rfl _ _ 48 rfl w1.heap.size 3 i0 (.int .i64 0) 1 8 Try.underlying48 hi hz0 hz1 hz2 rfl (by decide) _ _ _ rfl (hown.out.alloc _) ⟨w9.heap.size, 0, none⟩ 1 1 [.int .i64 (A : Int)] rfl rfl (HCN.out) (by intro u hu; simp at hu; subst hu; rfl) (by decide) (by unfold maxLen; omega) (by omega) (by have := HSZ.out; simp at *; omega) (w9.heap.size + 1) (by simp) ?_; intro ga2 ca2 w2 hown' hgrow' hlies _)
          have hgrow2 : (w9.alloc (.cells #[.int .i64 (A : Int)] 3)).grownBy w2 (some ga) := hgrow'
          have hlies2 : (some ga : Option Nat) = some ga2 ∨ ga2 = w9.heap.size + 1 := hlies
          have HM2 : Hid (SmM w1 gk ck ga2 ca2 P (A :: t :: r).reverse w2) := by
            refine ⟨(HM9.out.k.alloc _).kept hgrow2 (Or.inr ?_), ?_, ?_, grown_own HM9.out.g hgrow2 (fun q e => (hlt2 q e).1)⟩
            · have := HM9.out.ne; simp [Value.ownBlock]; exact this
            · rw [HVS.out, hln.out]; exact hown'
            · have h1 := HM9.out.ne; have h2 := HKB.out
              rcases hlies2 with e | e
              · injection e with e; omega
              · omega
          clear hown hown' hgrow' hlt2 hlies hgrow2 hlies2
          go_wp2_with fail
          go_roundw
          case rel => exact ⟨P, A :: t :: r, p, gk, ck, ga2, ca2, kl, al + 1, rfl, rfl, hkl, hln, HP2, HM2⟩
          case measure => exact muS_push (by have := HAL.out; omega) HBD.out
        · have g1 : decide (M < B) = false := by simp; omega
          by_cases ht : 0 < t
          · obtain ⟨hP2, hbd⟩ := hP.out.pop HS.out HM0.out HWE.out hlt ht
            have HP2 := Lib.hid hP2
            have g2 : decide ((0 : Int) < (t : Int)) = true := by rw [decide_eq_true_iff]; omega
            have g3 : (0 : Int) < (t : Int) := by omega
            have hown : Hid (w9.ownsRow w1.heap.size 3 1 (.slice (some ⟨gk, 0, none⟩) kl ck) kl (natVs P)) := by
              have := HM9.out.k; rw [hkl.out] at this; exact this
            have hlt2 := hown.out.lt
            have HCN : Hid (∀ j u, [Value.int .i64 (t : Int)][j]? = some u → (w9.alloc (.cells #[.int .i64 (t : Int)] 3)).cell? ((⟨w9.heap.size, 0, none⟩ : Addr).add j) = some u) := cell_one_new w9 (.int .i64 (t : Int)) 3
            have hvs : natVs (P ++ [t]) = natVs P ++ [.int .i64 (t : Int)] := by simp [natVs]
            have hln : Hid ((P ++ [t]).length = kl + 1) := by have := hkl.out; simp at this ⊢; omega
            have HVS := Lib.hid hvs
            have HAB : Hid (ga < w9.heap.size) := (HM9.out.a.lt ga (by simp [Value.ownBlock])).2
            have HBD : Hid (kl + al ≤ ss.length) := by have := hkl.out; have := HAL.out; have := HRL.out; show _ ≤ _; omega
            have hrc : (rl : Int) ≤ (ca : Int) := by omega
            have hrc2 : rl ≤ ca := by omega
            clear hP2 hbd hvs
            go_wp2_with (at_builtin; refine wpList_append_lies _ rfl _ _ 48 rfl w1.heap.size 3 i0 (.int .i64 0) 1 8 Try.underlying48 hi hz0 hz1 hz2 rfl (by decide) _ _ _ rfl (hown.out.alloc _) ⟨w9.heap.size, 0, none⟩ 1 1 [.int .i64 (t : Int)] rfl rfl (HCN.out) (by intro u hu; simp at hu; subst hu; rfl) (by decide) (by unfold maxLen; omega) (by omega) (by have := HSZ.out; simp at *; omega) (w9.heap.size + 1) (by simp) ?_; intro gk2 ck2 w2 hown' hgrow' hlies _)
            have hgrow2 : (w9.alloc (.cells #[.int .i64 (t : Int)] 3)).grownBy w2 (some gk) := hgrow'
            have hlies2 : (some gk : Option Nat) = some gk2 ∨ gk2 = w9.heap.size + 1 := hlies
            have HM2 : Hid (SmM w1 gk2 ck2 ga ca (P ++ [t]) r.reverse w2) := by
              refine ⟨?_, ?_, ?_, grown_own HM9.out.g hgrow2 (fun q e => (hlt2 q e).1)⟩
              · rw [HVS.out, hln.out]; exact hown'
              · have q := (HM9.out.a.alloc (.cells #[.int .i64 (t : Int)] 3)).kept hgrow2 (Or.inr (by have := HM9.out.ne; simp [Value.ownBlock]; exact fun e => this e.symm))
                rw [hal.out, HAL.out] at q
                have e : natVs (t :: r).reverse = natVs r.reverse ++ [.int .i64 (t : Int)] := by simp [natVs]
                rw [e] at q
                have q2 := own_cut q
                rw [show r.reverse.length = rl by simp; exact HRL.out]
                exact q2
              · have h1 := HM9.out.ne; have h2 := HAB.out
                rcases hlies2 with e | e
                · injection e with e; omega
                · omega
            have hrl3 : Hid (r.reverse.length = rl) := by show _ = _; simp; exact HRL.out
            clear hown hown' hgrow' hlt2 hlies hgrow2 hlies2
            go_wp2_with fail
            go_roundw
            case rel => exact ⟨P ++ [t], r, t, gk2, ck2, ga, ca, kl + 1, rl, rfl, by go_simp, hln, hrl3, HP2, HM2⟩
            case measure => exact muS_pop HAL.out HBD.out
          · obtain rfl : t = 0 := by omega
            obtain ⟨hP2, hr⟩ := hP.out.skip
            subst hr
            have HP2 := Lib.hid hP2
            obtain rfl : rl = 0 := by have := HRL.out; simp at this; omega
            have HM2 : Hid (SmM w1 gk ck ga ca P ([] : List Nat).reverse w9) := by
              refine ⟨HM9.out.k, ?_, HM9.out.ne, HM9.out.g⟩
              have q := HM9.out.a
              exact own_cut (n := 0) (xs := []) (x := .int .i64 (0 : Nat)) q
            have hrc : (0 : Int) ≤ (ca : Int) := by omega
            clear hP2
            go_wp2_with fail
            go_roundw
            case rel => exact ⟨P, [], p, gk, ck, ga, ca, kl, 0, rfl, by go_simp, hkl, rfl, HP2, HM2⟩
            case measure => exact muS_skip HAL.out
end Go.Proofs.Ytgkhhfojioepgaa
