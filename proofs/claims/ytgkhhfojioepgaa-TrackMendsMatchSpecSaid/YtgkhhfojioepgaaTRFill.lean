/- The contract of the reference's Fill, for any activity and any gap. -/
import Derived.Test.YtgkhhfojioepgaaTFill
import Derived.Test.YtgkhhfojioepgaaTRFReg
namespace Go.Proofs.Ytgkhhfojioepgaa
open Go.RowKit
set_option linter.unusedSimpArgs false
set_option linter.unusedVariables false

attribute [local go_sem] Oper.semAt_some
theorem grown_any {w W : World} (row : Option Nat) (h : w.grownBy W none) : w.grownBy W row := ⟨h.os, h.tape, h.output, h.size, fun k hk _ => h.block k hk (by simp)⟩
noncomputable def flN (gap : Int) (A : List Smp) : Nat → List Smp
  | 0 => A
  | c + 1 => fiA (c + 4) gap A (flN gap A c) A.length
theorem flN_len (gap : Int) (A : List Smp) : ∀ c, (flN gap A c).length = A.length
  | 0 => rfl
  | c + 1 => (fi_len _ _ _ _ _).trans (flN_len gap A c)
theorem flN_agr {A : List Smp} (HS : SOk A) (gap : Int) {c : Nat} (hc : c ≤ 2) : Agr (c + 4) A (flN gap A c) 0 := by
  have h : c = 0 ∨ c = 1 ∨ c = 2 := by omega
  clear hc
  rcases h with rfl | rfl | rfl
  · exact Agr.refl 4 A
  · exact agr2 HS gap
  · exact agr3 HS gap
theorem so_of2 {w : World} {so : Option Addr} {ss : List Smp} (h : SmpsAt w so ss) (hne : ss ≠ []) : ∃ b off, so = some ⟨b, off, none⟩ := by
  cases so with
  | none => exact absurd (h.nil rfl) hne
  | some p =>
    obtain ⟨b, off, spot⟩ := p
    have hsp := h.spot _ rfl hne
    simp only at hsp
    subst hsp
    exact ⟨b, off, rfl⟩
theorem grown_setr {w W : World} {g : Nat} {row : Option Nat} (h : w.grownBy W row) (hr : some g = row) (k : Nat) (v : Value) : w.grownBy (W.setCell ⟨g, k, none⟩ v) row := by
  subst hr; exact grown_set4 h k v
theorem fld_of {c : Nat} (hc : c ≤ 2) : Fld (c + 4) := by unfold Fld; omega
theorem rfil_cell {W : World} {base g cap n : Nat} {L : List Smp} (h : W.ownsRow base 28 7 (.slice (some ⟨g, 0, none⟩) n cap) n (smpRw L)) (hl : L.length = n) {k : Nat} (hk : k < n) :
    W.cell? ⟨g, k * 7, none⟩ = some (.int .i64 (smpD L k).t) ∧ ∀ c, c ≤ 2 → ∃ z, W.cell? ⟨g, k * 7 + (c + 4), none⟩ = some z := by
  have q := fil4_cells h hl hk rfl
  refine ⟨q.1, fun c hc => ?_⟩
  have e : c = 0 ∨ c = 1 ∨ c = 2 := by omega
  rcases e with rfl | rfl | rfl
  · exact ⟨_, q.2.2.2.2.1⟩
  · exact ⟨_, q.2.2.2.2.2.1⟩
  · exact ⟨_, q.2.2.2.2.2.2⟩

set_option maxRecDepth 100000 in
set_option maxHeartbeats 6400000 in
theorem rFill_any (a : Act) (gap : Int) (w : World) (ha : ActAt w a) {c : Act} {E : Int} (hE : Hid (fillO a gap = (c, E))) :
    Calls Try.prog 37 #[a.val, .int .i64 gap] w fun e w' => (∃ v, e = .returned (.tuple #[v, .int .i64 E]) ∧ ActNew w.heap.size w' v c) ∧ w.grownBy w' none := by
  obtain ⟨ce, hce⟩ : ∃ e, chkE a = e := ⟨_, rfl⟩
  have hv := hE.out
  unfold fillO at hv
  rw [hce] at hv
  have HCE := Lib.hid hce; have HA := Lib.hid ha
  by_cases d1 : ce = 0
  · rw [if_pos d1] at hv
    subst d1
    by_cases d2 : 0 ≤ gap ∧ gap ≤ 1000000
    · rw [if_pos d2] at hv
      simp only [Prod.mk.injEq] at hv
      obtain ⟨rfl, rfl⟩ := hv
      have ok := chk_ok hce
      have hl1 : (a.ss.length : Int) ≤ 20000 := ok.sl
      have hl2 : (a.ls.length : Int) ≤ 200 := ok.ll
      have hl3 : (a.ts.length : Int) ≤ 20 := ok.tl
      have HS := Lib.hid (sok_of ok)
      obtain ⟨nm, sp, st, so, sc, ss, lo, lc, ls, to_, tc, ts⟩ := a
      simp only [Act.val] at *
      clear hE hce ha ok
      have M0 := Lib.hid (ClB.new w #[.string nm, .int .i64 sp, .int .i64 st, .slice so ss.length sc, .slice lo ls.length lc, .slice to_ ts.length tc] #[.string ⟨#[]⟩, .int .i64 0, .int .i64 0, .slice none 0 0, .slice none 0 0, .slice none 0 0])
      go_enter Try.func37, Try.ntmps37
      go_wp2_with fail
      refine (rcheck_any ⟨nm, sp, st, so, sc, ss, lo, lc, ls, to_, tc, ts⟩ _ (HA.out.grown M0.out.g) HCE).mono ?_; rintro e w1 ⟨rfl, hg1⟩
      have M1 := Lib.hid (M0.out.grown hg1)
      clear hg1
      go_wp2_with fail
      refine (rout_no _ _ _ d2.1 d2.2 _).mono ?_; rintro e w2 ⟨rfl, rfl⟩
      have u0 := block_cell M1.out.a 0 _ rfl
      have u1 := block_cell M1.out.a 1 _ rfl
      have u2 := block_cell M1.out.a 2 _ rfl
      have u3 := block_cell M1.out.a 3 _ rfl
      have u4 := block_cell M1.out.a 4 _ rfl
      have u5 := block_cell M1.out.a 5 _ rfl
      go_wp2_with fail
      refine (copied_own ⟨nm, sp, st, so, sc, ss, lo, lc, ls, to_, tc, ts⟩ (by show ss.length ≤ _; omega) (by show ls.length ≤ _; omega) (by show ts.length ≤ _; omega) _ (HA.out.grown M1.out.g)).mono ?_; rintro e w4 ⟨⟨vv, rfl, hvv⟩, hg4⟩
      obtain ⟨s1, k1, l1, j1, t1, i1, rfl, hat, hfar, ⟨b0, hb0, hrow⟩, sp1, sp2⟩ := hvv
      simp only at hat hfar hrow
      have HSZ : Hid (w.heap.size + 2 ≤ b0) := by have := M1.out.lt; show _ ≤ _; omega
      have HFZ : Hid (∀ p : Addr, s1 = some p ∨ l1 = some p ∨ t1 = some p → w.heap.size + 2 ≤ p.block) := fun p hp => by
        have := M1.out.lt
        rcases hp with h | h | h
        · have := hfar.s p h; omega
        · have := hfar.l p h; omega
        · have := hfar.t p h; omega
      have M2 := Lib.hid (M1.out.grown hg4)
      have HAT := Lib.hid hat; have SP1 := Lib.hid sp1; have SP2 := Lib.hid sp2; have HRW := Lib.hid hrow
      clear hg4 hat hfar hb0 hrow sp1 sp2 u0 u1 u2 u3 u4 u5 M1 M0
      go_upto_region 7 with (fail)
      obtain ⟨V5, hV⟩ : ∃ V, w4.alloc (.cells #[.string nm, .int .i64 sp, .int .i64 st, .slice s1 ss.length k1, .slice l1 ls.length j1, .slice t1 ts.length i1] 26) = V := ⟨_, rfl⟩
      have G5 : w4.grownBy V5 none := by rw [← hV]; exact World.grownBy_alloc _ _ _
      have BF0 : Hid (V5.heap[w4.heap.size]? = some (.cells #[.string nm, .int .i64 sp, .int .i64 st, .slice s1 ss.length k1, .slice l1 ls.length j1, .slice t1 ts.length i1] 26 (0, 0))) := by show _; rw [← hV]; exact heap_alloc_new _ _
      rw [hV]
      have M5 := Lib.hid (M2.out.grown G5)
      have H5 := Lib.hid (HAT.out.grown G5)
      have R5 : Hid (World.ownsRow V5 b0 28 7 (.slice s1 ss.length k1) ss.length (smpRw (flN gap ss 0))) := HRW.out.kept G5 (by cases (Value.slice s1 ss.length k1).ownBlock <;> simp)
      have RB : Hid (∀ r, (Value.slice s1 ss.length k1).ownBlock = some r → w.heap.size + 2 ≤ r ∧ r ≠ w4.heap.size ∧ r < V5.heap.size) := fun r hr => by
        have q := HRW.out.lt r hr; have := HSZ.out; have := lt_of_block BF0.out
        exact ⟨by omega, by omega, by omega⟩
      have HFB := Lib.hid (lt_of_block BF0.out)
      clear hV G5 HRW HAT M2
      generalize w4.heap.size = fb at *
      obtain ⟨row, hrw⟩ : ∃ r, (Value.slice s1 ss.length k1).ownBlock = r := ⟨_, rfl⟩
      rw [hrw] at RB
      have HRB := Lib.hid hrw
      clear hrw
      have G00 : Hid (V5.grownBy V5 row) := World.grownBy.refl _ _
      have NF : Hid (some fb ≠ row) := fun e => (RB.out fb e.symm).2.1 rfl
      have KM : Hid (∀ V, V5.grownBy V row → ClB w #[.string nm, .int .i64 sp, .int .i64 st, .slice so ss.length sc, .slice lo ls.length lc, .slice to_ ts.length tc] #[.string ⟨#[]⟩, .int .i64 0, .int .i64 0, .slice none 0 0, .slice none 0 0, .slice none 0 0] V) := fun V h => clb_row2 M5.out h (fun r hr => (RB.out r hr).1)
      have KS : Hid (∀ V, V5.grownBy V row → SmpsAt V so ss) := fun V h => HA.out.hs.grown (KM.out V h).g
      clear hl2 hl3 d2
      go_wp2_with fail
      go_loopw [8] (fun cv wr => ∃ (c : Nat), cv = .int .i64 (c : Int) ∧ c ≤ 3 ∧ Hid (World.ownsRow wr b0 28 7 (.slice s1 ss.length k1) ss.length (smpRw (flN gap ss c))) ∧ Hid (wr.heap[fb]? = some (.cells #[.string nm, .int .i64 sp, .int .i64 st, .slice s1 ss.length k1, .slice l1 ls.length j1, .slice t1 ts.length i1] 26 (0, 0))) ∧ Hid (V5.grownBy wr row)) (fun cv _ => 3 - (intOf cv).toNat)
      case atStart => exact ⟨0, rfl, by omega, R5, BF0, G00⟩
      case round =>
        obtain ⟨c, rfl, hc, R, BF, G0⟩ := hrel
        by_cases hc3 : c < 3
        · have ic : (c : Int) < 3 := by omega
          have rc : IntKind.i64.wrap ((c : Int) + 1) = ((c + 1 : Nat) : Int) := by rw [show (c : Int) + 1 = ((c + 1 : Nat) : Int) by omega]; exact IntWalk.i64_in _ (by omega)
          have HC2 : Hid (c ≤ 2) := by show _ ≤ _; omega
          have HAG := Lib.hid (flN_agr HS.out gap HC2.out)
          have u3 := block_cell (KM.out _ G0.out).a 3 _ rfl
          have RC := Lib.hid rc
          clear rc hc hc3
          go_wp2_with fail
          clear u3
          go_loopw [9, 32] (fun lv iv wr => ∃ (k : Nat), lv = .int .i64 (knA (c + 4) ss k) ∧ iv = .int .i64 (k : Int) ∧ k ≤ ss.length ∧ Hid (World.ownsRow wr b0 28 7 (.slice s1 ss.length k1) ss.length (smpRw (fiA (c + 4) gap ss (flN gap ss c) k))) ∧ Hid (wr.heap[fb]? = some (.cells #[.string nm, .int .i64 sp, .int .i64 st, .slice s1 ss.length k1, .slice l1 ls.length j1, .slice t1 ts.length i1] 26 (0, 0))) ∧ Hid (V5.grownBy wr row)) (fun _ iv _ => ss.length - (intOf iv).toNat)
          case atStart => exact ⟨0, rfl, rfl, Nat.zero_le _, R, BF, G0⟩
          case round =>
            clear R BF G0
            obtain ⟨k, rfl, rfl, hk, R, BF, G0⟩ := hrel
            by_cases hlt : k < ss.length
            · have hin := fi_inv HS.out (fld_of HC2.out) gap (flN_len gap ss c) k (by omega)
              have hag := Lib.hid (hin.agr HAG.out)
              have hfk : Hid ((fiA (c + 4) gap ss (flN gap ss c) k).length = ss.length) := by show _ = _; rw [hin.len]; exact flN_len gap ss c
              obtain ⟨⟨kn0, kn1⟩, kn2, kn3⟩ := kn_is (c + 4) ss k
              obtain ⟨b, off, rfl⟩ := so_of2 HA.out.hs (fun e => by have e2 : ss = [] := e; rw [e2] at hlt; simp at hlt)
              obtain ⟨c0, c1, c2, c3, c4, c5, c6⟩ := (KS.out _ G0.out).cells _ rfl k hlt
              rw [← smpD_at hlt] at c0 c1 c2 c3 c4 c5 c6
              obtain ⟨x, hx⟩ : ∃ x, smpD ss k = x := ⟨_, rfl⟩
              rw [hx] at c0 c1 c2 c3 c4 c5 c6
              simp only at c0 c1 c2 c3 c4 c5 c6
              have HX := Lib.hid hx
              obtain ⟨y, hy⟩ : ∃ y, smpGet (c + 4) x = y := ⟨_, rfl⟩
              have HY := Lib.hid hy
              have FS : Hid ((y < 0 → knA (c + 4) ss (k + 1) = knA (c + 4) ss k ∧ fiA (c + 4) gap ss (flN gap ss c) (k + 1) = fiA (c + 4) gap ss (flN gap ss c) k) ∧ (¬ y < 0 → knA (c + 4) ss (k + 1) = (k : Int) ∧ fiA (c + 4) gap ss (flN gap ss c) (k + 1) = if 0 ≤ knA (c + 4) ss k ∧ x.t - (smpD ss (knA (c + 4) ss k).toNat).t ≤ gap then brA (c + 4) ss (fiA (c + 4) gap ss (flN gap ss c) k) (knA (c + 4) ss k).toNat k (k - (knA (c + 4) ss k).toNat - 1) else fiA (c + 4) gap ss (flN gap ss c) k)) := by
                have e : smpGet (c + 4) (smpD ss k) = y := by rw [hx]; exact hy
                refine ⟨fun h => ?_, fun h => ?_⟩
                · rw [knA, fiA, e, if_pos h, if_pos h]; exact ⟨rfl, rfl⟩
                · rw [knA, fiA, e, if_neg h, if_neg h, hx]; exact ⟨rfl, rfl⟩
              have HC3 := Lib.hid kn3; have HCN := Lib.hid kn2
              have ik0 : (0 : Int) ≤ (k : Int) := by omega
              have ik1 : (k : Int) < (ss.length : Int) := by omega
              have rk : IntKind.i64.wrap ((k : Int) + 1) = ((k + 1 : Nat) : Int) := by rw [show (k : Int) + 1 = ((k + 1 : Nat) : Int) by omega]; exact IntWalk.i64_in _ (by omega)
              have HLT := Lib.hid hlt
              have xt0 : 0 ≤ x.t ∧ x.t ≤ 1000000 := by
                have q := HS.out.inn k hlt
                rw [hx] at q; exact ⟨q.1, q.2.1⟩
              clear hin kn2 kn3 hx hk hy
              obtain ⟨kn, hkn⟩ : ∃ z, knA (c + 4) ss k = z := ⟨_, rfl⟩
              rw [hkn] at kn0 kn1 ⊢
              have HKN := Lib.hid hkn
              clear hkn
              go_upto_region 14 with (fail)
              obtain ⟨V6, hV⟩ : ∃ V, wr.alloc (.cells #[.int .i64 x.t, .int .i64 x.x, .int .i64 x.y, .int .i64 x.z, .int .i64 x.p, .int .i64 x.q, .int .i64 x.s] 28) = V := ⟨_, rfl⟩
              have gV : wr.grownBy V6 none := by rw [← hV]; exact World.grownBy_alloc _ _ _
              have BQ : Hid (V6.heap[wr.heap.size]? = some (.cells #[.int .i64 x.t, .int .i64 x.x, .int .i64 x.y, .int .i64 x.z, .int .i64 x.p, .int .i64 x.q, .int .i64 x.s] 28 (0, 0))) := by show _; rw [← hV]; exact heap_alloc_new _ _
              have NQ : Hid (some wr.heap.size ≠ row) := fun e => by have := (RB.out _ e.symm).2.2; have := G0.out.size; omega
              rw [hV]
              replace R := Lib.hid (R.out.kept gV (by cases (Value.slice s1 ss.length k1).ownBlock <;> simp))
              replace BF := Lib.hid (block_at (row := none) BF.out gV (by simp))
              replace G0 := Lib.hid (grown_trans G0.out (grown_any row gV))
              clear hV gV c0 c1 c2 c3 c4 c5 c6
              generalize wr.heap.size = qb at *
              have e0 := block_cell BQ.out 0 _ rfl
              have e1 := block_cell BQ.out 1 _ rfl
              have e2 := block_cell BQ.out 2 _ rfl
              have e3 := block_cell BQ.out 3 _ rfl
              have e4 := block_cell BQ.out 4 _ rfl
              have e5 := block_cell BQ.out 5 _ rfl
              have e6 := block_cell BQ.out 6 _ rfl
              go_wp2_with fail
              refine (rfield_is c HC2.out x _).mono ?_; rintro e w7 ⟨rfl, hg7⟩
              rw [HY.out]
              replace R := Lib.hid (R.out.kept hg7 (by cases (Value.slice s1 ss.length k1).ownBlock <;> simp))
              replace BF := Lib.hid (block_at (row := none) BF.out hg7 (by simp))
              replace BQ := Lib.hid (block_at (row := none) BQ.out hg7 (by simp))
              replace G0 := Lib.hid (grown_trans G0.out (grown_any row hg7))
              clear hg7 e0 e1 e2 e3 e4 e5 e6
              by_cases hneg : y < 0
              · have hd : decide (y < 0) = true := by simpa using hneg
                have HZ := Lib.hid (FS.out.1 hneg)
                clear FS hneg kn0 kn1 xt0
                go_wp2_with fail
                go_roundw
                case rel => exact ⟨k + 1, by rw [HZ.out.1, HKN.out], by go_num, HLT.out, by show World.ownsRow _ _ _ _ _ _ _; rw [HZ.out.2]; exact R.out, BF, G0⟩
                case measure => have := HLT.out; simp [intOf]; omega
              · have hd : decide (y < 0) = false := by simpa using hneg
                have HZ := Lib.hid (FS.out.2 (by omega))
                have HNG : Hid (0 ≤ y) := by show _ ≤ _; omega
                clear FS hneg
                by_cases hk0 : kn < 0
                · have hd2 : decide (0 ≤ kn) = false := by simp; omega
                  have HF : Hid (fiA (c + 4) gap ss (flN gap ss c) (k + 1) = fiA (c + 4) gap ss (flN gap ss c) k) := by
                    show _ = _; rw [HZ.out.2, HKN.out, if_neg (by omega)]
                  clear kn0 kn1 hk0 xt0
                  go_upto_region 15 with (fail)
                  go_quiet (fail)
                  have gq : w7.grownBy (w7.drewN nq) none := grown_drewN _ none _
                  replace R := Lib.hid (R.out.kept gq (by cases (Value.slice s1 ss.length k1).ownBlock <;> simp))
                  replace BF := Lib.hid (block_at (row := none) BF.out gq (by simp))
                  replace G0 := Lib.hid (grown_trans G0.out (grown_any row gq))
                  clear gq
                  generalize w7.drewN nq = V9 at *
                  go_wp2_with fail
                  go_roundw
                  case rel => exact ⟨k + 1, by rw [HZ.out.1], by go_num, HLT.out, by show World.ownsRow _ _ _ _ _ _ _; rw [HF.out]; exact R.out, BF, G0⟩
                  case measure => have := HLT.out; simp [intOf]; omega
                · obtain ⟨i, rfl⟩ : ∃ i : Nat, kn = (i : Int) := ⟨kn.toNat, by omega⟩
                  have hik : i < k := by omega
                  have hil : i < ss.length := by omega
                  obtain ⟨d0, d1, d2, d3, d4, d5, d6⟩ := (KS.out _ G0.out).cells _ rfl i hil
                  rw [← smpD_at hil] at d0 d1 d2 d3 d4 d5 d6
                  obtain ⟨p, hp⟩ : ∃ p, smpD ss i = p := ⟨_, rfl⟩
                  rw [hp] at d0 d1 d2 d3 d4 d5 d6
                  simp only at d0 d1 d2 d3 d4 d5 d6
                  have HP := Lib.hid hp
                  have pt0 : 0 ≤ p.t ∧ p.t < x.t := by
                    have q := (HS.out.inn i hil).1
                    have q2 := times_lt HS.out hik HLT.out
                    rw [hp] at q; rw [hp, HX.out] at q2; exact ⟨q, q2⟩
                  have hd2 : decide (0 ≤ (i : Int)) = true := by simp
                  have ij1 : (i : Int) < (ss.length : Int) := by omega
                  have ij0 : (0 : Int) ≤ (i : Int) := by omega
                  have r1 : IntKind.i64.wrap (x.t - p.t) = x.t - p.t := IntWalk.i64_in _ (by omega)
                  have gi : Hid (0 ≤ smpGet (c + 4) p) := by
                    have q := HCN.out; rw [HKN.out, Int.toNat_natCast, hp] at q; exact q (by omega)
                  have HIK := Lib.hid hik
                  have HF1 : Hid (fiA (c + 4) gap ss (flN gap ss c) (k + 1) = if x.t - p.t ≤ gap then brA (c + 4) ss (fiA (c + 4) gap ss (flN gap ss c) k) i k (k - i - 1) else fiA (c + 4) gap ss (flN gap ss c) k) := by
                    show _ = _
                    rw [HZ.out.2, HKN.out, Int.toNat_natCast, hp]
                    by_cases q : x.t - p.t ≤ gap
                    · rw [if_pos ⟨by omega, q⟩, if_pos q]
                    · rw [if_neg (fun h => q h.2), if_neg q]
                  have u3 := block_cell (KM.out _ G0.out).a 3 _ rfl
                  have e0 := block_cell BQ.out 0 _ rfl
                  clear kn0 kn1 hk0 hp hik hil HCN HC3
                  go_upto_region 15 with (fail)
                  go_quiet (fail)
                  have gq : w7.grownBy (w7.drewN nq) none := grown_drewN _ none _
                  replace d0 := grown_cell gq d0; replace d1 := grown_cell gq d1; replace d2 := grown_cell gq d2; replace d3 := grown_cell gq d3; replace d4 := grown_cell gq d4; replace d5 := grown_cell gq d5; replace d6 := grown_cell gq d6
                  replace R := Lib.hid (R.out.kept gq (by cases (Value.slice s1 ss.length k1).ownBlock <;> simp))
                  replace BF := Lib.hid (block_at (row := none) BF.out gq (by simp))
                  replace BQ := Lib.hid (block_at (row := none) BQ.out gq (by simp))
                  replace G0 := Lib.hid (grown_trans G0.out (grown_any row gq))
                  clear gq u3 e0
                  generalize w7.drewN nq = V9 at *
                  by_cases hgp : x.t - p.t ≤ gap
                  · have hd3 : decide (x.t - p.t ≤ gap) = true := by simpa using hgp
                    have HF := HF1.out
                    rw [if_pos hgp] at HF
                    have HF := Lib.hid HF
                    try simp only [hd3]
                    have HF2 := Lib.hid HF.out
                    have u3 := block_cell (KM.out _ G0.out).a 3 _ rfl
                    have rkk := Lib.hid rk
                    clear hgp HF1 rk
                    go_upto_region 17 with (fail)
                    obtain ⟨V10, hV⟩ : ∃ V, V9.alloc (.cells #[.int .i64 p.t, .int .i64 p.x, .int .i64 p.y, .int .i64 p.z, .int .i64 p.p, .int .i64 p.q, .int .i64 p.s] 28) = V := ⟨_, rfl⟩
                    have gV : V9.grownBy V10 none := by rw [← hV]; exact World.grownBy_alloc _ _ _
                    have BP : Hid (V10.heap[V9.heap.size]? = some (.cells #[.int .i64 p.t, .int .i64 p.x, .int .i64 p.y, .int .i64 p.z, .int .i64 p.p, .int .i64 p.q, .int .i64 p.s] 28 (0, 0))) := by show _; rw [← hV]; exact heap_alloc_new _ _
                    have NP : Hid (some V9.heap.size ≠ row) := fun e => by have := (RB.out _ e.symm).2.2; have := G0.out.size; omega
                    rw [hV]
                    replace R := Lib.hid (R.out.kept gV (by cases (Value.slice s1 ss.length k1).ownBlock <;> simp))
                    replace BF := Lib.hid (block_at (row := none) BF.out gV (by simp))
                    replace BQ := Lib.hid (block_at (row := none) BQ.out gV (by simp))
                    replace G0 := Lib.hid (grown_trans G0.out (grown_any row gV))
                    clear hV gV d0 d1 d2 d3 d4 d5 d6 u3
                    generalize V9.heap.size = pb at *
                    have ri : IntKind.i64.wrap ((i : Int) + 1) = ((i + 1 : Nat) : Int) := by rw [show (i : Int) + 1 = ((i + 1 : Nat) : Int) by omega]; exact IntWalk.i64_in _ (by omega)
                    go_wp2_with fail
                    clear ri
                    go_loopw [13] (fun kv wr => ∃ (n1 : Nat), kv = .int .i64 ((i + n1 : Nat) : Int) ∧ 1 ≤ n1 ∧ i + n1 ≤ k ∧ Hid (World.ownsRow wr b0 28 7 (.slice s1 ss.length k1) ss.length (smpRw (brA (c + 4) ss (fiA (c + 4) gap ss (flN gap ss c) k) i k (n1 - 1)))) ∧ Hid (wr.heap[fb]? = some (.cells #[.string nm, .int .i64 sp, .int .i64 st, .slice s1 ss.length k1, .slice l1 ls.length j1, .slice t1 ts.length i1] 26 (0, 0))) ∧ Hid (wr.heap[qb]? = some (.cells #[.int .i64 x.t, .int .i64 x.x, .int .i64 x.y, .int .i64 x.z, .int .i64 x.p, .int .i64 x.q, .int .i64 x.s] 28 (0, 0))) ∧ Hid (wr.heap[pb]? = some (.cells #[.int .i64 p.t, .int .i64 p.x, .int .i64 p.y, .int .i64 p.z, .int .i64 p.p, .int .i64 p.q, .int .i64 p.s] 28 (0, 0))) ∧ Hid (V5.grownBy wr row)) (fun kv _ => k - (intOf kv).toNat)
                    case atStart => exact ⟨1, rfl, Nat.le_refl _, HIK.out, R, BF, BQ, BP, G0⟩
                    case round =>
                      clear R BF BQ BP G0
                      obtain ⟨n1, rfl, hn1, hnk, R, BF, BQ, BP, G0⟩ := hrel
                      have rn : IntKind.i64.wrap (((i + n1 : Nat) : Int) + 1) = ((i + (n1 + 1) : Nat) : Int) := by rw [show ((i + n1 : Nat) : Int) + 1 = ((i + (n1 + 1) : Nat) : Int) by omega]; exact IntWalk.i64_in _ (by omega)
                      by_cases hnl : i + n1 < k
                      · have hl : (brA (c + 4) ss (fiA (c + 4) gap ss (flN gap ss c) k) i k (n1 - 1)).length = ss.length := by rw [br_len]; exact hfk.out
                        have hkl : i + n1 < ss.length := by have := HLT.out; omega
                        obtain ⟨g, kk, hv, _, _⟩ := R.out.form (by omega)
                        injection hv with e1 _ e3
                        subst e3
                        have E1 := Lib.hid e1
                        have R2 := R.out
                        rw [e1] at R2
                        obtain ⟨q0, q1⟩ := rfil_cell R2 hl hkl
                        obtain ⟨z0, q1⟩ := q1 c HC2.out
                        have ut : (smpD (brA (c + 4) ss (fiA (c + 4) gap ss (flN gap ss c) k) i k (n1 - 1)) (i + n1)).t = (smpD ss (i + n1)).t := by
                          rw [br_at (c + 4) ss _ i k (by rw [hfk.out]; have := HLT.out; omega) (n1 - 1) (by omega), if_neg (by omega)]; exact hag.out.t _
                        rw [ut] at q0
                        obtain ⟨u, hu⟩ : ∃ u, (smpD ss (i + n1)).t = u := ⟨_, rfl⟩
                        rw [hu] at q0
                        have hu0 : p.t < u ∧ u < x.t := by
                          have a := times_lt HS.out (i := i) (j := i + n1) (by omega) hkl
                          have b := times_lt HS.out (i := i + n1) (j := k) (by omega) HLT.out
                          rw [HP.out, hu] at a; rw [HX.out, hu] at b; exact ⟨a, b⟩
                        obtain ⟨v, hv2⟩ : ∃ v, btA (c + 4) ss i k (i + n1) = v := ⟨_, rfl⟩
                        have HB : Hid (btwV (smpGet (c + 4) p) y (u - p.t) (x.t - p.t) = v) := by
                          show _ = _
                          rw [← hv2, ← HY.out, ← HX.out, ← HP.out, ← hu]; rfl
                        have bp : 0 ≤ smpGet (c + 4) p ∧ smpGet (c + 4) p ≤ 3000 := by
                          have b := (get_bd HS.out (fld_of HC2.out) (i := i) (by omega)).2
                          rw [HP.out] at b
                          have b2 : fldB (c + 4) ≤ 3000 := by unfold fldB; split <;> omega
                          exact ⟨gi.out, by omega⟩
                        have by_ : 0 ≤ y ∧ y ≤ 3000 := by
                          have b := (get_bd HS.out (fld_of HC2.out) (i := k) HLT.out).2
                          rw [HX.out, HY.out] at b
                          have b2 : fldB (c + 4) ≤ 3000 := by unfold fldB; split <;> omega
                          exact ⟨HNG.out, by omega⟩
                        have hgr : some g = row := by rw [← HRB.out, e1]; rfl
                        have HN : Hid (∀ V : World, wr.grownBy V none → Hid (World.ownsRow (V.setCell ⟨g, (i + n1) * 7 + (c + 4), none⟩ (.int .i64 v)) b0 28 7 (.slice s1 ss.length k1) ss.length (smpRw (brA (c + 4) ss (fiA (c + 4) gap ss (flN gap ss c) k) i k (n1 + 1 - 1))))) := fun V hV => by
                          have q := own_fieldN4 (R2.kept hV (by cases (Value.slice (some ⟨g, 0, none⟩) ss.length k1).ownBlock <;> simp)) hl (k := i + n1) (c := c + 4) hkl ⟨by omega, by have := HC2.out; omega⟩ v
                          have e : brA (c + 4) ss (fiA (c + 4) gap ss (flN gap ss c) k) i k (n1 + 1 - 1) = (brA (c + 4) ss (fiA (c + 4) gap ss (flN gap ss c) k) i k (n1 - 1)).set (i + n1) (smpSet (c + 4) (smpD (brA (c + 4) ss (fiA (c + 4) gap ss (flN gap ss c) k) i k (n1 - 1)) (i + n1)) v) := by
                            obtain ⟨z, rfl⟩ : ∃ z, n1 = z + 1 := ⟨n1 - 1, by omega⟩
                            show brA (c + 4) ss _ i k (z + 1) = _
                            rw [brA, show i + 1 + z = i + (z + 1) by omega, hv2]
                            rfl
                          show World.ownsRow _ _ _ _ _ _ _
                          rw [e, e1]; exact q
                        obtain ⟨cur, hcur⟩ := own_head R2
                        have HC := Lib.hid hcur
                        have r2 : IntKind.i64.wrap (u - p.t) = u - p.t := IntWalk.i64_in _ (by omega)
                        have r3 : IntKind.i64.wrap (x.t - p.t) = x.t - p.t := IntWalk.i64_in _ (by omega)
                        have il1 : ((i + n1 : Nat) : Int) < (ss.length : Int) := by omega
                        have il2 : (0 : Int) ≤ ((i + n1 : Nat) : Int) := by omega
                        have il4 : ((i + n1 : Nat) : Int) < (k : Int) := by omega
                        have HNL := Lib.hid hnl
                        have NG := Lib.hid hgr
                        clear hl ut hu hv2 hcur R2 hgr hnk e1
                        obtain ⟨m, hm⟩ : ∃ m, i + n1 = m := ⟨_, rfl⟩
                        have rn2 := rn
                        rw [show i + (n1 + 1) = m + 1 by omega] at rn
                        clear rn2
                        rw [hm] at HN il1 il2 il4 rn q0 q1 HNL ⊢
                        have HNM := Lib.hid hm
                        clear hm
                        go_upto_region 20 with (fail)
                        have kF := block_cell BF.out 3 _ rfl
                        rw [E1.out] at kF
                        have nf : fb ≠ g := fun e => NF.out (by rw [← NG.out, e])
                        have nq2 : qb ≠ g := fun e => NQ.out (by rw [← NG.out, e])
                        have np2 : pb ≠ g := fun e => NP.out (by rw [← NG.out, e])
                        show (regOfF 20 Try.f37).wp _ _ _ _
                        refine rfil_reg _ _ _ _ _ _ _ _ _ _ _ _ _ _ _ _ _ _ _ _ _ _ _ _ _ _ _ _ _ _ _ _ _ _ _ _ _ _ _ _ _ _ _ _ _ _ _ _ _ _ _ _ _ _ _ _ _ _ _ _ _ _ _ _ _ _ _ _ _ _ _ _ _ _ _ _ _ _ _ _ _ _ _ _ _ _ _ _ _ _ _ _ _ wr c m fb qb pb g k1 ss.length x p u v y HC2.out kF BQ.out BP.out q0 q1 HC.out HY HB bp by_ hu0 pt0.1 xt0.2 il1 nf nq2 np2 (fun _ _ _ _ _ _ _ _ _ _ _ _ _ _ _ _ _ _ _ _ _ _ _ _ _ _ _ w22 hg => ?_)
                        have HO := Lib.hid (HN.out _ hg).out
                        have GF : Hid (V5.grownBy (w22.setCell ⟨g, m * 7 + (c + 4), none⟩ (.int .i64 v)) row) := grown_setr (grown_trans G0.out (grown_any row hg)) NG.out _ _
                        have BF2 : Hid ((w22.setCell ⟨g, m * 7 + (c + 4), none⟩ (.int .i64 v)).heap[fb]? = some (.cells #[.string nm, .int .i64 sp, .int .i64 st, .slice s1 ss.length k1, .slice l1 ls.length j1, .slice t1 ts.length i1] 26 (0, 0))) := blk_far4 (block_at (row := none) BF.out hg (by simp)) nf _ _
                        have BQ2 : Hid ((w22.setCell ⟨g, m * 7 + (c + 4), none⟩ (.int .i64 v)).heap[qb]? = some (.cells #[.int .i64 x.t, .int .i64 x.x, .int .i64 x.y, .int .i64 x.z, .int .i64 x.p, .int .i64 x.q, .int .i64 x.s] 28 (0, 0))) := blk_far4 (block_at (row := none) BQ.out hg (by simp)) nq2 _ _
                        have BP2 : Hid ((w22.setCell ⟨g, m * 7 + (c + 4), none⟩ (.int .i64 v)).heap[pb]? = some (.cells #[.int .i64 p.t, .int .i64 p.x, .int .i64 p.y, .int .i64 p.z, .int .i64 p.p, .int .i64 p.q, .int .i64 p.s] 28 (0, 0))) := blk_far4 (block_at (row := none) BP.out hg (by simp)) np2 _ _
                        clear kF nf nq2 np2 hg q0 q1
                        generalize w22.setCell ⟨g, m * 7 + (c + 4), none⟩ (.int .i64 v) = V12 at *
                        go_wp2_with fail
                        go_roundw
                        case rel => exact ⟨n1 + 1, by have h := HNM.out; rw [show i + (n1 + 1) = m + 1 by omega]; go_num, by omega, by have := HNM.out; have := HNL.out; omega, HO, BF2, BQ2, BP2, GF⟩
                        case measure => have := HNM.out; have := HNL.out; simp [intOf]; omega
                      · skip
                        have hnk2 : i + n1 = k := by omega
                        rw [hnk2]
                        have rk := rkk.out
                        have e9 : n1 - 1 = k - i - 1 := by omega
                        rw [e9] at R
                        rw [← HF2.out] at R
                        clear rn hnl hnk hn1 e9
                        go_wp2_with fail
                        go_roundw
                        case rel => exact ⟨k + 1, by rw [HZ.out.1], by go_num, HLT.out, R, BF, G0⟩
                        case measure => have := HLT.out; simp [intOf]; omega
                  · have hd3 : decide (x.t - p.t ≤ gap) = false := by simpa using hgp
                    have hf := HF1.out
                    rw [if_neg hgp] at hf
                    have HF := Lib.hid hf
                    try simp only [hd3]
                    clear hf hgp HF1 d0 d1 d2 d3 d4 d5 d6
                    go_wp2_with fail
                    go_roundw
                    case rel => exact ⟨k + 1, by rw [HZ.out.1], by go_num, HLT.out, by show World.ownsRow _ _ _ _ _ _ _; rw [HF.out]; exact R.out, BF, G0⟩
                    case measure => have := HLT.out; simp [intOf]; omega
            · obtain rfl : k = ss.length := by omega
              have rc := RC.out
              go_wp2_with fail
              go_roundw
              case rel => exact ⟨c + 1, by go_num, by have := HC2.out; omega, R, BF, G0⟩
              case measure => have := HC2.out; simp [intOf]; omega
        · skip
          obtain rfl : c = 3 := by omega
          have M8 := Lib.hid (KM.out _ G0.out)
          have HL := Lib.hid (H5.out.hl.rowed G0.out (fun p hp e => by
            obtain ⟨q, hq⟩ : ∃ q, s1 = some q := by
              rw [← HRB.out] at e
              cases s1 with
              | none => cases e
              | some q => exact ⟨q, rfl⟩
            have e2 := HRB.out
            rw [hq] at e2
            rw [← e2] at e
            injection e with e
            exact SP1.out q p hq hp e.symm))
          have HT := Lib.hid (H5.out.ht.rowed G0.out (fun p hp e => by
            obtain ⟨q, hq⟩ : ∃ q, s1 = some q := by
              rw [← HRB.out] at e
              cases s1 with
              | none => cases e
              | some q => exact ⟨q, rfl⟩
            have e2 := HRB.out
            rw [hq] at e2
            rw [← e2] at e
            injection e with e
            exact SP2.out q p hq hp e.symm))
          have hfl := fill3_len gap ss
          have hs8 : SmpsAt wr s1 (fill3 gap ss) := by
            have q : World.ownsRow wr b0 28 7 (.slice s1 (fill3 gap ss).length k1) (fill3 gap ss).length (smpRw (fill3 gap ss)) := by rw [hfl]; exact R.out
            obtain ⟨ao, cp, hv, hs, _⟩ := own_smps q
            injection hv with e1 _ _
            rw [e1]; exact hs
          have HQ : Hid (ActAt wr ⟨nm, sp, st, s1, k1, fill3 gap ss, l1, j1, ls, t1, i1, ts⟩) := ⟨H5.out.ns, by show ((fill3 gap ss).length : Int) ≤ _; rw [hfl]; exact H5.out.sl, H5.out.ll, H5.out.tl, hs8, HL.out, HT.out⟩
          have HQF : Hid (ActFar ⟨nm, sp, st, s1, k1, fill3 gap ss, l1, j1, ls, t1, i1, ts⟩ (w.heap.size + 2)) := ⟨fun p e => HFZ.out p (.inl e), fun p e => HFZ.out p (.inr (.inl e)), fun p e => HFZ.out p (.inr (.inr e))⟩
          have HFL := Lib.hid hfl
          clear hfl hs8 HL HT H5 R G0 M5 KM KS hc hc3 BF0 R5 G00
          have x0 := block_cell BF.out 0 _ rfl
          have x1 := block_cell BF.out 1 _ rfl
          have x2 := block_cell BF.out 2 _ rfl
          have x3 := block_cell BF.out 3 _ rfl
          have x4 := block_cell BF.out 4 _ rfl
          have x5 := block_cell BF.out 5 _ rfl
          have z0 := block_cell M8.out.z 0 _ rfl
          have y0 := block_free (k := 0) M8.out.z
          have z1 := block_cell M8.out.z 1 _ rfl
          have y1 := block_free (k := 1) M8.out.z
          have z2 := block_cell M8.out.z 2 _ rfl
          have y2 := block_free (k := 2) M8.out.z
          have z3 := block_cell M8.out.z 3 _ rfl
          have y3 := block_free (k := 3) M8.out.z
          have z4 := block_cell M8.out.z 4 _ rfl
          have y4 := block_free (k := 4) M8.out.z
          have z5 := block_cell M8.out.z 5 _ rfl
          have y5 := block_free (k := 5) M8.out.z
          go_wp2_with fail
          refine bodyPost_ret (v := .tuple #[.agg #[.string nm, .int .i64 sp, .int .i64 st, .slice s1 ss.length k1, .slice l1 ls.length j1, .slice t1 ts.length i1], .int .i64 0]) (by simp [results, Try.results37, go_sem, z0, z1, z2, z3, z4, z5]) rfl ⟨⟨_, rfl, s1, k1, l1, j1, t1, i1, ?_, ?_, HQF.out.mono (by omega)⟩, ((((((M8.out.setZ 0 _).setZ 1 _).setZ 2 _).setZ 3 _).setZ 4 _).setZ 5 _).g⟩
          · show Value.agg #[.string nm, .int .i64 sp, .int .i64 st, .slice s1 ss.length k1, .slice l1 ls.length j1, .slice t1 ts.length i1] = Value.agg #[.string nm, .int .i64 sp, .int .i64 st, .slice s1 (fill3 gap ss).length k1, .slice l1 ls.length j1, .slice t1 ts.length i1]
            rw [HFL.out]
          · refine HQ.out.far HQF.out (fun p hp => ?_)
            iterate 6 rw [World.cell?_setCell_other _ _ _ _ (fun e => by subst e; simp at hp)]
    · rw [if_neg d2] at hv
      simp only [Prod.mk.injEq] at hv
      obtain ⟨rfl, rfl⟩ := hv
      have D2 : Hid (gap < 0 ∨ 1000000 < gap) := by show _ ∨ _; omega
      obtain ⟨nm, sp, st, so, sc, ss, lo, lc, ls, to_, tc, ts⟩ := a
      simp only [Act.val] at *
      clear hE hce ha d2
      have M0 := Lib.hid (ClB.new w #[.string nm, .int .i64 sp, .int .i64 st, .slice so ss.length sc, .slice lo ls.length lc, .slice to_ ts.length tc] #[.string ⟨#[]⟩, .int .i64 0, .int .i64 0, .slice none 0 0, .slice none 0 0, .slice none 0 0])
      go_enter Try.func37, Try.ntmps37
      go_wp2_with fail
      refine (rcheck_any ⟨nm, sp, st, so, sc, ss, lo, lc, ls, to_, tc, ts⟩ _ (HA.out.grown M0.out.g) HCE).mono ?_; rintro e w1 ⟨rfl, hg1⟩
      have M1 := Lib.hid (M0.out.grown hg1)
      clear hg1
      go_wp2_with fail
      refine (rout_yes _ _ _ D2.out _).mono ?_; rintro e w2 ⟨rfl, rfl⟩
      have z0 := block_cell M1.out.z 0 _ rfl
      have y0 := block_free (k := 0) M1.out.z
      have z1 := block_cell M1.out.z 1 _ rfl
      have y1 := block_free (k := 1) M1.out.z
      have z2 := block_cell M1.out.z 2 _ rfl
      have y2 := block_free (k := 2) M1.out.z
      have z3 := block_cell M1.out.z 3 _ rfl
      have y3 := block_free (k := 3) M1.out.z
      have z4 := block_cell M1.out.z 4 _ rfl
      have y4 := block_free (k := 4) M1.out.z
      have z5 := block_cell M1.out.z 5 _ rfl
      have y5 := block_free (k := 5) M1.out.z
      go_wp2_with fail
      refine bodyPost_ret (v := .tuple #[.agg #[.string ⟨#[]⟩, .int .i64 0, .int .i64 0, .slice none 0 0, .slice none 0 0, .slice none 0 0], .int .i64 9]) (by simp [results, Try.results37, go_sem, z0, z1, z2, z3, z4, z5]) rfl ⟨⟨_, rfl, act0_new _ _⟩, ((((((M1.out.setZ 0 _).setZ 1 _).setZ 2 _).setZ 3 _).setZ 4 _).setZ 5 _).g⟩
  · rw [if_neg d1] at hv
    simp only [Prod.mk.injEq] at hv
    obtain ⟨rfl, rfl⟩ := hv
    have hne : (ce != 0) = true := by simpa using d1
    obtain ⟨nm, sp, st, so, sc, ss, lo, lc, ls, to_, tc, ts⟩ := a
    simp only [Act.val] at *
    clear hE hce ha d1
    have M0 := Lib.hid (ClB.new w #[.string nm, .int .i64 sp, .int .i64 st, .slice so ss.length sc, .slice lo ls.length lc, .slice to_ ts.length tc] #[.string ⟨#[]⟩, .int .i64 0, .int .i64 0, .slice none 0 0, .slice none 0 0, .slice none 0 0])
    go_enter Try.func37, Try.ntmps37
    go_wp2_with fail
    refine (rcheck_any ⟨nm, sp, st, so, sc, ss, lo, lc, ls, to_, tc, ts⟩ _ (HA.out.grown M0.out.g) HCE).mono ?_; rintro e w1 ⟨rfl, hg1⟩
    have M1 := Lib.hid (M0.out.grown hg1)
    clear hg1
    have z0 := block_cell M1.out.z 0 _ rfl
    have y0 := block_free (k := 0) M1.out.z
    have z1 := block_cell M1.out.z 1 _ rfl
    have y1 := block_free (k := 1) M1.out.z
    have z2 := block_cell M1.out.z 2 _ rfl
    have y2 := block_free (k := 2) M1.out.z
    have z3 := block_cell M1.out.z 3 _ rfl
    have y3 := block_free (k := 3) M1.out.z
    have z4 := block_cell M1.out.z 4 _ rfl
    have y4 := block_free (k := 4) M1.out.z
    have z5 := block_cell M1.out.z 5 _ rfl
    have y5 := block_free (k := 5) M1.out.z
    go_wp2_with fail
    refine bodyPost_ret (v := .tuple #[.agg #[.string ⟨#[]⟩, .int .i64 0, .int .i64 0, .slice none 0 0, .slice none 0 0, .slice none 0 0], .int .i64 ce]) (by simp [results, Try.results37, go_sem, z0, z1, z2, z3, z4, z5]) rfl ⟨⟨_, rfl, act0_new _ _⟩, ((((((M1.out.setZ 0 _).setZ 1 _).setZ 2 _).setZ 3 _).setZ 4 _).setZ 5 _).g⟩
end Go.Proofs.Ytgkhhfojioepgaa
