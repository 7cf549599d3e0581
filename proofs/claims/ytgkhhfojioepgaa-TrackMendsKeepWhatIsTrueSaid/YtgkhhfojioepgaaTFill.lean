/- The contract of Fill, for any activity and any gap. -/
import Derived.Test.YtgkhhfojioepgaaTFil4
import Derived.Test.YtgkhhfojioepgaaTFil5
import Derived.Test.YtgkhhfojioepgaaTFil6
import Derived.Test.YtgkhhfojioepgaaTCloneO
import Derived.Test.YtgkhhfojioepgaaTChkd
import Derived.Test.YtgkhhfojioepgaaTCutP
namespace Go.Proofs.Ytgkhhfojioepgaa
open Go.RowKit
set_option linter.unusedSimpArgs false
set_option linter.unusedVariables false

attribute [local go_sem] Oper.semAt_some
theorem LapsAt.rowed {w W : World} {row : Option Nat} {ao : Option Addr} {l : List LapV} (h : LapsAt w ao l) (g : w.grownBy W row) (hne : ∀ p, ao = some p → some p.block ≠ row) : LapsAt W ao l :=
  ⟨h.nil, h.spot, fun a ha i hi => by
    obtain ⟨h0, h1, h2⟩ := h.cells a ha i hi
    exact ⟨g.cell h0 (hne a ha), g.cell h1 (hne a ha), g.cell h2 (hne a ha)⟩, h.sizes⟩
theorem TagsAt.rowed {w W : World} {row : Option Nat} {ao : Option Addr} {l : List ByteArray} (h : TagsAt w ao l) (g : w.grownBy W row) (hne : ∀ p, ao = some p → some p.block ≠ row) : TagsAt W ao l :=
  ⟨h.nil, h.spot, fun a ha i hi => g.cell (h.cells a ha i hi) (hne a ha), h.sizes⟩
/-- What Fill returns. -/
noncomputable def fillO (a : Act) (gap : Int) : Act × Int := if chkE a = 0 then (if 0 ≤ gap ∧ gap ≤ 1000000 then ({ a with ss := fill3 gap a.ss }, 0) else (act0, 9)) else (act0, chkE a)
theorem fill1_len (gap : Int) (A : List Smp) : (fill1 gap A).length = A.length := fi_len _ _ _ _ _
theorem fill2_len (gap : Int) (A : List Smp) : (fill2 gap A).length = A.length := (fi_len _ _ _ _ _).trans (fill1_len gap A)
theorem fill3_len (gap : Int) (A : List Smp) : (fill3 gap A).length = A.length := (fi_len _ _ _ _ _).trans (fill2_len gap A)
theorem fil4_n (base : Nat) (ao : Option Addr) (cap n : Nat) (A M : List Smp) (hn : M.length = n) (HS : Hid (SOk A)) (hM : Hid (Agr 4 A M 0)) (gap : Int) (w : World) (ho : Hid (World.ownsRow w base 28 7 (.slice ao n cap) n (smpRw M))) :
    Calls Try.prog 91 #[.slice ao n cap, .int .i64 gap, .func (.func 90) #[] #[], .func (.func 92) #[] #[]] w fun e w' => e = .returned (.tuple #[]) ∧ Hid (World.ownsRow w' base 28 7 (.slice ao n cap) n (smpRw (fiA 4 gap A M A.length))) ∧ w.grownBy w' (Value.slice ao n cap).ownBlock := by
  subst hn; exact fil4_is base ao cap A M HS hM gap w ho
theorem fil5_n (base : Nat) (ao : Option Addr) (cap n : Nat) (A M : List Smp) (hn : M.length = n) (HS : Hid (SOk A)) (hM : Hid (Agr 5 A M 0)) (gap : Int) (w : World) (ho : Hid (World.ownsRow w base 28 7 (.slice ao n cap) n (smpRw M))) :
    Calls Try.prog 91 #[.slice ao n cap, .int .i64 gap, .func (.func 90) #[] #[], .func (.func 93) #[] #[]] w fun e w' => e = .returned (.tuple #[]) ∧ Hid (World.ownsRow w' base 28 7 (.slice ao n cap) n (smpRw (fiA 5 gap A M A.length))) ∧ w.grownBy w' (Value.slice ao n cap).ownBlock := by
  subst hn; exact fil5_is base ao cap A M HS hM gap w ho
theorem fil6_n (base : Nat) (ao : Option Addr) (cap n : Nat) (A M : List Smp) (hn : M.length = n) (HS : Hid (SOk A)) (hM : Hid (Agr 6 A M 0)) (gap : Int) (w : World) (ho : Hid (World.ownsRow w base 28 7 (.slice ao n cap) n (smpRw M))) :
    Calls Try.prog 91 #[.slice ao n cap, .int .i64 gap, .func (.func 90) #[] #[], .func (.func 94) #[] #[]] w fun e w' => e = .returned (.tuple #[]) ∧ Hid (World.ownsRow w' base 28 7 (.slice ao n cap) n (smpRw (fiA 6 gap A M A.length))) ∧ w.grownBy w' (Value.slice ao n cap).ownBlock := by
  subst hn; exact fil6_is base ao cap A M HS hM gap w ho

set_option maxRecDepth 100000 in
set_option maxHeartbeats 3200000 in
theorem Fill_any (a : Act) (gap : Int) (w : World) (ha : ActAt w a) {c : Act} {E : Int} (hE : Hid (fillO a gap = (c, E))) :
    Calls Try.prog 36 #[a.val, .int .i64 gap] w fun e w' => (∃ v, e = .returned (.tuple #[v, .int .i64 E]) ∧ ActNew w.heap.size w' v c) ∧ w.grownBy w' none := by
  obtain ⟨ce, hce⟩ : ∃ e, chkE a = e := ⟨_, rfl⟩
  have hv := hE.out
  unfold fillO at hv
  rw [hce] at hv
  have HCE := Lib.hid hce; have HA := Lib.hid ha
  by_cases d1 : ce = 0
  · rw [if_pos d1] at hv
    subst d1
    by_cases d2 : 0 ≤ gap ∧ gap ≤ 1000000
    · rw [if_pos d2] at hv
      simp only [Prod.mk.injEq] at hv
      obtain ⟨rfl, rfl⟩ := hv
      have ok := chk_ok hce
      have hl1 : (a.ss.length : Int) ≤ 20000 := ok.sl
      have hl2 : (a.ls.length : Int) ≤ 200 := ok.ll
      have hl3 : (a.ts.length : Int) ≤ 20 := ok.tl
      have HS := Lib.hid (sok_of ok)
      obtain ⟨nm, sp, st, so, sc, ss, lo, lc, ls, to_, tc, ts⟩ := a
      simp only [Act.val] at *
      clear hE hce ha ok
      have M0 := Lib.hid (ClB.new w #[.string nm, .int .i64 sp, .int .i64 st, .slice so ss.length sc, .slice lo ls.length lc, .slice to_ ts.length tc] #[.string ⟨#[]⟩, .int .i64 0, .int .i64 0, .slice none 0 0, .slice none 0 0, .slice none 0 0])
      go_enter Try.func36, Try.ntmps36
      go_wp2_with fail
      refine (check_any ⟨nm, sp, st, so, sc, ss, lo, lc, ls, to_, tc, ts⟩ _ (HA.out.grown M0.out.g) HCE).mono ?_; rintro e w1 ⟨rfl, hg1⟩
      have M1 := Lib.hid (M0.out.grown hg1)
      clear hg1
      go_wp2_with fail
      refine (twithin_yes _ _ _ d2.1 d2.2 _).mono ?_; rintro e w2 ⟨rfl, rfl⟩
      have u0 := block_cell M1.out.a 0 _ rfl
      have u1 := block_cell M1.out.a 1 _ rfl
      have u2 := block_cell M1.out.a 2 _ rfl
      have u3 := block_cell M1.out.a 3 _ rfl
      have u4 := block_cell M1.out.a 4 _ rfl
      have u5 := block_cell M1.out.a 5 _ rfl
      go_wp2_with fail
      refine (clone_own ⟨nm, sp, st, so, sc, ss, lo, lc, ls, to_, tc, ts⟩ (by show ss.length ≤ _; omega) (by show ls.length ≤ _; omega) (by show ts.length ≤ _; omega) _ (HA.out.grown M1.out.g)).mono ?_; rintro e w4 ⟨⟨vv, rfl, hvv⟩, hg4⟩
      obtain ⟨s1, k1, l1, j1, t1, i1, rfl, hat, hfar, ⟨b0, hb0, hrow⟩, sp1, sp2⟩ := hvv
      simp only at hat hfar hrow
      have HSZ : Hid (w.heap.size + 2 ≤ b0) := by have := M1.out.lt; show _ ≤ _; omega
      have HFZ : Hid (∀ p : Addr, s1 = some p ∨ l1 = some p ∨ t1 = some p → w.heap.size + 2 ≤ p.block) := fun p hp => by
        have := M1.out.lt
        rcases hp with h | h | h
        · have := hfar.s p h; omega
        · have := hfar.l p h; omega
        · have := hfar.t p h; omega
      have M2 := Lib.hid (M1.out.grown hg4)
      have HAT := Lib.hid hat; have SP1 := Lib.hid sp1; have SP2 := Lib.hid sp2; have HRW := Lib.hid hrow
      clear hg4 hat hfar hb0 hrow sp1 sp2 u0 u1 u2 u3 u4 u5 M1 M0
      go_upto_region 8 with (fail)
      obtain ⟨V5, hV⟩ : ∃ V, w4.alloc (.cells #[.string nm, .int .i64 sp, .int .i64 st, .slice s1 ss.length k1, .slice l1 ls.length j1, .slice t1 ts.length i1] 26) = V := ⟨_, rfl⟩
      have G5 : w4.grownBy V5 none := by rw [← hV]; exact World.grownBy_alloc _ _ _
      have BF : Hid (V5.heap[w4.heap.size]? = some (.cells #[.string nm, .int .i64 sp, .int .i64 st, .slice s1 ss.length k1, .slice l1 ls.length j1, .slice t1 ts.length i1] 26 (0, 0))) := by show _; rw [← hV]; exact heap_alloc_new _ _
      rw [hV]
      have M5 := Lib.hid (M2.out.grown G5)
      have H5 := Lib.hid (HAT.out.grown G5)
      have R5 : Hid (World.ownsRow V5 b0 28 7 (.slice s1 ss.length k1) ss.length (smpRw (ss))) := HRW.out.kept G5 (by cases (Value.slice s1 ss.length k1).ownBlock <;> simp)
      have RB : Hid (∀ r, (Value.slice s1 ss.length k1).ownBlock = some r → w.heap.size + 2 ≤ r ∧ r ≠ w4.heap.size) := fun r hr => by
        have q := HRW.out.lt r hr; have := HSZ.out
        exact ⟨by omega, by omega⟩
      clear hV G5 HRW HAT M2
      generalize w4.heap.size = fb at *
      obtain ⟨row, hrw⟩ : ∃ r, (Value.slice s1 ss.length k1).ownBlock = r := ⟨_, rfl⟩
      rw [hrw] at RB
      have HRB := Lib.hid hrw
      clear hrw
      have G0 : Hid (V5.grownBy V5 row) := World.grownBy.refl _ _
      have NF : Hid (some fb ≠ row) := fun e => (RB.out fb e.symm).2 rfl
      have f3 := block_cell BF.out 3 _ rfl
      go_wp2_with fail
      refine (fil4_n b0 s1 k1 ss.length ss (ss) rfl HS (Lib.hid (Agr.refl 4 ss)) gap _ R5).mono ?_; rintro e w6 ⟨rfl, hr, hg⟩
      rw [HRB.out] at hg
      replace R5 : Hid (World.ownsRow w6 b0 28 7 (.slice s1 ss.length k1) ss.length (smpRw (fill1 gap ss))) := hr
      replace BF := Lib.hid (block_at BF.out hg NF.out)
      replace G0 : Hid (V5.grownBy w6 row) := grown_trans G0.out hg
      clear f3 hr hg
      have f3 := block_cell BF.out 3 _ rfl
      go_wp2_with fail
      refine (fil5_n b0 s1 k1 ss.length ss (fill1 gap ss) (fill1_len gap ss) HS (Lib.hid (agr2 HS.out gap)) gap _ R5).mono ?_; rintro e w7 ⟨rfl, hr, hg⟩
      rw [HRB.out] at hg
      replace R5 : Hid (World.ownsRow w7 b0 28 7 (.slice s1 ss.length k1) ss.length (smpRw (fill2 gap ss))) := hr
      replace BF := Lib.hid (block_at BF.out hg NF.out)
      replace G0 : Hid (V5.grownBy w7 row) := grown_trans G0.out hg
      clear f3 hr hg
      have f3 := block_cell BF.out 3 _ rfl
      go_wp2_with fail
      refine (fil6_n b0 s1 k1 ss.length ss (fill2 gap ss) (fill2_len gap ss) HS (Lib.hid (agr3 HS.out gap)) gap _ R5).mono ?_; rintro e w8 ⟨rfl, hr, hg⟩
      rw [HRB.out] at hg
      replace R5 : Hid (World.ownsRow w8 b0 28 7 (.slice s1 ss.length k1) ss.length (smpRw (fill3 gap ss))) := hr
      replace BF := Lib.hid (block_at BF.out hg NF.out)
      replace G0 : Hid (V5.grownBy w8 row) := grown_trans G0.out hg
      clear f3 hr hg
      have M8 : Hid (ClB w #[.string nm, .int .i64 sp, .int .i64 st, .slice so ss.length sc, .slice lo ls.length lc, .slice to_ ts.length tc] #[.string ⟨#[]⟩, .int .i64 0, .int .i64 0, .slice none 0 0, .slice none 0 0, .slice none 0 0] w8) := clb_row2 M5.out G0.out (fun r hr => (RB.out r hr).1)
      have HL := Lib.hid (H5.out.hl.rowed G0.out (fun p hp e => by
        obtain ⟨q, hq⟩ : ∃ q, s1 = some q := by
          rw [← HRB.out] at e
          cases s1 with
          | none => cases e
          | some q => exact ⟨q, rfl⟩
        have e2 := HRB.out
        rw [hq] at e2
        rw [← e2] at e
        injection e with e
        exact SP1.out q p hq hp e.symm))
      have HT := Lib.hid (H5.out.ht.rowed G0.out (fun p hp e => by
        obtain ⟨q, hq⟩ : ∃ q, s1 = some q := by
          rw [← HRB.out] at e
          cases s1 with
          | none => cases e
          | some q => exact ⟨q, rfl⟩
        have e2 := HRB.out
        rw [hq] at e2
        rw [← e2] at e
        injection e with e
        exact SP2.out q p hq hp e.symm))
      have hfl := fill3_len gap ss
      have hs8 : SmpsAt w8 s1 (fill3 gap ss) := by
        have q : World.ownsRow w8 b0 28 7 (.slice s1 (fill3 gap ss).length k1) (fill3 gap ss).length (smpRw (fill3 gap ss)) := by rw [hfl]; exact R5.out
        obtain ⟨ao, cp, hv, hs, _⟩ := own_smps q
        injection hv with e1 _ _
        rw [e1]; exact hs
      have HQ : Hid (ActAt w8 ⟨nm, sp, st, s1, k1, fill3 gap ss, l1, j1, ls, t1, i1, ts⟩) := ⟨H5.out.ns, by show ((fill3 gap ss).length : Int) ≤ _; rw [hfl]; exact H5.out.sl, H5.out.ll, H5.out.tl, hs8, HL.out, HT.out⟩
      have HQF : Hid (ActFar ⟨nm, sp, st, s1, k1, fill3 gap ss, l1, j1, ls, t1, i1, ts⟩ (w.heap.size + 2)) := ⟨fun p e => HFZ.out p (.inl e), fun p e => HFZ.out p (.inr (.inl e)), fun p e => HFZ.out p (.inr (.inr e))⟩
      have HFL := Lib.hid hfl
      clear hfl hs8 HL HT H5 R5 G0 M5
      have x0 := block_cell BF.out 0 _ rfl
      have x1 := block_cell BF.out 1 _ rfl
      have x2 := block_cell BF.out 2 _ rfl
      have x3 := block_cell BF.out 3 _ rfl
      have x4 := block_cell BF.out 4 _ rfl
      have x5 := block_cell BF.out 5 _ rfl
      have z0 := block_cell M8.out.z 0 _ rfl
      have y0 := block_free (k := 0) M8.out.z
      have z1 := block_cell M8.out.z 1 _ rfl
      have y1 := block_free (k := 1) M8.out.z
      have z2 := block_cell M8.out.z 2 _ rfl
      have y2 := block_free (k := 2) M8.out.z
      have z3 := block_cell M8.out.z 3 _ rfl
      have y3 := block_free (k := 3) M8.out.z
      have z4 := block_cell M8.out.z 4 _ rfl
      have y4 := block_free (k := 4) M8.out.z
      have z5 := block_cell M8.out.z 5 _ rfl
      have y5 := block_free (k := 5) M8.out.z
      go_wp2_with fail
      refine bodyPost_ret (v := .tuple #[.agg #[.string nm, .int .i64 sp, .int .i64 st, .slice s1 ss.length k1, .slice l1 ls.length j1, .slice t1 ts.length i1], .int .i64 0]) (by simp [results, Try.results36, go_sem, z0, z1, z2, z3, z4, z5]) rfl ⟨⟨_, rfl, s1, k1, l1, j1, t1, i1, ?_, ?_, HQF.out.mono (by omega)⟩, ((((((M8.out.setZ 0 _).setZ 1 _).setZ 2 _).setZ 3 _).setZ 4 _).setZ 5 _).g⟩
      · show Value.agg #[.string nm, .int .i64 sp, .int .i64 st, .slice s1 ss.length k1, .slice l1 ls.length j1, .slice t1 ts.length i1] = Value.agg #[.string nm, .int .i64 sp, .int .i64 st, .slice s1 (fill3 gap ss).length k1, .slice l1 ls.length j1, .slice t1 ts.length i1]
        rw [HFL.out]
      · refine HQ.out.far HQF.out (fun p hp => ?_)
        iterate 6 rw [World.cell?_setCell_other _ _ _ _ (fun e => by subst e; simp at hp)]
    · rw [if_neg d2] at hv
      simp only [Prod.mk.injEq] at hv
      obtain ⟨rfl, rfl⟩ := hv
      have D2 : Hid (gap < 0 ∨ 1000000 < gap) := by show _ ∨ _; omega
      obtain ⟨nm, sp, st, so, sc, ss, lo, lc, ls, to_, tc, ts⟩ := a
      simp only [Act.val] at *
      clear hE hce ha d2
      have M0 := Lib.hid (ClB.new w #[.string nm, .int .i64 sp, .int .i64 st, .slice so ss.length sc, .slice lo ls.length lc, .slice to_ ts.length tc] #[.string ⟨#[]⟩, .int .i64 0, .int .i64 0, .slice none 0 0, .slice none 0 0, .slice none 0 0])
      go_enter Try.func36, Try.ntmps36
      go_wp2_with fail
      refine (check_any ⟨nm, sp, st, so, sc, ss, lo, lc, ls, to_, tc, ts⟩ _ (HA.out.grown M0.out.g) HCE).mono ?_; rintro e w1 ⟨rfl, hg1⟩
      have M1 := Lib.hid (M0.out.grown hg1)
      clear hg1
      go_wp2_with fail
      refine (twithin_no _ _ _ D2.out _).mono ?_; rintro e w2 ⟨rfl, rfl⟩
      have z0 := block_cell M1.out.z 0 _ rfl
      have y0 := block_free (k := 0) M1.out.z
      have z1 := block_cell M1.out.z 1 _ rfl
      have y1 := block_free (k := 1) M1.out.z
      have z2 := block_cell M1.out.z 2 _ rfl
      have y2 := block_free (k := 2) M1.out.z
      have z3 := block_cell M1.out.z 3 _ rfl
      have y3 := block_free (k := 3) M1.out.z
      have z4 := block_cell M1.out.z 4 _ rfl
      have y4 := block_free (k := 4) M1.out.z
      have z5 := block_cell M1.out.z 5 _ rfl
      have y5 := block_free (k := 5) M1.out.z
      go_wp2_with fail
      refine bodyPost_ret (v := .tuple #[.agg #[.string ⟨#[]⟩, .int .i64 0, .int .i64 0, .slice none 0 0, .slice none 0 0, .slice none 0 0], .int .i64 9]) (by simp [results, Try.results36, go_sem, z0, z1, z2, z3, z4, z5]) rfl ⟨⟨_, rfl, act0_new _ _⟩, ((((((M1.out.setZ 0 _).setZ 1 _).setZ 2 _).setZ 3 _).setZ 4 _).setZ 5 _).g⟩
  · rw [if_neg d1] at hv
    simp only [Prod.mk.injEq] at hv
    obtain ⟨rfl, rfl⟩ := hv
    have hne : (ce != 0) = true := by simpa using d1
    obtain ⟨nm, sp, st, so, sc, ss, lo, lc, ls, to_, tc, ts⟩ := a
    simp only [Act.val] at *
    clear hE hce ha d1
    have M0 := Lib.hid (ClB.new w #[.string nm, .int .i64 sp, .int .i64 st, .slice so ss.length sc, .slice lo ls.length lc, .slice to_ ts.length tc] #[.string ⟨#[]⟩, .int .i64 0, .int .i64 0, .slice none 0 0, .slice none 0 0, .slice none 0 0])
    go_enter Try.func36, Try.ntmps36
    go_wp2_with fail
    refine (check_any ⟨nm, sp, st, so, sc, ss, lo, lc, ls, to_, tc, ts⟩ _ (HA.out.grown M0.out.g) HCE).mono ?_; rintro e w1 ⟨rfl, hg1⟩
    have M1 := Lib.hid (M0.out.grown hg1)
    clear hg1
    have z0 := block_cell M1.out.z 0 _ rfl
    have y0 := block_free (k := 0) M1.out.z
    have z1 := block_cell M1.out.z 1 _ rfl
    have y1 := block_free (k := 1) M1.out.z
    have z2 := block_cell M1.out.z 2 _ rfl
    have y2 := block_free (k := 2) M1.out.z
    have z3 := block_cell M1.out.z 3 _ rfl
    have y3 := block_free (k := 3) M1.out.z
    have z4 := block_cell M1.out.z 4 _ rfl
    have y4 := block_free (k := 4) M1.out.z
    have z5 := block_cell M1.out.z 5 _ rfl
    have y5 := block_free (k := 5) M1.out.z
    go_wp2_with fail
    refine bodyPost_ret (v := .tuple #[.agg #[.string ⟨#[]⟩, .int .i64 0, .int .i64 0, .slice none 0 0, .slice none 0 0, .slice none 0 0], .int .i64 ce]) (by simp [results, Try.results36, go_sem, z0, z1, z2, z3, z4, z5]) rfl ⟨⟨_, rfl, act0_new _ _⟩, ((((((M1.out.setZ 0 _).setZ 1 _).setZ 2 _).setZ 3 _).setZ 4 _).setZ 5 _).g⟩
end Go.Proofs.Ytgkhhfojioepgaa
