/- The contract of Level, for any activity and any width. -/
import Derived.Test.YtgkhhfojioepgaaTMid
import Derived.Test.YtgkhhfojioepgaaTFill
namespace Go.Proofs.Ytgkhhfojioepgaa
open Go.RowKit
set_option linter.unusedSimpArgs false
set_option linter.unusedVariables false

attribute [local go_sem] Oper.semAt_some
theorem lv_grow {w W : World} (row : Option Nat) (h : w.grownBy W none) : w.grownBy W row := ⟨h.os, h.tape, h.output, h.size, fun k hk _ => h.block k hk (by simp)⟩
theorem lv_set {w W : World} {g : Nat} {row : Option Nat} (h : w.grownBy W row) (hr : some g = row) (k : Nat) (v : Value) : w.grownBy (W.setCell ⟨g, k, none⟩ v) row := by
  subst hr; exact grown_set4 h k v
theorem lv_so {w : World} {so : Option Addr} {ss : List Smp} (h : SmpsAt w so ss) (hne : ss ≠ []) : ∃ b off, so = some ⟨b, off, none⟩ := by
  cases so with
  | none => exact absurd (h.nil rfl) hne
  | some p =>
    obtain ⟨b, off, spot⟩ := p
    have hsp := h.spot _ rfl hne
    simp only at hsp
    subst hsp
    exact ⟨b, off, rfl⟩
def frW (wd i : Nat) : Nat := i - wd
def toW (n wd i : Nat) : Nat := min (i + wd + 1) n
def winL (A : List Smp) (wd i : Nat) : List Smp := (A.drop (frW wd i)).take (toW A.length wd i - frW wd i)
theorem win_len {A : List Smp} {wd i : Nat} (hi : i < A.length) : (winL A wd i).length = toW A.length wd i - frW wd i ∧ frW wd i ≤ i ∧ i + 1 ≤ toW A.length wd i ∧ toW A.length wd i ≤ A.length ∧ toW A.length wd i - frW wd i ≤ 2 * wd + 1 := by
  unfold winL frW toW
  rw [List.length_take, List.length_drop]
  omega
theorem smps_win {w : World} {b o : Nat} {ss : List Smp} (h : SmpsAt w (some ⟨b, o, none⟩) ss) (f m : Nat) : SmpsAt w (some ⟨b, o + f * 7, none⟩) ((ss.drop f).take m) :=
  ⟨fun h => by simp at h, fun a ha _ => by cases ha; rfl, fun a ha i hi => by
    cases ha
    rw [List.length_take, List.length_drop] at hi
    have q := h.cells _ rfl (f + i) (by omega)
    have e : ((ss.drop f).take m)[i]'(by rw [List.length_take, List.length_drop]; exact hi) = ss[f + i]'(by omega) := by rw [List.getElem_take, List.getElem_drop]
    rw [e]
    simp only at q ⊢
    have e2 : o + (f + i) * 7 = o + f * 7 + i * 7 := by omega
    rw [e2] at q
    exact q⟩
/-- The heights of k samples are set. -/
noncomputable def lvA (A : List Smp) (wd : Nat) : Nat → List Smp
  | 0 => A
  | k + 1 => (lvA A wd k).set k (smpSet 3 (smpD (lvA A wd k) k) (midV (zsOf (winL A wd k))))
theorem lv_len (A : List Smp) (wd : Nat) : ∀ k, (lvA A wd k).length = A.length
  | 0 => rfl
  | k + 1 => by unfold lvA; rw [List.length_set]; exact lv_len A wd k
/-- What Level returns. -/
noncomputable def levelO (a : Act) (width : Int) : Act × Int := if chkE a = 0 then (if 0 ≤ width ∧ width ≤ 50 then ({ a with ss := lvA a.ss width.toNat a.ss.length }, 0) else (act0, 9)) else (act0, chkE a)

set_option maxRecDepth 100000 in
set_option maxHeartbeats 6400000 in
theorem Level_any (a : Act) (width : Int) (w : World) (ha : ActAt w a) (hsc : a.ss.length ≤ a.sc) {c : Act} {E : Int} (hE : Hid (levelO a width = (c, E))) :
    Calls Try.prog 34 #[a.val, .int .i64 width] w fun e w' => (∃ v, e = .returned (.tuple #[v, .int .i64 E]) ∧ ActNew w.heap.size w' v c) ∧ w.grownBy w' none := by
  obtain ⟨ce, hce⟩ : ∃ e, chkE a = e := ⟨_, rfl⟩
  have hv := hE.out
  unfold levelO at hv
  rw [hce] at hv
  have HCE := Lib.hid hce; have HA := Lib.hid ha
  by_cases d1 : ce = 0
  · rw [if_pos d1] at hv
    subst d1
    by_cases d2 : 0 ≤ width ∧ width ≤ 50
    · rw [if_pos d2] at hv
      simp only [Prod.mk.injEq] at hv
      obtain ⟨rfl, rfl⟩ := hv
      have ok := chk_ok hce
      have hl1 : (a.ss.length : Int) ≤ 20000 := ok.sl
      have hl2 : (a.ls.length : Int) ≤ 200 := ok.ll
      have hl3 : (a.ts.length : Int) ≤ 20 := ok.tl
      obtain ⟨wd, rfl⟩ : ∃ wd : Nat, width = (wd : Int) := ⟨width.toNat, by omega⟩
      rw [Int.toNat_natCast]
      obtain ⟨nm, sp, st, so, sc, ss, lo, lc, ls, to_, tc, ts⟩ := a
      simp only [Act.val] at *
      clear hE hce ha ok
      have M0 := Lib.hid (ClB.new w #[.string nm, .int .i64 sp, .int .i64 st, .slice so ss.length sc, .slice lo ls.length lc, .slice to_ ts.length tc] #[.string ⟨#[]⟩, .int .i64 0, .int .i64 0, .slice none 0 0, .slice none 0 0, .slice none 0 0])
      go_enter Try.func34, Try.ntmps34
      go_wp2_with fail
      refine (check_any ⟨nm, sp, st, so, sc, ss, lo, lc, ls, to_, tc, ts⟩ _ (HA.out.grown M0.out.g) HCE).mono ?_; rintro e w1 ⟨rfl, hg1⟩
      have M1 := Lib.hid (M0.out.grown hg1)
      clear hg1
      go_wp2_with fail
      refine (twithin_yes _ _ _ d2.1 d2.2 _).mono ?_; rintro e w2 ⟨rfl, rfl⟩
      have u0 := block_cell M1.out.a 0 _ rfl
      have u1 := block_cell M1.out.a 1 _ rfl
      have u2 := block_cell M1.out.a 2 _ rfl
      have u3 := block_cell M1.out.a 3 _ rfl
      have u4 := block_cell M1.out.a 4 _ rfl
      have u5 := block_cell M1.out.a 5 _ rfl
      go_wp2_with fail
      refine (clone_own ⟨nm, sp, st, so, sc, ss, lo, lc, ls, to_, tc, ts⟩ (by show ss.length ≤ _; omega) (by show ls.length ≤ _; omega) (by show ts.length ≤ _; omega) _ (HA.out.grown M1.out.g)).mono ?_; rintro e w4 ⟨⟨vv, rfl, hvv⟩, hg4⟩
      obtain ⟨s1, k1, l1, j1, t1, i1, rfl, hat, hfar, ⟨b0, hb0, hrow⟩, sp1, sp2⟩ := hvv
      simp only at hat hfar hrow
      have HSZ : Hid (w.heap.size + 2 ≤ b0) := by have := M1.out.lt; show _ ≤ _; omega
      have HFZ : Hid (∀ p : Addr, s1 = some p ∨ l1 = some p ∨ t1 = some p → w.heap.size + 2 ≤ p.block) := fun p hp => by
        have := M1.out.lt
        rcases hp with h | h | h
        · have := hfar.s p h; omega
        · have := hfar.l p h; omega
        · have := hfar.t p h; omega
      have M2 := Lib.hid (M1.out.grown hg4)
      have HAT := Lib.hid hat; have SP1 := Lib.hid sp1; have SP2 := Lib.hid sp2; have HRW := Lib.hid hrow
      clear hg4 hat hfar hb0 hrow sp1 sp2 u0 u1 u2 u3 u4 u5 M1 M0
      go_upto_region 7 with (fail)
      obtain ⟨V5, hV⟩ : ∃ V, w4.alloc (.cells #[.string nm, .int .i64 sp, .int .i64 st, .slice s1 ss.length k1, .slice l1 ls.length j1, .slice t1 ts.length i1] 26) = V := ⟨_, rfl⟩
      have G5 : w4.grownBy V5 none := by rw [← hV]; exact World.grownBy_alloc _ _ _
      have BF0 : Hid (V5.heap[w4.heap.size]? = some (.cells #[.string nm, .int .i64 sp, .int .i64 st, .slice s1 ss.length k1, .slice l1 ls.length j1, .slice t1 ts.length i1] 26 (0, 0))) := by show _; rw [← hV]; exact heap_alloc_new _ _
      rw [hV]
      have M5 := Lib.hid (M2.out.grown G5)
      have H5 := Lib.hid (HAT.out.grown G5)
      have R5 : Hid (World.ownsRow V5 b0 28 7 (.slice s1 ss.length k1) ss.length (smpRw (lvA ss wd 0))) := HRW.out.kept G5 (by cases (Value.slice s1 ss.length k1).ownBlock <;> simp)
      have RB : Hid (∀ r, (Value.slice s1 ss.length k1).ownBlock = some r → w.heap.size + 2 ≤ r ∧ r ≠ w4.heap.size ∧ r < V5.heap.size) := fun r hr => by
        have q := HRW.out.lt r hr; have := HSZ.out; have := lt_of_block BF0.out
        exact ⟨by omega, by omega, by omega⟩
      clear hV G5 HRW HAT M2
      generalize w4.heap.size = fb at *
      obtain ⟨row, hrw⟩ : ∃ r, (Value.slice s1 ss.length k1).ownBlock = r := ⟨_, rfl⟩
      rw [hrw] at RB
      have HRB := Lib.hid hrw
      clear hrw
      have G00 : Hid (V5.grownBy V5 row) := World.grownBy.refl _ _
      have NF : Hid (some fb ≠ row) := fun e => (RB.out fb e.symm).2.1 rfl
      have KM : Hid (∀ V, V5.grownBy V row → ClB w #[.string nm, .int .i64 sp, .int .i64 st, .slice so ss.length sc, .slice lo ls.length lc, .slice to_ ts.length tc] #[.string ⟨#[]⟩, .int .i64 0, .int .i64 0, .slice none 0 0, .slice none 0 0, .slice none 0 0] V) := fun V h => clb_row2 M5.out h (fun r hr => (RB.out r hr).1)
      have KS : Hid (∀ V, V5.grownBy V row → SmpsAt V so ss) := fun V h => HA.out.hs.grown (KM.out V h).g
      have D2 := Lib.hid d2
      have HSC := Lib.hid hsc
      clear hl2 hl3 d2 hsc
      have u3 := block_cell M5.out.a 3 _ rfl
      go_wp2_with fail
      clear u3
      go_loopw [26] (fun iv wr => ∃ (k : Nat), iv = .int .i64 (k : Int) ∧ k ≤ ss.length ∧ Hid (World.ownsRow wr b0 28 7 (.slice s1 ss.length k1) ss.length (smpRw (lvA ss wd k))) ∧ Hid (wr.heap[fb]? = some (.cells #[.string nm, .int .i64 sp, .int .i64 st, .slice s1 ss.length k1, .slice l1 ls.length j1, .slice t1 ts.length i1] 26 (0, 0))) ∧ Hid (V5.grownBy wr row)) (fun iv _ => ss.length - (intOf iv).toNat)
      case atStart => exact ⟨0, rfl, Nat.zero_le _, R5, BF0, G00⟩
      case round =>
        obtain ⟨k, rfl, hk, R, BF, G0⟩ := hrel
        by_cases hlt : k < ss.length
        · obtain ⟨b, off, rfl⟩ := lv_so HA.out.hs (fun e => by have e2 : ss = [] := e; rw [e2] at hlt; simp at hlt)
          obtain ⟨hw0, hw1, hw2, hw3, hw4⟩ := win_len (A := ss) (wd := wd) hlt
          obtain ⟨f, hf⟩ : ∃ f, frW wd k = f := ⟨_, rfl⟩
          obtain ⟨t, ht⟩ : ∃ t, toW ss.length wd k = t := ⟨_, rfl⟩
          rw [hf, ht] at hw0
          rw [hf] at hw1
          rw [ht] at hw2 hw3
          rw [hf, ht] at hw4
          have hd2 := D2.out
          have hsc := HSC.out
          try simp only at hsc
          have mx : max ((k : Int) - (wd : Int)) 0 = (f : Int) := by unfold frW at hf; omega
          have mn : min ((k : Int) + (wd : Int) + 1) (ss.length : Int) = (t : Int) := by unfold toW at ht; omega
          have q1 : IntKind.i64.wrap ((k : Int) - (wd : Int)) = (k : Int) - (wd : Int) := IntWalk.i64_in _ (by omega)
          have q2 : IntKind.i64.wrap ((k : Int) + (wd : Int)) = (k : Int) + (wd : Int) := IntWalk.i64_in _ (by omega)
          have q3 : IntKind.i64.wrap ((k : Int) + (wd : Int) + 1) = (k : Int) + (wd : Int) + 1 := IntWalk.i64_in _ (by omega)
          have rk : IntKind.i64.wrap ((k : Int) + 1) = ((k + 1 : Nat) : Int) := by rw [show (k : Int) + 1 = ((k + 1 : Nat) : Int) by omega]; exact IntWalk.i64_in _ (by omega)
          obtain ⟨g, kk, hv, _, _⟩ := R.out.form (by omega)
          injection hv with e1 _ e3
          subst e3
          have R2 := R.out
          rw [e1] at R2
          have hgr : Hid (some g = row) := by show _ = _; rw [← HRB.out, e1]; rfl
          obtain ⟨v, hvv⟩ : ∃ v, midV (zsOf (winL ss wd k)) = v := ⟨_, rfl⟩
          have HV := Lib.hid hvv
          have hl : Hid ((lvA ss wd k).length = ss.length) := lv_len ss wd k
          have HN : Hid (∀ V : World, wr.grownBy V none → Hid (World.ownsRow (V.setCell ⟨g, k * 7 + 3, none⟩ (.int .i64 v)) b0 28 7 (.slice s1 ss.length k1) ss.length (smpRw (lvA ss wd (k + 1))))) := fun V hV => by
            have q := own_fieldN4 (R2.kept hV (by cases (Value.slice (some ⟨g, 0, none⟩) ss.length k1).ownBlock <;> simp)) hl.out (k := k) (c := 3) hlt ⟨by omega, by omega⟩ v
            show World.ownsRow _ _ _ _ _ _ _
            rw [lvA, HV.out, e1]; exact q
          have KMid : Hid (∀ V : World, SmpsAt V (some ⟨b, off, none⟩) ss → Calls Try.prog 88 #[.slice (some ⟨b, off + f * 7, none⟩) (t - f) (sc - f)] V fun e w' => e = .returned (.int .i64 v) ∧ V.grownBy w' none) := fun V hV => by
            have q := middle_is b (off + f * 7) (sc - f) (winL ss wd k) (by rw [hw0]; omega) (by rw [hw0]; omega) V (by unfold winL; rw [hf, ht]; exact smps_win hV f (t - f))
            rw [hw0, HV.out] at q
            exact q
          obtain ⟨cur, hcur⟩ := own_head R2
          have HC := Lib.hid hcur
          have E1 := Lib.hid e1
          have HLT := Lib.hid hlt
          have ck3 : ∃ z, wr.cell? ⟨g, k * 7 + 3, none⟩ = some z := ⟨_, (fil4_cells R2 hl.out hlt rfl).2.2.2.1⟩
          obtain ⟨z3, hz3⟩ := ck3
          have b1 : (0 : Int) ≤ (k : Int) := by omega
          have b2 : (k : Int) < (ss.length : Int) := by omega
          have b3 : (0 : Int) ≤ (f : Int) := by omega
          have b4 : (f : Int) ≤ (t : Int) := by omega
          have b5 : (t : Int) ≤ (sc : Int) := by omega
          have b6 : f ≤ t := by omega
          have b7 : t ≤ sc := by omega
          have b8 : ¬ sc = f := by omega
          have u3 := block_cell (KM.out _ G0.out).a 3 _ rfl
          clear hw0 hw1 hw2 hw3 hw4 hf ht hvv e1 R2 hcur hsc hd2 hk hlt
          go_upto_region 10 with (fail)
          have gd : wr.grownBy wr.drew none := grown_drewN wr none 1
          have ku := grown_cell gd u3
          have GD := Lib.hid gd
          clear gd
          refine region_late (lateK (fun V => V.cell? ⟨w.heap.size, 3, none⟩ = some (.slice (some ⟨b, off, none⟩) ss.length sc)) []) (by kernel_rfl) ku (fun hC0 hS0 => ?_)
          generalize wr.drew = V1 at *
          refine wpAnyS_take (i := 0) (oi := ?oi1) (v := .int .i64 (k : Int)) ?hi1 (by kernel_rfl) (by kernel_rfl) (by kernel_rfl) (lateK_iff (by rfl)) ?hq1 ?hy1 hC0 hS0 ?rest1
          case hi1 => simp only [List.getElem?_toArray, List.getElem?_cons_zero, Option.some.injEq]; rfl
          case hq1 => exact fun _ _ _ h => h
          case hy1 =>
            refine Or.inl ⟨by kernel_rfl, fun V hV => ?_⟩
            clear hV
            go_simp
          intro hC1 hS1
          clear hC0 hS0
          try simp only [Go.Act.put, List.setIfInBounds_toArray, List.set_cons_zero, List.set_cons_succ]
          refine wpAnyS_take (i := 1) (oi := ?oi2) (v := .int .i64 (wd : Int)) ?hi2 (by kernel_rfl) (by kernel_rfl) (by kernel_rfl) (lateK_iff (by rfl)) ?hq2 ?hy2 hC1 hS1 ?rest2
          case hi2 => simp only [List.getElem?_toArray, List.getElem?_cons_succ, List.getElem?_cons_zero, Option.some.injEq]; rfl
          case hq2 => exact fun _ _ _ h => h
          case hy2 =>
            refine Or.inl ⟨by kernel_rfl, fun V hV => ?_⟩
            clear hV
            go_simp
          intro hC2 hS2
          clear hC1 hS1
          try simp only [Go.Act.put, List.setIfInBounds_toArray, List.set_cons_zero, List.set_cons_succ]
          refine wpAnyS_take (i := 2) (oi := ?oi3) (v := .int .i64 ((k : Int) - (wd : Int))) ?hi3 (by kernel_rfl) (by kernel_rfl) (by kernel_rfl) (lateK_iff (by rfl)) ?hq3 ?hy3 hC2 hS2 ?rest3
          case hi3 => simp only [List.getElem?_toArray, List.getElem?_cons_succ, List.getElem?_cons_zero, Option.some.injEq]; rfl
          case hq3 => exact fun _ _ _ h => h
          case hy3 =>
            refine Or.inl ⟨by kernel_rfl, fun V hV => ?_⟩
            clear hV
            go_simp
          intro hC3 hS3
          clear hC2 hS2
          try simp only [Go.Act.put, List.setIfInBounds_toArray, List.set_cons_zero, List.set_cons_succ]
          refine wpAnyS_take (i := 3) (oi := ?oi4) (v := .int .i64 (f : Int)) ?hi4 (by kernel_rfl) (by kernel_rfl) (by kernel_rfl) (lateK_iff (by rfl)) ?hq4 ?hy4 hC3 hS3 ?rest4
          case hi4 => simp only [List.getElem?_toArray, List.getElem?_cons_succ, List.getElem?_cons_zero, Option.some.injEq]; rfl
          case hq4 => exact fun _ _ _ h => h
          case hy4 =>
            refine Or.inl ⟨by kernel_rfl, fun V hV => ?_⟩
            clear hV
            go_simp
          intro hC4 hS4
          clear hC3 hS3
          try simp only [Go.Act.put, List.setIfInBounds_toArray, List.set_cons_zero, List.set_cons_succ]
          refine wpAnyS_take (i := 4) (oi := ?oi5) (v := .int .i64 (k : Int)) ?hi5 (by kernel_rfl) (by kernel_rfl) (by kernel_rfl) (lateK_iff (by rfl)) ?hq5 ?hy5 hC4 hS4 ?rest5
          case hi5 => simp only [List.getElem?_toArray, List.getElem?_cons_succ, List.getElem?_cons_zero, Option.some.injEq]; rfl
          case hq5 => exact fun _ _ _ h => h
          case hy5 =>
            refine Or.inl ⟨by kernel_rfl, fun V hV => ?_⟩
            clear hV
            go_simp
          intro hC5 hS5
          clear hC4 hS4
          try simp only [Go.Act.put, List.setIfInBounds_toArray, List.set_cons_zero, List.set_cons_succ]
          refine wpAnyS_take (i := 5) (oi := ?oi6) (v := .int .i64 (wd : Int)) ?hi6 (by kernel_rfl) (by kernel_rfl) (by kernel_rfl) (lateK_iff (by rfl)) ?hq6 ?hy6 hC5 hS5 ?rest6
          case hi6 => simp only [List.getElem?_toArray, List.getElem?_cons_succ, List.getElem?_cons_zero, Option.some.injEq]; rfl
          case hq6 => exact fun _ _ _ h => h
          case hy6 =>
            refine Or.inl ⟨by kernel_rfl, fun V hV => ?_⟩
            clear hV
            go_simp
          intro hC6 hS6
          clear hC5 hS5
          try simp only [Go.Act.put, List.setIfInBounds_toArray, List.set_cons_zero, List.set_cons_succ]
          refine wpAnyS_take (i := 6) (oi := ?oi7) (v := .int .i64 ((k : Int) + (wd : Int))) ?hi7 (by kernel_rfl) (by kernel_rfl) (by kernel_rfl) (lateK_iff (by rfl)) ?hq7 ?hy7 hC6 hS6 ?rest7
          case hi7 => simp only [List.getElem?_toArray, List.getElem?_cons_succ, List.getElem?_cons_zero, Option.some.injEq]; rfl
          case hq7 => exact fun _ _ _ h => h
          case hy7 =>
            refine Or.inl ⟨by kernel_rfl, fun V hV => ?_⟩
            clear hV
            go_simp
          intro hC7 hS7
          clear hC6 hS6
          try simp only [Go.Act.put, List.setIfInBounds_toArray, List.set_cons_zero, List.set_cons_succ]
          refine wpAnyS_take (i := 7) (oi := ?oi8) (v := .int .i64 ((k : Int) + (wd : Int) + 1)) ?hi8 (by kernel_rfl) (by kernel_rfl) (by kernel_rfl) (lateK_iff (by rfl)) ?hq8 ?hy8 hC7 hS7 ?rest8
          case hi8 => simp only [List.getElem?_toArray, List.getElem?_cons_succ, List.getElem?_cons_zero, Option.some.injEq]; rfl
          case hq8 => exact fun _ _ _ h => h
          case hy8 =>
            refine Or.inl ⟨by kernel_rfl, fun V hV => ?_⟩
            clear hV
            go_simp
          intro hC8 hS8
          clear hC7 hS7
          try simp only [Go.Act.put, List.setIfInBounds_toArray, List.set_cons_zero, List.set_cons_succ]
          refine wpAnyS_take (i := 8) (oi := ?oi9) (v := .pointer (some ⟨w.heap.size, 3, none⟩)) ?hi9 (by kernel_rfl) (by kernel_rfl) (by kernel_rfl) (lateK_iff (by rfl)) ?hq9 ?hy9 hC8 hS8 ?rest9
          case hi9 => simp only [List.getElem?_toArray, List.getElem?_cons_succ, List.getElem?_cons_zero, Option.some.injEq]; rfl
          case hq9 => exact fun _ _ _ h => h
          case hy9 =>
            refine Or.inl ⟨by kernel_rfl, fun V hV => ?_⟩
            clear hV
            go_simp
          intro hC9 hS9
          clear hC8 hS8
          try simp only [Go.Act.put, List.setIfInBounds_toArray, List.set_cons_zero, List.set_cons_succ]
          refine wpAnyS_take (i := 9) (oi := ?oi10) (v := .slice (some ⟨b, off, none⟩) ss.length sc) ?hi10 (by kernel_rfl) (by kernel_rfl) (by kernel_rfl) (lateK_iff (by rfl)) ?hq10 ?hy10 hC9 hS9 ?rest10
          case hi10 => simp only [List.getElem?_toArray, List.getElem?_cons_succ, List.getElem?_cons_zero, Option.some.injEq]; rfl
          case hq10 => exact fun _ _ _ h => h
          case hy10 =>
            refine Or.inl ⟨by kernel_rfl, fun V hV => ?_⟩
            have z := lateK_g hV; clear hV
            go_simp
          intro hC10 hS10
          clear hC9 hS9
          try simp only [Go.Act.put, List.setIfInBounds_toArray, List.set_cons_zero, List.set_cons_succ]
          refine wpAnyS_take (i := 10) (oi := ?oi11) (v := .int .i64 (ss.length : Int)) ?hi11 (by kernel_rfl) (by kernel_rfl) (by kernel_rfl) (lateK_iff (by rfl)) ?hq11 ?hy11 hC10 hS10 ?rest11
          case hi11 => simp only [List.getElem?_toArray, List.getElem?_cons_succ, List.getElem?_cons_zero, Option.some.injEq]; rfl
          case hq11 => exact fun _ _ _ h => h
          case hy11 =>
            refine Or.inl ⟨by kernel_rfl, fun V hV => ?_⟩
            clear hV
            go_simp
          intro hC11 hS11
          clear hC10 hS10
          try simp only [Go.Act.put, List.setIfInBounds_toArray, List.set_cons_zero, List.set_cons_succ]
          refine wpAnyS_take (i := 11) (oi := ?oi12) (v := .int .i64 (t : Int)) ?hi12 (by kernel_rfl) (by kernel_rfl) (by kernel_rfl) (lateK_iff (by rfl)) ?hq12 ?hy12 hC11 hS11 ?rest12
          case hi12 => simp only [List.getElem?_toArray, List.getElem?_cons_succ, List.getElem?_cons_zero, Option.some.injEq]; rfl
          case hq12 => exact fun _ _ _ h => h
          case hy12 =>
            refine Or.inl ⟨by kernel_rfl, fun V hV => ?_⟩
            clear hV
            go_simp
          intro hC12 hS12
          clear hC11 hS11
          try simp only [Go.Act.put, List.setIfInBounds_toArray, List.set_cons_zero, List.set_cons_succ]
          refine wpAnyS_take (i := 12) (oi := ?oi13) (v := .int .i64 (f : Int)) ?hi13 (by kernel_rfl) (by kernel_rfl) (by kernel_rfl) (lateK_iff (by rfl)) ?hq13 ?hy13 hC12 hS12 ?rest13
          case hi13 => simp only [List.getElem?_toArray, List.getElem?_cons_succ, List.getElem?_cons_zero, Option.some.injEq]; rfl
          case hq13 => exact fun _ _ _ h => h
          case hy13 =>
            refine Or.inl ⟨by kernel_rfl, fun V hV => ?_⟩
            clear hV
            go_simp
          intro hC13 hS13
          clear hC12 hS12
          try simp only [Go.Act.put, List.setIfInBounds_toArray, List.set_cons_zero, List.set_cons_succ]
          refine wpAnyS_take (i := 13) (oi := ?oi14) (v := .int .i64 (t : Int)) ?hi14 (by kernel_rfl) (by kernel_rfl) (by kernel_rfl) (lateK_iff (by rfl)) ?hq14 ?hy14 hC13 hS13 ?rest14
          case hi14 => simp only [List.getElem?_toArray, List.getElem?_cons_succ, List.getElem?_cons_zero, Option.some.injEq]; rfl
          case hq14 => exact fun _ _ _ h => h
          case hy14 =>
            refine Or.inl ⟨by kernel_rfl, fun V hV => ?_⟩
            clear hV
            go_simp
          intro hC14 hS14
          clear hC13 hS13
          try simp only [Go.Act.put, List.setIfInBounds_toArray, List.set_cons_zero, List.set_cons_succ]
          refine wpAnyS_done (by kernel_rfl) ?_ _
          clear hC14 hS14
          clear q1 q2 q3 mx mn ku u3
          have G1 : Hid (V5.grownBy V1 row) := grown_trans G0.out (lv_grow row GD.out)
          have u3 := block_cell (KM.out _ G1.out).a 3 _ rfl
          have f3 := block_cell (block_at (row := none) BF.out GD.out (by simp)) 3 _ rfl
          rw [E1.out] at f3
          go_upto_region 11 with (fail)
          have gd : V1.grownBy V1.drew none := grown_drewN V1 none 1
          have ku := grown_cell gd u3
          have kf := grown_cell gd f3
          have GE : Hid (wr.grownBy V1.drew none) := grown_trans GD.out gd
          clear gd u3 f3
          refine region_late (lateK (fun V => V.cell? ⟨w.heap.size, 3, none⟩ = some (.slice (some ⟨b, off, none⟩) ss.length sc) ∧ V.cell? ⟨fb, 3, none⟩ = some (.slice (some ⟨g, 0, none⟩) ss.length k1)) []) (by kernel_rfl) ⟨ku, kf⟩ (fun hCy0 hSy0 => ?_)
          generalize V1.drew = V2 at *
          refine wpAnyS_take (i := 0) (oi := ?oiy1) (v := .pointer (some ⟨fb, 3, none⟩)) ?hiy1 (by kernel_rfl) (by kernel_rfl) (by kernel_rfl) (lateK_iff (by rfl)) ?hqy1 ?hyy1 hCy0 hSy0 ?resty1
          case hiy1 => simp only [List.getElem?_toArray, List.getElem?_cons_zero, Option.some.injEq]; rfl
          case hqy1 => exact fun _ _ _ h => h
          case hyy1 =>
            refine Or.inl ⟨by kernel_rfl, fun V hV => ?_⟩
            clear hV
            go_simp
          intro hCy1 hSy1
          clear hCy0 hSy0
          try simp only [Go.Act.put, List.setIfInBounds_toArray, List.set_cons_zero, List.set_cons_succ]
          refine wpAnyS_take (i := 1) (oi := ?oiy2) (v := .slice (some ⟨g, 0, none⟩) ss.length k1) ?hiy2 (by kernel_rfl) (by kernel_rfl) (by kernel_rfl) (lateK_iff (by rfl)) ?hqy2 ?hyy2 hCy1 hSy1 ?resty2
          case hiy2 => simp only [List.getElem?_toArray, List.getElem?_cons_succ, List.getElem?_cons_zero, Option.some.injEq]; rfl
          case hqy2 => exact fun _ _ _ h => h
          case hyy2 =>
            refine Or.inl ⟨by kernel_rfl, fun V hV => ?_⟩
            have zz := (lateK_g hV).2; clear hV
            go_simp
          intro hCy2 hSy2
          clear hCy1 hSy1
          try simp only [Go.Act.put, List.setIfInBounds_toArray, List.set_cons_zero, List.set_cons_succ]
          refine wpAnyS_take (i := 2) (oi := ?oiy3) (v := .int .i64 (k : Int)) ?hiy3 (by kernel_rfl) (by kernel_rfl) (by kernel_rfl) (lateK_iff (by rfl)) ?hqy3 ?hyy3 hCy2 hSy2 ?resty3
          case hiy3 => simp only [List.getElem?_toArray, List.getElem?_cons_succ, List.getElem?_cons_zero, Option.some.injEq]; rfl
          case hqy3 => exact fun _ _ _ h => h
          case hyy3 =>
            refine Or.inl ⟨by kernel_rfl, fun V hV => ?_⟩
            clear hV
            go_simp
          intro hCy3 hSy3
          clear hCy2 hSy2
          try simp only [Go.Act.put, List.setIfInBounds_toArray, List.set_cons_zero, List.set_cons_succ]
          refine wpAnyS_take (i := 3) (oi := ?oiy4) (v := .pointer (some ⟨w.heap.size, 3, none⟩)) ?hiy4 (by kernel_rfl) (by kernel_rfl) (by kernel_rfl) (lateK_iff (by rfl)) ?hqy4 ?hyy4 hCy3 hSy3 ?resty4
          case hiy4 => simp only [List.getElem?_toArray, List.getElem?_cons_succ, List.getElem?_cons_zero, Option.some.injEq]; rfl
          case hqy4 => exact fun _ _ _ h => h
          case hyy4 =>
            refine Or.inl ⟨by kernel_rfl, fun V hV => ?_⟩
            clear hV
            go_simp
          intro hCy4 hSy4
          clear hCy3 hSy3
          try simp only [Go.Act.put, List.setIfInBounds_toArray, List.set_cons_zero, List.set_cons_succ]
          refine wpAnyS_take (i := 4) (oi := ?oiy5) (v := .slice (some ⟨b, off, none⟩) ss.length sc) ?hiy5 (by kernel_rfl) (by kernel_rfl) (by kernel_rfl) (lateK_iff (by rfl)) ?hqy5 ?hyy5 hCy4 hSy4 ?resty5
          case hiy5 => simp only [List.getElem?_toArray, List.getElem?_cons_succ, List.getElem?_cons_zero, Option.some.injEq]; rfl
          case hqy5 => exact fun _ _ _ h => h
          case hyy5 =>
            refine Or.inl ⟨by kernel_rfl, fun V hV => ?_⟩
            have zz := (lateK_g hV).1; clear hV
            go_simp
          intro hCy5 hSy5
          clear hCy4 hSy4
          try simp only [Go.Act.put, List.setIfInBounds_toArray, List.set_cons_zero, List.set_cons_succ]
          refine wpAnyS_take (i := 5) (oi := ?oiy6) (v := .int .i64 (f : Int)) ?hiy6 (by kernel_rfl) (by kernel_rfl) (by kernel_rfl) (lateK_iff (by rfl)) ?hqy6 ?hyy6 hCy5 hSy5 ?resty6
          case hiy6 => simp only [List.getElem?_toArray, List.getElem?_cons_succ, List.getElem?_cons_zero, Option.some.injEq]; rfl
          case hqy6 => exact fun _ _ _ h => h
          case hyy6 =>
            refine Or.inl ⟨by kernel_rfl, fun V hV => ?_⟩
            clear hV
            go_simp
          intro hCy6 hSy6
          clear hCy5 hSy5
          try simp only [Go.Act.put, List.setIfInBounds_toArray, List.set_cons_zero, List.set_cons_succ]
          refine wpAnyS_take (i := 6) (oi := ?oiy7) (v := .int .i64 (t : Int)) ?hiy7 (by kernel_rfl) (by kernel_rfl) (by kernel_rfl) (lateK_iff (by rfl)) ?hqy7 ?hyy7 hCy6 hSy6 ?resty7
          case hiy7 => simp only [List.getElem?_toArray, List.getElem?_cons_succ, List.getElem?_cons_zero, Option.some.injEq]; rfl
          case hqy7 => exact fun _ _ _ h => h
          case hyy7 =>
            refine Or.inl ⟨by kernel_rfl, fun V hV => ?_⟩
            clear hV
            go_simp
          intro hCy7 hSy7
          clear hCy6 hSy6
          try simp only [Go.Act.put, List.setIfInBounds_toArray, List.set_cons_zero, List.set_cons_succ]
          refine wpAnyS_take (i := 7) (oi := ?oiy8) (v := .slice (some ⟨b, off + f * 7, none⟩) (t - f) (sc - f)) ?hiy8 (by kernel_rfl) (by kernel_rfl) (by kernel_rfl) (lateK_iff (by rfl)) ?hqy8 ?hyy8 hCy7 hSy7 ?resty8
          case hiy8 => simp only [List.getElem?_toArray, List.getElem?_cons_succ, List.getElem?_cons_zero, Option.some.injEq]; rfl
          case hqy8 => exact fun _ _ _ h => h
          case hyy8 =>
            refine Or.inl ⟨by kernel_rfl, fun V hV => ?_⟩
            clear hV
            go_simp
          intro hCy8 hSy8
          clear hCy7 hSy7
          try simp only [Go.Act.put, List.setIfInBounds_toArray, List.set_cons_zero, List.set_cons_succ]
          refine wpAnyS_ready (rs := [8]) (by kernel_rfl) (by simp) ?_
          refine AllReadyS.cons rfl hCy8 (fun K hK => ?_) AllReadyS.nil
          go_simp
          refine (KMid.out _ (KS.out _ (grown_trans G0.out (lv_grow row GE.out)))).mono ?_
          rintro e w7 ⟨rfl, hg⟩
          replace ku := grown_cell hg ku; replace kf := grown_cell hg kf; replace GE := Lib.hid (grown_trans GE.out hg); clear hg
          refine hK.out _ _ ⟨ku, kf⟩ (fun hCy9 hSy9 => ?_)
          clear hK hCy8 hSy8 K
          try simp only [Go.Act.put, List.setIfInBounds_toArray, List.set_cons_zero, List.set_cons_succ]
          refine wpAnyS_take (i := 9) (oi := ?oiy10) (v := .pointer (some ⟨g, k * 7, none⟩)) ?hiy10 (by kernel_rfl) (by kernel_rfl) (by kernel_rfl) (lateK_iff (by rfl)) ?hqy10 ?hyy10 hCy9 hSy9 ?resty10
          case hiy10 => simp only [List.getElem?_toArray, List.getElem?_cons_succ, List.getElem?_cons_zero, Option.some.injEq]; rfl
          case hqy10 => exact fun _ _ _ h => h
          case hyy10 =>
            refine Or.inl ⟨by kernel_rfl, fun V hV => ?_⟩
            clear hV
            go_simp
          intro hCy10 hSy10
          clear hCy9 hSy9
          try simp only [Go.Act.put, List.setIfInBounds_toArray, List.set_cons_zero, List.set_cons_succ]
          refine wpAnyS_take (i := 10) (oi := ?oiy11) (v := .pointer (some ⟨g, k * 7 + 3, none⟩)) ?hiy11 (by kernel_rfl) (by kernel_rfl) (by kernel_rfl) (lateK_iff (by rfl)) ?hqy11 ?hyy11 hCy10 hSy10 ?resty11
          case hiy11 => simp only [List.getElem?_toArray, List.getElem?_cons_succ, List.getElem?_cons_zero, Option.some.injEq]; rfl
          case hqy11 => exact fun _ _ _ h => h
          case hyy11 =>
            refine Or.inl ⟨by kernel_rfl, fun V hV => ?_⟩
            clear hV
            go_simp
          intro hCy11 hSy11
          clear hCy10 hSy10
          try simp only [Go.Act.put, List.setIfInBounds_toArray, List.set_cons_zero, List.set_cons_succ]
          refine wpAnyS_ready (rs := [11]) (by kernel_rfl) (by simp) ?_
          refine AllReadyS.cons rfl hCy11 (fun K hK => ?_) AllReadyS.nil
          have ff : w7.frozen? ⟨g, k * 7 + 3, none⟩ = false := block_free (block_at HC.out GE.out (by simp))
          have kz := grown_cell GE.out hz3
          go_simp
          have HO := Lib.hid (HN.out _ GE.out).out
          have GF : Hid (V5.grownBy (w7.setCell ⟨g, k * 7 + 3, none⟩ (.int .i64 v)) row) := lv_set (grown_trans G0.out (lv_grow row GE.out)) hgr.out _ _
          have nf : fb ≠ g := fun e => NF.out (by rw [← hgr.out, e])
          have nw : w.heap.size ≠ g := fun e => by have := (RB.out g hgr.out.symm).1; omega
          have BF2 : Hid ((w7.setCell ⟨g, k * 7 + 3, none⟩ (.int .i64 v)).heap[fb]? = some (.cells #[.string nm, .int .i64 sp, .int .i64 st, .slice s1 ss.length k1, .slice l1 ls.length j1, .slice t1 ts.length i1] 26 (0, 0))) := blk_far4 (block_at (row := none) BF.out GE.out (by simp)) nf _ _
          have ku2 : (w7.setCell ⟨g, k * 7 + 3, none⟩ (.int .i64 v)).cell? ⟨w.heap.size, 3, none⟩ = some (.slice (some ⟨b, off, none⟩) ss.length sc) := by rw [World.cell?_setCell_other _ _ _ _ (fun e => by injection e with e; exact nw e.symm)]; exact ku
          have kf2 : (w7.setCell ⟨g, k * 7 + 3, none⟩ (.int .i64 v)).cell? ⟨fb, 3, none⟩ = some (.slice (some ⟨g, 0, none⟩) ss.length k1) := by rw [World.cell?_setCell_other _ _ _ _ (fun e => by injection e with e; exact nf e.symm)]; exact kf
          clear ku kf kz ff nf nw
          refine hK.out _ _ ⟨ku2, kf2⟩ (fun hCy12 hSy12 => ?_)
          clear hK hCy11 hSy11 K
          try simp only [Go.Act.put, List.setIfInBounds_toArray, List.set_cons_zero, List.set_cons_succ]
          refine wpAnyS_done (by kernel_rfl) ?_ _
          clear hCy12 hSy12
          clear ku2 kf2
          generalize w7.setCell ⟨g, k * 7 + 3, none⟩ (.int .i64 v) = V12 at *
          go_wp2_with fail
          go_roundw
          case rel => exact ⟨k + 1, by go_num, HLT.out, HO, BF2, GF⟩
          case measure => have := HLT.out; simp [intOf]; omega
        · obtain rfl : k = ss.length := by omega
          have M8 := Lib.hid (KM.out _ G0.out)
          have HL := Lib.hid (H5.out.hl.rowed G0.out (fun p hp e => by
            obtain ⟨q, hq⟩ : ∃ q, s1 = some q := by
              rw [← HRB.out] at e
              cases s1 with
              | none => cases e
              | some q => exact ⟨q, rfl⟩
            have e2 := HRB.out
            rw [hq] at e2
            rw [← e2] at e
            injection e with e
            exact SP1.out q p hq hp e.symm))
          have HT := Lib.hid (H5.out.ht.rowed G0.out (fun p hp e => by
            obtain ⟨q, hq⟩ : ∃ q, s1 = some q := by
              rw [← HRB.out] at e
              cases s1 with
              | none => cases e
              | some q => exact ⟨q, rfl⟩
            have e2 := HRB.out
            rw [hq] at e2
            rw [← e2] at e
            injection e with e
            exact SP2.out q p hq hp e.symm))
          have hfl : (lvA ss wd ss.length).length = ss.length := lv_len ss wd ss.length
          have hs8 : SmpsAt wr s1 (lvA ss wd ss.length) := by
            have q : World.ownsRow wr b0 28 7 (.slice s1 (lvA ss wd ss.length).length k1) (lvA ss wd ss.length).length (smpRw (lvA ss wd ss.length)) := by rw [hfl]; exact R.out
            obtain ⟨ao, cp, hv, hs, _⟩ := own_smps q
            injection hv with e1 _ _
            rw [e1]; exact hs
          have HQ : Hid (ActAt wr ⟨nm, sp, st, s1, k1, (lvA ss wd ss.length), l1, j1, ls, t1, i1, ts⟩) := ⟨H5.out.ns, by show ((lvA ss wd ss.length).length : Int) ≤ _; rw [hfl]; exact H5.out.sl, H5.out.ll, H5.out.tl, hs8, HL.out, HT.out⟩
          have HQF : Hid (ActFar ⟨nm, sp, st, s1, k1, (lvA ss wd ss.length), l1, j1, ls, t1, i1, ts⟩ (w.heap.size + 2)) := ⟨fun p e => HFZ.out p (.inl e), fun p e => HFZ.out p (.inr (.inl e)), fun p e => HFZ.out p (.inr (.inr e))⟩
          have HFL := Lib.hid hfl
          clear hfl hs8 HL HT H5 R G0 M5 KM KS
          have x0 := block_cell BF.out 0 _ rfl
          have x1 := block_cell BF.out 1 _ rfl
          have x2 := block_cell BF.out 2 _ rfl
          have x3 := block_cell BF.out 3 _ rfl
          have x4 := block_cell BF.out 4 _ rfl
          have x5 := block_cell BF.out 5 _ rfl
          have z0 := block_cell M8.out.z 0 _ rfl
          have y0 := block_free (k := 0) M8.out.z
          have z1 := block_cell M8.out.z 1 _ rfl
          have y1 := block_free (k := 1) M8.out.z
          have z2 := block_cell M8.out.z 2 _ rfl
          have y2 := block_free (k := 2) M8.out.z
          have z3 := block_cell M8.out.z 3 _ rfl
          have y3 := block_free (k := 3) M8.out.z
          have z4 := block_cell M8.out.z 4 _ rfl
          have y4 := block_free (k := 4) M8.out.z
          have z5 := block_cell M8.out.z 5 _ rfl
          have y5 := block_free (k := 5) M8.out.z
          go_wp2_with fail
          refine bodyPost_ret (v := .tuple #[.agg #[.string nm, .int .i64 sp, .int .i64 st, .slice s1 ss.length k1, .slice l1 ls.length j1, .slice t1 ts.length i1], .int .i64 0]) (by simp [results, Try.results34, go_sem, z0, z1, z2, z3, z4, z5]) rfl ⟨⟨_, rfl, s1, k1, l1, j1, t1, i1, ?_, ?_, HQF.out.mono (by omega)⟩, ((((((M8.out.setZ 0 _).setZ 1 _).setZ 2 _).setZ 3 _).setZ 4 _).setZ 5 _).g⟩
          · show Value.agg #[.string nm, .int .i64 sp, .int .i64 st, .slice s1 ss.length k1, .slice l1 ls.length j1, .slice t1 ts.length i1] = Value.agg #[.string nm, .int .i64 sp, .int .i64 st, .slice s1 (lvA ss wd ss.length).length k1, .slice l1 ls.length j1, .slice t1 ts.length i1]
            rw [HFL.out]
          · refine HQ.out.far HQF.out (fun p hp => ?_)
            iterate 6 rw [World.cell?_setCell_other _ _ _ _ (fun e => by subst e; simp at hp)]
    · rw [if_neg d2] at hv
      simp only [Prod.mk.injEq] at hv
      obtain ⟨rfl, rfl⟩ := hv
      have D2 : Hid (width < 0 ∨ 50 < width) := by show _ ∨ _; omega
      obtain ⟨nm, sp, st, so, sc, ss, lo, lc, ls, to_, tc, ts⟩ := a
      simp only [Act.val] at *
      clear hE hce ha d2 hsc
      have M0 := Lib.hid (ClB.new w #[.string nm, .int .i64 sp, .int .i64 st, .slice so ss.length sc, .slice lo ls.length lc, .slice to_ ts.length tc] #[.string ⟨#[]⟩, .int .i64 0, .int .i64 0, .slice none 0 0, .slice none 0 0, .slice none 0 0])
      go_enter Try.func34, Try.ntmps34
      go_wp2_with fail
      refine (check_any ⟨nm, sp, st, so, sc, ss, lo, lc, ls, to_, tc, ts⟩ _ (HA.out.grown M0.out.g) HCE).mono ?_; rintro e w1 ⟨rfl, hg1⟩
      have M1 := Lib.hid (M0.out.grown hg1)
      clear hg1
      go_wp2_with fail
      refine (twithin_no _ _ _ D2.out _).mono ?_; rintro e w2 ⟨rfl, rfl⟩
      have z0 := block_cell M1.out.z 0 _ rfl
      have y0 := block_free (k := 0) M1.out.z
      have z1 := block_cell M1.out.z 1 _ rfl
      have y1 := block_free (k := 1) M1.out.z
      have z2 := block_cell M1.out.z 2 _ rfl
      have y2 := block_free (k := 2) M1.out.z
      have z3 := block_cell M1.out.z 3 _ rfl
      have y3 := block_free (k := 3) M1.out.z
      have z4 := block_cell M1.out.z 4 _ rfl
      have y4 := block_free (k := 4) M1.out.z
      have z5 := block_cell M1.out.z 5 _ rfl
      have y5 := block_free (k := 5) M1.out.z
      go_wp2_with fail
      refine bodyPost_ret (v := .tuple #[.agg #[.string ⟨#[]⟩, .int .i64 0, .int .i64 0, .slice none 0 0, .slice none 0 0, .slice none 0 0], .int .i64 9]) (by simp [results, Try.results34, go_sem, z0, z1, z2, z3, z4, z5]) rfl ⟨⟨_, rfl, act0_new _ _⟩, ((((((M1.out.setZ 0 _).setZ 1 _).setZ 2 _).setZ 3 _).setZ 4 _).setZ 5 _).g⟩
  · rw [if_neg d1] at hv
    simp only [Prod.mk.injEq] at hv
    obtain ⟨rfl, rfl⟩ := hv
    have hne : (ce != 0) = true := by simpa using d1
    obtain ⟨nm, sp, st, so, sc, ss, lo, lc, ls, to_, tc, ts⟩ := a
    simp only [Act.val] at *
    clear hE hce ha d1 hsc
    have M0 := Lib.hid (ClB.new w #[.string nm, .int .i64 sp, .int .i64 st, .slice so ss.length sc, .slice lo ls.length lc, .slice to_ ts.length tc] #[.string ⟨#[]⟩, .int .i64 0, .int .i64 0, .slice none 0 0, .slice none 0 0, .slice none 0 0])
    go_enter Try.func34, Try.ntmps34
    go_wp2_with fail
    refine (check_any ⟨nm, sp, st, so, sc, ss, lo, lc, ls, to_, tc, ts⟩ _ (HA.out.grown M0.out.g) HCE).mono ?_; rintro e w1 ⟨rfl, hg1⟩
    have M1 := Lib.hid (M0.out.grown hg1)
    clear hg1
    have z0 := block_cell M1.out.z 0 _ rfl
    have y0 := block_free (k := 0) M1.out.z
    have z1 := block_cell M1.out.z 1 _ rfl
    have y1 := block_free (k := 1) M1.out.z
    have z2 := block_cell M1.out.z 2 _ rfl
    have y2 := block_free (k := 2) M1.out.z
    have z3 := block_cell M1.out.z 3 _ rfl
    have y3 := block_free (k := 3) M1.out.z
    have z4 := block_cell M1.out.z 4 _ rfl
    have y4 := block_free (k := 4) M1.out.z
    have z5 := block_cell M1.out.z 5 _ rfl
    have y5 := block_free (k := 5) M1.out.z
    go_wp2_with fail
    refine bodyPost_ret (v := .tuple #[.agg #[.string ⟨#[]⟩, .int .i64 0, .int .i64 0, .slice none 0 0, .slice none 0 0, .slice none 0 0], .int .i64 ce]) (by simp [results, Try.results34, go_sem, z0, z1, z2, z3, z4, z5]) rfl ⟨⟨_, rfl, act0_new _ _⟩, ((((((M1.out.setZ 0 _).setZ 1 _).setZ 2 _).setZ 3 _).setZ 4 _).setZ 5 _).g⟩
end Go.Proofs.Ytgkhhfojioepgaa
