/- The contract of the reference's Fewest where there is an answer: the walk. -/
import Derived.Test.YtgkhhfojioepgaaTFewest
import Derived.Test.YtgkhhfojioepgaaBaseC
import Derived.Deep.DeepCutAuto
import Derived.Deep.CutBlock
namespace Go.Proofs.Ytgkhhfojioepgaa
open Go.RowKit
set_option linter.unusedSimpArgs false
set_option linter.unusedVariables false

/-- The reference's row of next ones, after d rounds, and inside round d. -/
def fwR (n : Nat) (nr : Nat → Nat → Bool) (d : Nat) (k : Nat) : Int := ((fwV n nr d).2 k : Nat)
def fwRm (n : Nat) (nr : Nat → Nat → Bool) (d m : Nat) : Nat → Int := updI (fwR n nr d) (n - 2 - d) (if m = 0 then -1 else (fwB (fwV n nr d).1 (nr (n - 2 - d)) (n - 2 - d) (m - 1) : Nat))
theorem fwRm_end {n : Nat} {nr : Nat → Nat → Bool} {d : Nat} : fwRm n nr d (d + 1) = fwR n nr (d + 1) := by
  funext k
  show updI _ _ _ k = (((if k = n - 2 - d then fwB (fwV n nr d).1 (nr (n - 2 - d)) (n - 2 - d) d else (fwV n nr d).2 k : Nat)) : Int)
  unfold updI fwR
  split
  · rw [if_neg (by omega)]; rfl
  · rfl
theorem fwRm_at {n : Nat} {nr : Nat → Nat → Bool} {d m i : Nat} (hi : i = n - 2 - d) : fwRm n nr d (m + 1) i = (fwB (fwV n nr d).1 (nr i) i m : Nat) := by
  subst hi; unfold fwRm updI; rw [if_pos rfl, if_neg (by omega)]; rfl
theorem fwRm_zero {n : Nat} {nr : Nat → Nat → Bool} {d i : Nat} (hi : i = n - 2 - d) : fwRm n nr d 0 = updI (fwR n nr d) i (-1) := by
  subst hi; unfold fwRm; rw [if_pos rfl]
theorem fwRm_one {n : Nat} {nr : Nat → Nat → Bool} {d i i1 : Nat} (hi : i = n - 2 - d) (h1 : i1 = i + 1) : fwRm n nr d 1 = updI (fwRm n nr d 0) i (i1 : Int) := by
  subst hi h1; unfold fwRm; rw [updI_twice, if_neg (by omega)]; rfl
theorem fwR_stay {n : Nat} {nr : Nat → Nat → Bool} {d m i : Nat} (hi : i = n - 2 - d) (h : ¬ ((fwV n nr d).1 (i + 2 + m) < (fwV n nr d).1 (fwB (fwV n nr d).1 (nr i) i m) ∧ nr i (i + 2 + m) = true)) : fwRm n nr d (m + 1 + 1) = fwRm n nr d (m + 1) := by
  subst hi
  have e : fwB (fwV n nr d).1 (nr (n - 2 - d)) (n - 2 - d) (m + 1) = fwB (fwV n nr d).1 (nr (n - 2 - d)) (n - 2 - d) m := by rw [fwB, if_neg h]
  unfold fwRm
  rw [if_neg (by omega), if_neg (by omega), show m + 1 + 1 - 1 = m + 1 by omega, show m + 1 - 1 = m by omega, e]
theorem fwR_go {n : Nat} {nr : Nat → Nat → Bool} {d m i j : Nat} (hi : i = n - 2 - d) (hj : j = i + 2 + m) (h : (fwV n nr d).1 j < (fwV n nr d).1 (fwB (fwV n nr d).1 (nr i) i m)) (h2 : nr i j = true) : fwRm n nr d (m + 1 + 1) = updI (fwRm n nr d (m + 1)) i (j : Nat) := by
  subst hi hj
  have e : fwB (fwV n nr d).1 (nr (n - 2 - d)) (n - 2 - d) (m + 1) = n - 2 - d + 2 + m := by rw [fwB, if_pos ⟨h, h2⟩]
  unfold fwRm
  rw [updI_twice, if_neg (by omega), show m + 1 + 1 - 1 = m + 1 by omega, e]
theorem fwR_next {n : Nat} {nr : Nat → Nat → Bool} {la k : Nat} (hla : n = la + 1) (hk : k < la) : fwR n nr la k = (fwN n nr k : Nat) := by
  unfold fwR fwN; rw [if_pos (by omega), show n - 1 = la by omega]
theorem fwN_last {n : Nat} {nr : Nat → Nat → Bool} {la : Nat} (hla : n = la + 1) : fwN n nr la = n := by
  unfold fwN; rw [if_neg (by omega)]

set_option maxRecDepth 100000 in
set_option maxHeartbeats 4000000 in
theorem rFewest_ok (nm : ByteArray) (sp st : Int) (b off sc : Nat) (ss : List Smp) (lo : Option Addr) (lc : Nat) (ls : List LapV) (to_ : Option Addr) (tc : Nat) (ts : List ByteArray) (most : Int) (m0 : 0 ≤ most) (m1 : most ≤ 100000000) (hl : (ss.length : Int) ≤ 300) (hn1 : 1 ≤ ss.length) (w : World)
    (HA : Hid (ActAt w ⟨nm, sp, st, some ⟨b, off, none⟩, sc, ss, lo, lc, ls, to_, tc, ts⟩)) (HCE : Hid (chkE ⟨nm, sp, st, some ⟨b, off, none⟩, sc, ss, lo, lc, ls, to_, tc, ts⟩ = 0)) (HS : Hid (SOk ss)) {nr : Nat → Nat → Bool} (HNR : Hid (nrS ss most = nr)) :
    Calls Try.prog 43 #[.agg #[.string nm, .int .i64 sp, .int .i64 st, .slice (some ⟨b, off, none⟩) ss.length sc, .slice lo ls.length lc, .slice to_ ts.length tc], .int .i64 most] w fun x w' => (∃ v k, x = .returned (.tuple #[v, .int .i64 0]) ∧ PthEnd ss.length (fwN ss.length nr) 0 k ∧ w'.ownsRow w.heap.size 3 1 v k (pthVs (fwN ss.length nr) 0 k)) ∧ w.grownBy w' none := by
  have hll : ss.length ≤ 300 := by omega
  have hmk := run_make_row' (P := Try.prog) 48 3 (.int .i64 0) 8 Try.underlying48 info_int rfl .i64 .i64 ss.length (by omega) (by omega)
  obtain ⟨la, hla⟩ : ∃ la : Nat, ss.length = la + 1 := ⟨ss.length - 1, by omega⟩
  have HLA := Lib.hid hla
  have hla2 : (ss.length : Int) - 2 = (la : Int) - 1 := by omega
  have rlen : IntKind.i64.wrap ((ss.length : Int) - 2) = (la : Int) - 1 := by rw [hla2]; exact IntWalk.i64_in _ (by omega)
  have hla3 : (ss.length : Int) - 1 = (la : Int) := by omega
  have rlen1 : IntKind.i64.wrap ((ss.length : Int) - 1) = (la : Int) := by rw [hla3]; exact IntWalk.i64_in _ (by omega)
  clear hla
  go_enter Try.func43, Try.ntmps43
  go_wp2_with fail
  refine (rcheck_any ⟨nm, sp, st, some ⟨b, off, none⟩, sc, ss, lo, lc, ls, to_, tc, ts⟩ _ (HA.out.grown (World.grownBy_alloc _ _ _)) HCE).mono ?_; rintro e w1 ⟨rfl, hg1⟩
  have G1 : w.grownBy w1 none := grown_trans (World.grownBy_alloc w (.cells #[.string nm, .int .i64 sp, .int .i64 st, .slice (some ⟨b, off, none⟩) ss.length sc, .slice lo ls.length lc, .slice to_ ts.length tc] 26) none) hg1
  have b3 : w1.cell? ⟨w.heap.size, 3, none⟩ = some (.slice (some ⟨b, off, none⟩) ss.length sc) := grown_cell hg1 (by go_simp)
  have hR0 : w.heap.size < w1.heap.size := by have := hg1.size; simp at this; omega
  have HAS := Lib.hid (HA.out.hs)
  clear hg1
  have GW := Lib.hid G1
  have HR0 : Hid (w.heap.size < w1.heap.size) := hR0
  have HB3 := Lib.hid b3
  clear G1 hR0
  go_wp2_with fail
  refine (rout_no _ _ _ m0 m1 _).mono ?_; rintro e w2 ⟨rfl, rfl⟩
  have hcap : decide ((300 : Int) < (ss.length : Int)) = false := by simp; omega
  have HK := Lib.hid (kr_new (w := w) (w1 := w1.drew) (so := some ⟨b, off, none⟩) (sn := ss.length) (sc := sc) (n := ss.length) (F := fwF ss.length nr 0) (G := fwR ss.length nr 0) HB3.out (below_grown (grown_trans GW.out (grown_drewN _ _ 1))) HR0.out (fun k _ => by simp [fwF, fwV]) (fun k _ => by simp [fwR, fwV]))
  go_upto_region 9 with (fail)
  go_cut [8, 9] (fun s8 s9 wx => ∃ R T, s8 = .slice (some ⟨R, 0, none⟩) ss.length ss.length ∧ s9 = .slice (some ⟨T, 0, none⟩) ss.length ss.length ∧ KrM w (some ⟨b, off, none⟩) ss.length sc R T ss.length (fwF ss.length nr 0) (fwR ss.length nr 0) wx ∧ (w.heap.size < R ∧ w.heap.size < T ∧ R ≠ T))
  case first =>
    go_region
    all_goals
      go_wp2_with fail
      go_meet
      have h0 := HR0.out
      first
        | exact ⟨_, _, rfl, rfl, HK.out.1, h0, by omega, by omega⟩
        | exact ⟨_, _, rfl, rfl, HK.out.2, by omega, h0, by omega⟩
  case rest =>
    obtain ⟨R, T, rfl, rfl, hM0, hRT⟩ := hcut
    have HM0 := Lib.hid hM0
    have HR := Lib.hid hRT
    have HL := Lib.hid hll
    clear hM0 hRT b3 hmk HK
    go_wp2_with fail
    go_loopw [10] (fun iv wr => ∃ (d : Nat), d ≤ la ∧ iv = .int .i64 ((la : Int) - 1 - d) ∧ Hid (KrM w (some ⟨b, off, none⟩) ss.length sc R T ss.length (fwF ss.length nr d) (fwR ss.length nr d) wr))
      (fun iv _ => (intOf iv + 1).toNat)
    case atStart => exact ⟨0, Nat.zero_le _, by go_num, HM0.out⟩
    case round =>
      obtain ⟨d, hd, rfl, hM⟩ := hrel
      by_cases hlt : d < la
      · obtain ⟨i, hi⟩ : ∃ i : Nat, i = ss.length - 2 - d := ⟨_, rfl⟩
        have hLa := HLA.out
        have hi2 : (la : Int) - 1 - (d : Int) = (i : Int) := by omega
        have HI := Lib.hid hi
        have HIN : Hid (i + d + 2 = ss.length) := by show _ = _; omega
        rw [hi2]
        have hin : i < ss.length := by omega
        have hin2 : (i : Int) < (ss.length : Int) := by omega
        have hi0 : (0 : Int) ≤ (i : Int) := by omega
        have c1 := hM.out.r2.cell (k := i) hin
        have fr1 := hM.out.r2.free i
        have HM3 : Hid (KrM w (some ⟨b, off, none⟩) ss.length sc R T ss.length (fwF ss.length nr d) (fwRm ss.length nr d 0) (wr.setCell ⟨T, i, none⟩ (.int .i64 (-1)))) := by
          show KrM _ _ _ _ _ _ _ _ _ _
          rw [fwRm_zero hi]; exact hM.out.set2 HR.out i (-1)
        have wi1 : IntKind.i64.wrap ((i : Int) + 1) = (i : Int) + 1 := IntWalk.i64_in _ (by omega)
        have wim : IntKind.i64.wrap ((i : Int) - 1) = (i : Int) - 1 := IntWalk.i64_in _ (by omega)
        clear hM hi hLa
        go_wp2_with fail
        clear c1 fr1
        go_loopw [11] (fun jv w3 => ∃ (m : Nat), m ≤ d + 1 ∧ jv = .int .i64 ((i : Int) + 1 + m) ∧ Hid (KrM w (some ⟨b, off, none⟩) ss.length sc R T ss.length (fwF ss.length nr d) (fwRm ss.length nr d m) w3))
          (fun jv _ => ss.length - (intOf jv).toNat)
        case atStart => exact ⟨0, Nat.zero_le _, by go_num, HM3.out⟩
        case round =>
          obtain ⟨m, hm, rfl, hMi⟩ := hrel
          by_cases hml : m < d + 1
          · obtain ⟨j, hj⟩ : ∃ j : Nat, j = i + 1 + m := ⟨_, rfl⟩
            have hj2 : (i : Int) + 1 + (m : Int) = (j : Int) := by omega
            have HJ := Lib.hid hj
            have hij : i < j := by omega
            have hjn : j < ss.length := by have := HIN.out; omega
            have hjn2 : (j : Int) < (ss.length : Int) := by omega
            have hj0 : (0 : Int) ≤ (j : Int) := by omega
            have HMEA : Hid (∀ q : Int, q = (j : Int) + 1 → ss.length - q.toNat < ss.length - (j : Int).toNat) := fun q hq => by subst hq; omega
            rw [hj2]
            have b3 := hMi.out.b3
            by_cases hm0 : m = 0
            · subst hm0
              have c2 : wr.cell? ⟨T, i, none⟩ = some (.int .i64 (-1)) := by
                have q := hMi.out.r2.cell (k := i) hin
                rw [fwRm_zero HI.out] at q
                unfold updI at q
                rw [if_pos rfl] at q
                exact q
              have HNP : Hid (NearP ss i j (most * most)) := fun k h1 h2 => absurd h2 (by have := HJ.out; omega)
              have HSW : Hid (∀ W : World, (wr.grownBy W none ∧ World.cell? W ⟨w.heap.size, 3, none⟩ = some (.slice (some ⟨b, off, none⟩) ss.length sc) ∧ World.cell? W ⟨T, i, none⟩ = some (.int .i64 (-1))) → SmpsAt W (some ⟨b, off, none⟩) ss) := fun W h => (HAS.out.grown (grown_below hMi.out.g)).grown h.1
              have hS0 : (wr.grownBy wr none ∧ World.cell? wr ⟨w.heap.size, 3, none⟩ = some (.slice (some ⟨b, off, none⟩) ss.length sc) ∧ World.cell? wr ⟨T, i, none⟩ = some (.int .i64 (-1))) := ⟨grown_refl _ _, b3, c2⟩
              have hstep : ∀ W W' : World, (wr.grownBy W none ∧ World.cell? W ⟨w.heap.size, 3, none⟩ = some (.slice (some ⟨b, off, none⟩) ss.length sc) ∧ World.cell? W ⟨T, i, none⟩ = some (.int .i64 (-1))) → W.grownBy W' none → (wr.grownBy W' none ∧ World.cell? W' ⟨w.heap.size, 3, none⟩ = some (.slice (some ⟨b, off, none⟩) ss.length sc) ∧ World.cell? W' ⟨T, i, none⟩ = some (.int .i64 (-1))) := fun W W' h g => ⟨grown_trans h.1 g, grown_cell g h.2.1, grown_cell g h.2.2⟩
              have HSTEP := Lib.hid hstep; have HSD : Hid (wr.grownBy wr.drew none ∧ World.cell? wr.drew ⟨w.heap.size, 3, none⟩ = some (.slice (some ⟨b, off, none⟩) ss.length sc) ∧ World.cell? wr.drew ⟨T, i, none⟩ = some (.int .i64 (-1))) := hstep _ _ hS0 (grown_drewN wr none 1)
              clear hS0 hstep hj
              go_wp2_with fail
              clear b3 c2
              refine wp_region_held_drew (S := fun W => (wr.grownBy W none ∧ World.cell? W ⟨w.heap.size, 3, none⟩ = some (.slice (some ⟨b, off, none⟩) ss.length sc) ∧ World.cell? W ⟨T, i, none⟩ = some (.int .i64 (-1)))) (by kernel_rfl) HSD.out (fun hHeld => ?_)
              refine wpAnyH_take (i := 0) (oi := ?oi0) (v := .slice (some ⟨T, 0, none⟩) ss.length ss.length) ?hi0 (by kernel_rfl) (by kernel_rfl) (by kernel_rfl) ?hq0 ?hy0 hHeld ?rest0
              case hi0 => simp only [List.getElem?_toArray, List.getElem?_cons_succ, List.getElem?_cons_zero, Option.some.injEq]; rfl
              case hq0 => exact fun _ _ _ h => h
              case hy0 =>
                refine Or.inl ⟨by rfl, fun V hV => ?_⟩
                clear hV
                go_simp
              try simp only [Go.Act.put, List.setIfInBounds_toArray, List.set_cons_zero, List.set_cons_succ]
              refine wpAnyH_take (i := 1) (oi := ?oi1) (v := .int .i64 (i : Nat)) ?hi1 (by kernel_rfl) (by kernel_rfl) (by kernel_rfl) ?hq1 ?hy1 hHeld ?rest1
              case hi1 => simp only [List.getElem?_toArray, List.getElem?_cons_succ, List.getElem?_cons_zero, Option.some.injEq]; rfl
              case hq1 => exact fun _ _ _ h => h
              case hy1 =>
                refine Or.inl ⟨by rfl, fun V hV => ?_⟩
                clear hV
                go_simp
              try simp only [Go.Act.put, List.setIfInBounds_toArray, List.set_cons_zero, List.set_cons_succ]
              refine wpAnyH_take (i := 2) (oi := ?oi2) (v := .pointer (some ⟨T, i, none⟩)) ?hi2 (by kernel_rfl) (by kernel_rfl) (by kernel_rfl) ?hq2 ?hy2 hHeld ?rest2
              case hi2 => simp only [List.getElem?_toArray, List.getElem?_cons_succ, List.getElem?_cons_zero, Option.some.injEq]; rfl
              case hq2 => exact fun _ _ _ h => h
              case hy2 =>
                refine Or.inl ⟨by rfl, fun V hV => ?_⟩
                clear hV
                go_simp
              try simp only [Go.Act.put, List.setIfInBounds_toArray, List.set_cons_zero, List.set_cons_succ]
              refine wpAnyH_take (i := 3) (oi := ?oi3) (v := .int .i64 (-1)) ?hi3 (by kernel_rfl) (by kernel_rfl) (by kernel_rfl) ?hq3 ?hy3 hHeld ?rest3
              case hi3 => simp only [List.getElem?_toArray, List.getElem?_cons_succ, List.getElem?_cons_zero, Option.some.injEq]; rfl
              case hq3 => exact fun _ _ _ h => h
              case hy3 =>
                refine Or.inl ⟨by rfl, fun V hV => ?_⟩
                obtain ⟨-, hb3, hc2⟩ := hV
                go_simp
              try simp only [Go.Act.put, List.setIfInBounds_toArray, List.set_cons_zero, List.set_cons_succ]
              refine wpAnyH_take (i := 4) (oi := ?oi4) (v := .bool true) ?hi4 (by kernel_rfl) (by kernel_rfl) (by kernel_rfl) ?hq4 ?hy4 hHeld ?rest4
              case hi4 => simp only [List.getElem?_toArray, List.getElem?_cons_succ, List.getElem?_cons_zero, Option.some.injEq]; rfl
              case hq4 => exact fun _ _ _ h => h
              case hy4 =>
                refine Or.inl ⟨by rfl, fun V hV => ?_⟩
                clear hV
                go_simp
              try simp only [Go.Act.put, List.setIfInBounds_toArray, List.set_cons_zero, List.set_cons_succ]
              refine wpAnyH_take (i := 5) (oi := ?oi5) (v := .bool true) ?hi5 (by kernel_rfl) (by kernel_rfl) (by kernel_rfl) ?hq5 ?hy5 hHeld ?rest5
              case hi5 => simp only [List.getElem?_toArray, List.getElem?_cons_succ, List.getElem?_cons_zero, Option.some.injEq]; rfl
              case hq5 => exact fun _ _ _ h => h
              case hy5 =>
                refine Or.inl ⟨by rfl, fun V hV => ?_⟩
                clear hV
                go_simp
              try simp only [Go.Act.put, List.setIfInBounds_toArray, List.set_cons_zero, List.set_cons_succ]
              refine wpAnyH_take (i := 6) (oi := ?oi6) (v := undef) ?hi6 (by kernel_rfl) (by kernel_rfl) (by kernel_rfl) ?hq6 ?hy6 hHeld ?rest6
              case hi6 => simp only [List.getElem?_toArray, List.getElem?_cons_succ, List.getElem?_cons_zero, Option.some.injEq]; rfl
              case hq6 => exact fun _ _ _ h => h
              case hy6 => exact Or.inr ⟨by kernel_rfl, rfl⟩
              try simp only [Go.Act.put, List.setIfInBounds_toArray, List.set_cons_zero, List.set_cons_succ]
              refine wpAnyH_take (i := 7) (oi := ?oi7) (v := undef) ?hi7 (by kernel_rfl) (by kernel_rfl) (by kernel_rfl) ?hq7 ?hy7 hHeld ?rest7
              case hi7 => simp only [List.getElem?_toArray, List.getElem?_cons_succ, List.getElem?_cons_zero, Option.some.injEq]; rfl
              case hq7 => exact fun _ _ _ h => h
              case hy7 => exact Or.inr ⟨by kernel_rfl, rfl⟩
              try simp only [Go.Act.put, List.setIfInBounds_toArray, List.set_cons_zero, List.set_cons_succ]
              refine wpAnyH_take (i := 8) (oi := ?oi8) (v := undef) ?hi8 (by kernel_rfl) (by kernel_rfl) (by kernel_rfl) ?hq8 ?hy8 hHeld ?rest8
              case hi8 => simp only [List.getElem?_toArray, List.getElem?_cons_succ, List.getElem?_cons_zero, Option.some.injEq]; rfl
              case hq8 => exact fun _ _ _ h => h
              case hy8 => exact Or.inr ⟨by kernel_rfl, rfl⟩
              try simp only [Go.Act.put, List.setIfInBounds_toArray, List.set_cons_zero, List.set_cons_succ]
              refine wpAnyH_take (i := 9) (oi := ?oi9) (v := undef) ?hi9 (by kernel_rfl) (by kernel_rfl) (by kernel_rfl) ?hq9 ?hy9 hHeld ?rest9
              case hi9 => simp only [List.getElem?_toArray, List.getElem?_cons_succ, List.getElem?_cons_zero, Option.some.injEq]; rfl
              case hq9 => exact fun _ _ _ h => h
              case hy9 => exact Or.inr ⟨by kernel_rfl, rfl⟩
              try simp only [Go.Act.put, List.setIfInBounds_toArray, List.set_cons_zero, List.set_cons_succ]
              refine wpAnyH_take (i := 10) (oi := ?oi10) (v := undef) ?hi10 (by kernel_rfl) (by kernel_rfl) (by kernel_rfl) ?hq10 ?hy10 hHeld ?rest10
              case hi10 => simp only [List.getElem?_toArray, List.getElem?_cons_succ, List.getElem?_cons_zero, Option.some.injEq]; rfl
              case hq10 => exact fun _ _ _ h => h
              case hy10 => exact Or.inr ⟨by kernel_rfl, rfl⟩
              try simp only [Go.Act.put, List.setIfInBounds_toArray, List.set_cons_zero, List.set_cons_succ]
              refine wpAnyH_take (i := 11) (oi := ?oi11) (v := undef) ?hi11 (by kernel_rfl) (by kernel_rfl) (by kernel_rfl) ?hq11 ?hy11 hHeld ?rest11
              case hi11 => simp only [List.getElem?_toArray, List.getElem?_cons_succ, List.getElem?_cons_zero, Option.some.injEq]; rfl
              case hq11 => exact fun _ _ _ h => h
              case hy11 => exact Or.inr ⟨by kernel_rfl, rfl⟩
              try simp only [Go.Act.put, List.setIfInBounds_toArray, List.set_cons_zero, List.set_cons_succ]
              refine wpAnyH_take (i := 12) (oi := ?oi12) (v := undef) ?hi12 (by kernel_rfl) (by kernel_rfl) (by kernel_rfl) ?hq12 ?hy12 hHeld ?rest12
              case hi12 => simp only [List.getElem?_toArray, List.getElem?_cons_succ, List.getElem?_cons_zero, Option.some.injEq]; rfl
              case hq12 => exact fun _ _ _ h => h
              case hy12 => exact Or.inr ⟨by kernel_rfl, rfl⟩
              try simp only [Go.Act.put, List.setIfInBounds_toArray, List.set_cons_zero, List.set_cons_succ]
              refine wpAnyH_take (i := 13) (oi := ?oi13) (v := undef) ?hi13 (by kernel_rfl) (by kernel_rfl) (by kernel_rfl) ?hq13 ?hy13 hHeld ?rest13
              case hi13 => simp only [List.getElem?_toArray, List.getElem?_cons_succ, List.getElem?_cons_zero, Option.some.injEq]; rfl
              case hq13 => exact fun _ _ _ h => h
              case hy13 => exact Or.inr ⟨by kernel_rfl, rfl⟩
              try simp only [Go.Act.put, List.setIfInBounds_toArray, List.set_cons_zero, List.set_cons_succ]
              refine wpAnyH_take (i := 14) (oi := ?oi14) (v := undef) ?hi14 (by kernel_rfl) (by kernel_rfl) (by kernel_rfl) ?hq14 ?hy14 hHeld ?rest14
              case hi14 => simp only [List.getElem?_toArray, List.getElem?_cons_succ, List.getElem?_cons_zero, Option.some.injEq]; rfl
              case hq14 => exact fun _ _ _ h => h
              case hy14 => exact Or.inr ⟨by kernel_rfl, rfl⟩
              try simp only [Go.Act.put, List.setIfInBounds_toArray, List.set_cons_zero, List.set_cons_succ]
              refine wpAnyH_take (i := 15) (oi := ?oi15) (v := undef) ?hi15 (by kernel_rfl) (by kernel_rfl) (by kernel_rfl) ?hq15 ?hy15 hHeld ?rest15
              case hi15 => simp only [List.getElem?_toArray, List.getElem?_cons_succ, List.getElem?_cons_zero, Option.some.injEq]; rfl
              case hq15 => exact fun _ _ _ h => h
              case hy15 => exact Or.inr ⟨by kernel_rfl, rfl⟩
              try simp only [Go.Act.put, List.setIfInBounds_toArray, List.set_cons_zero, List.set_cons_succ]
              refine wpAnyH_take (i := 16) (oi := ?oi16) (v := undef) ?hi16 (by kernel_rfl) (by kernel_rfl) (by kernel_rfl) ?hq16 ?hy16 hHeld ?rest16
              case hi16 => simp only [List.getElem?_toArray, List.getElem?_cons_succ, List.getElem?_cons_zero, Option.some.injEq]; rfl
              case hq16 => exact fun _ _ _ h => h
              case hy16 => exact Or.inr ⟨by kernel_rfl, rfl⟩
              try simp only [Go.Act.put, List.setIfInBounds_toArray, List.set_cons_zero, List.set_cons_succ]
              refine wpAnyH_take (i := 17) (oi := ?oi17) (v := undef) ?hi17 (by kernel_rfl) (by kernel_rfl) (by kernel_rfl) ?hq17 ?hy17 hHeld ?rest17
              case hi17 => simp only [List.getElem?_toArray, List.getElem?_cons_succ, List.getElem?_cons_zero, Option.some.injEq]; rfl
              case hq17 => exact fun _ _ _ h => h
              case hy17 => exact Or.inr ⟨by kernel_rfl, rfl⟩
              try simp only [Go.Act.put, List.setIfInBounds_toArray, List.set_cons_zero, List.set_cons_succ]
              refine wpAnyH_take (i := 18) (oi := ?oi18) (v := .bool true) ?hi18 (by kernel_rfl) (by kernel_rfl) (by kernel_rfl) ?hq18 ?hy18 hHeld ?rest18
              case hi18 => simp only [List.getElem?_toArray, List.getElem?_cons_succ, List.getElem?_cons_zero, Option.some.injEq]; rfl
              case hq18 => exact fun _ _ _ h => h
              case hy18 =>
                refine Or.inl ⟨by rfl, fun V hV => ?_⟩
                clear hV
                go_simp
              try simp only [Go.Act.put, List.setIfInBounds_toArray, List.set_cons_zero, List.set_cons_succ]
              refine wpAnyH_take (i := 19) (oi := ?oi19) (v := .bool true) ?hi19 (by kernel_rfl) (by kernel_rfl) (by kernel_rfl) ?hq19 ?hy19 hHeld ?rest19
              case hi19 => simp only [List.getElem?_toArray, List.getElem?_cons_succ, List.getElem?_cons_zero, Option.some.injEq]; rfl
              case hq19 => exact fun _ _ _ h => h
              case hy19 =>
                refine Or.inl ⟨by rfl, fun V hV => ?_⟩
                clear hV
                go_simp
              try simp only [Go.Act.put, List.setIfInBounds_toArray, List.set_cons_zero, List.set_cons_succ]
              refine wpAnyH_take (i := 20) (oi := ?oi20) (v := .pointer (some ⟨w.heap.size, 3, none⟩)) ?hi20 (by kernel_rfl) (by kernel_rfl) (by kernel_rfl) ?hq20 ?hy20 hHeld ?rest20
              case hi20 => simp only [List.getElem?_toArray, List.getElem?_cons_succ, List.getElem?_cons_zero, Option.some.injEq]; rfl
              case hq20 => exact fun _ _ _ h => h
              case hy20 =>
                refine Or.inl ⟨by rfl, fun V hV => ?_⟩
                clear hV
                go_simp
              try simp only [Go.Act.put, List.setIfInBounds_toArray, List.set_cons_zero, List.set_cons_succ]
              refine wpAnyH_take (i := 21) (oi := ?oi21) (v := .slice (some ⟨b, off, none⟩) ss.length sc) ?hi21 (by kernel_rfl) (by kernel_rfl) (by kernel_rfl) ?hq21 ?hy21 hHeld ?rest21
              case hi21 => simp only [List.getElem?_toArray, List.getElem?_cons_succ, List.getElem?_cons_zero, Option.some.injEq]; rfl
              case hq21 => exact fun _ _ _ h => h
              case hy21 =>
                refine Or.inl ⟨by rfl, fun V hV => ?_⟩
                obtain ⟨-, hb3, hc2⟩ := hV
                go_simp
              try simp only [Go.Act.put, List.setIfInBounds_toArray, List.set_cons_zero, List.set_cons_succ]
              refine wpAnyH_take (i := 22) (oi := ?oi22) (v := .int .i64 (i : Nat)) ?hi22 (by kernel_rfl) (by kernel_rfl) (by kernel_rfl) ?hq22 ?hy22 hHeld ?rest22
              case hi22 => simp only [List.getElem?_toArray, List.getElem?_cons_succ, List.getElem?_cons_zero, Option.some.injEq]; rfl
              case hq22 => exact fun _ _ _ h => h
              case hy22 =>
                refine Or.inl ⟨by rfl, fun V hV => ?_⟩
                clear hV
                go_simp
              try simp only [Go.Act.put, List.setIfInBounds_toArray, List.set_cons_zero, List.set_cons_succ]
              refine wpAnyH_take (i := 23) (oi := ?oi23) (v := .int .i64 (j : Nat)) ?hi23 (by kernel_rfl) (by kernel_rfl) (by kernel_rfl) ?hq23 ?hy23 hHeld ?rest23
              case hi23 => simp only [List.getElem?_toArray, List.getElem?_cons_succ, List.getElem?_cons_zero, Option.some.injEq]; rfl
              case hq23 => exact fun _ _ _ h => h
              case hy23 =>
                refine Or.inl ⟨by rfl, fun V hV => ?_⟩
                clear hV
                go_simp
              try simp only [Go.Act.put, List.setIfInBounds_toArray, List.set_cons_zero, List.set_cons_succ]
              refine wpAnyH_take (i := 24) (oi := ?oi24) (v := .int .i64 most) ?hi24 (by kernel_rfl) (by kernel_rfl) (by kernel_rfl) ?hq24 ?hy24 hHeld ?rest24
              case hi24 => simp only [List.getElem?_toArray, List.getElem?_cons_succ, List.getElem?_cons_zero, Option.some.injEq]; rfl
              case hq24 => exact fun _ _ _ h => h
              case hy24 =>
                refine Or.inl ⟨by rfl, fun V hV => ?_⟩
                clear hV
                go_simp
              try simp only [Go.Act.put, List.setIfInBounds_toArray, List.set_cons_zero, List.set_cons_succ]
              refine wpAnyH_ready (rs := [25]) (by kernel_rfl) (by simp) ?_
              refine AllReadyH.cons rfl (fun K hK => ?_) AllReadyH.nil
              go_simp
              refine (stands_is b off sc ss HS i j hij hjn most m0 m1 _ (HSW.out _ hHeld) (bb := true) (Iff.intro (fun _ => HNP.out) (fun _ => rfl))).mono ?_
              rintro e w9 ⟨rfl, hg9⟩
              refine hK.out _ _ (HSTEP.out _ _ hHeld hg9) (fun hHeld1 => ?_)
              clear hK K
              try simp only [Go.Act.put, List.setIfInBounds_toArray, List.set_cons_zero, List.set_cons_succ]
              refine wpAnyH_take (i := 26) (oi := ?oi26) (v := .bool true) ?hi26 (by kernel_rfl) (by kernel_rfl) (by kernel_rfl) ?hq26 ?hy26 hHeld1 ?rest26
              case hi26 => simp only [List.getElem?_toArray, List.getElem?_cons_succ, List.getElem?_cons_zero, Option.some.injEq]; rfl
              case hq26 => exact fun _ _ _ h => h
              case hy26 =>
                refine Or.inl ⟨by rfl, fun V hV => ?_⟩
                clear hV
                go_simp
              try simp only [Go.Act.put, List.setIfInBounds_toArray, List.set_cons_zero, List.set_cons_succ]
              refine wpAnyH_done (by kernel_rfl) ?_ _
              have HM7 := hMi.out.grown hHeld1.1
              clear hHeld hHeld1 hg9 HSTEP HSD
              have d2 := HM7.r2.cell (k := i) hin
              have e2 := HM7.r2.free i
              have HN : Hid (KrM w (some ⟨b, off, none⟩) ss.length sc R T ss.length (fwF ss.length nr d) (fwRm ss.length nr d (0 + 1)) (w9.setCell ⟨T, i, none⟩ (.int .i64 (j : Nat)))) := by
                show KrM _ _ _ _ _ _ _ _ _ _
                rw [fwRm_one (i1 := j) HI.out (by have := HJ.out; omega)]; exact HM7.set2 HR.out i j
              clear HM7 hMi
              go_wp2_with fail
              go_roundw
              case rel => exact ⟨0 + 1, by omega, by rw [← hj2]; go_num, HN.out⟩
              case measure => first | (simp [intOf]; done) | (simp [intOf]; omega)
            · obtain ⟨p, rfl⟩ : ∃ p, m = p + 1 := ⟨m - 1, by omega⟩
              obtain ⟨x, hx⟩ : ∃ x, fwB (fwV ss.length nr d).1 (nr i) i p = x := ⟨_, rfl⟩
              have hxb := fwB_in (fwV ss.length nr d).1 (nr i) i p
              rw [hx] at hxb
              have HX := Lib.hid hx
              have hxn : x < ss.length := by have := HIN.out; omega
              have hxn2 : (x : Int) < (ss.length : Int) := by omega
              have hx0 : (0 : Int) ≤ (x : Int) := by omega
              have c2 : wr.cell? ⟨T, i, none⟩ = some (.int .i64 (x : Nat)) := by
                have q := hMi.out.r2.cell (k := i) hin
                rw [fwRm_at HI.out, hx] at q
                exact q
              have c1 : wr.cell? ⟨R, j, none⟩ = some (.int .i64 ((fwV ss.length nr d).1 j : Nat)) := hMi.out.r1.cell (k := j) hjn
              have c3 : wr.cell? ⟨R, x, none⟩ = some (.int .i64 ((fwV ss.length nr d).1 x : Nat)) := hMi.out.r1.cell (k := x) hxn
              have hneg : decide ((x : Int) < 0) = false := by simp
              obtain ⟨u, hu⟩ : ∃ u, (fwV ss.length nr d).1 j = u := ⟨_, rfl⟩
              obtain ⟨v, hv⟩ : ∃ v, (fwV ss.length nr d).1 x = v := ⟨_, rfl⟩
              rw [hu] at c1
              rw [hv] at c3
              have HU := Lib.hid hu; have HV := Lib.hid hv
              clear hu hv hj hx hxb
              by_cases hle : u < v
              · obtain ⟨bb, hbb⟩ : ∃ bb, nr i j = bb := ⟨_, rfl⟩
                have HB : Hid (bb = true ↔ NearP ss i j (most * most)) := by
                  show _ ↔ _
                  rw [← hbb, ← HNR.out]; exact nrS_iff
                have HBB := Lib.hid hbb
                have HSW : Hid (∀ W : World, (wr.grownBy W none ∧ World.cell? W ⟨w.heap.size, 3, none⟩ = some (.slice (some ⟨b, off, none⟩) ss.length sc) ∧ World.cell? W ⟨T, i, none⟩ = some (.int .i64 (x : Nat)) ∧ World.cell? W ⟨R, j, none⟩ = some (.int .i64 (u : Nat)) ∧ World.cell? W ⟨R, x, none⟩ = some (.int .i64 (v : Nat))) → SmpsAt W (some ⟨b, off, none⟩) ss) := fun W h => (HAS.out.grown (grown_below hMi.out.g)).grown h.1
                have g1 : decide (((u : Nat) : Int) < ((v : Nat) : Int)) = true := by simp; omega
                have g2 : ((u : Nat) : Int) < ((v : Nat) : Int) := by omega
                have hS0 : (wr.grownBy wr none ∧ World.cell? wr ⟨w.heap.size, 3, none⟩ = some (.slice (some ⟨b, off, none⟩) ss.length sc) ∧ World.cell? wr ⟨T, i, none⟩ = some (.int .i64 (x : Nat)) ∧ World.cell? wr ⟨R, j, none⟩ = some (.int .i64 (u : Nat)) ∧ World.cell? wr ⟨R, x, none⟩ = some (.int .i64 (v : Nat))) := ⟨grown_refl _ _, b3, c2, c1, c3⟩
                have hstep : ∀ W W' : World, (wr.grownBy W none ∧ World.cell? W ⟨w.heap.size, 3, none⟩ = some (.slice (some ⟨b, off, none⟩) ss.length sc) ∧ World.cell? W ⟨T, i, none⟩ = some (.int .i64 (x : Nat)) ∧ World.cell? W ⟨R, j, none⟩ = some (.int .i64 (u : Nat)) ∧ World.cell? W ⟨R, x, none⟩ = some (.int .i64 (v : Nat))) → W.grownBy W' none → (wr.grownBy W' none ∧ World.cell? W' ⟨w.heap.size, 3, none⟩ = some (.slice (some ⟨b, off, none⟩) ss.length sc) ∧ World.cell? W' ⟨T, i, none⟩ = some (.int .i64 (x : Nat)) ∧ World.cell? W' ⟨R, j, none⟩ = some (.int .i64 (u : Nat)) ∧ World.cell? W' ⟨R, x, none⟩ = some (.int .i64 (v : Nat))) := fun W W' h g => ⟨grown_trans h.1 g, grown_cell g h.2.1, grown_cell g h.2.2.1, grown_cell g h.2.2.2.1, grown_cell g h.2.2.2.2⟩
                have HSTEP := Lib.hid hstep; have HSD : Hid (wr.grownBy wr.drew none ∧ World.cell? wr.drew ⟨w.heap.size, 3, none⟩ = some (.slice (some ⟨b, off, none⟩) ss.length sc) ∧ World.cell? wr.drew ⟨T, i, none⟩ = some (.int .i64 (x : Nat)) ∧ World.cell? wr.drew ⟨R, j, none⟩ = some (.int .i64 (u : Nat)) ∧ World.cell? wr.drew ⟨R, x, none⟩ = some (.int .i64 (v : Nat))) := hstep _ _ hS0 (grown_drewN wr none 1)
                clear hS0 hstep hbb
                go_wp2_with fail
                clear b3 c1 c2 c3
                go_region_held3 (fun W => (wr.grownBy W none ∧ World.cell? W ⟨w.heap.size, 3, none⟩ = some (.slice (some ⟨b, off, none⟩) ss.length sc) ∧ World.cell? W ⟨T, i, none⟩ = some (.int .i64 (x : Nat)) ∧ World.cell? W ⟨R, j, none⟩ = some (.int .i64 (u : Nat)) ∧ World.cell? W ⟨R, x, none⟩ = some (.int .i64 (v : Nat)))) (first | exact HSD.out | (refine HSTEP.out _ _ ?_ (by assumption) <;> assumption)) (first
                  | (go_at_call 104; refine (stands_is b off sc ss HS i j hij hjn most m0 m1 _ (HSW.out _ (by first | assumption | exact HSD.out)) HB).mono ?_; rintro x7 w7 ⟨rfl, hg7⟩))
                all_goals
                  rename_i hfin
                  obtain ⟨w9, hw9⟩ : ∃ w9, w9 = w7 := ⟨_, rfl⟩
                  subst hw9
                  have HM7 := hMi.out.grown hfin.1
                  clear hfin HSTEP HSD
                  have hjp : j = i + 2 + p := by have := HJ.out; omega
                  cases bb with
                  | false =>
                    have HN : Hid (KrM w (some ⟨b, off, none⟩) ss.length sc R T ss.length (fwF ss.length nr d) (fwRm ss.length nr d (p + 1 + 1)) w9) := by
                      have e := fwR_stay (n := ss.length) (nr := nr) (d := d) (m := p) HI.out (fun h => by have := HBB.out; rw [hjp] at this; rw [h.2] at this; cases this)
                      show KrM _ _ _ _ _ _ _ _ _ _
                      rw [e]; exact HM7
                    clear HM7 hMi hjp
                    go_wp2_with fail
                    go_roundw
                    case rel => exact ⟨p + 1 + 1, by omega, by rw [← hj2]; go_num, HN.out⟩
                    case measure => first | (simp [intOf]; done) | (simp [intOf]; omega)
                  | true =>
                    have d2 := HM7.r2.cell (k := i) hin
                    have e2 := HM7.r2.free i
                    have HN : Hid (KrM w (some ⟨b, off, none⟩) ss.length sc R T ss.length (fwF ss.length nr d) (fwRm ss.length nr d (p + 1 + 1)) (w9.setCell ⟨T, i, none⟩ (.int .i64 (j : Nat)))) := by
                      have e := fwR_go (n := ss.length) (nr := nr) (d := d) (m := p) HI.out hjp (by rw [HX.out, HU.out, HV.out]; exact hle) HBB.out
                      show KrM _ _ _ _ _ _ _ _ _ _
                      rw [e]; exact HM7.set2 HR.out i j
                    clear HM7 hMi hjp
                    go_wp2_with fail
                    go_roundw
                    case rel => exact ⟨p + 1 + 1, by omega, by rw [← hj2]; go_num, HN.out⟩
                    case measure => first | (simp [intOf]; done) | (simp [intOf]; omega)
              · have g1 : decide (((u : Nat) : Int) < ((v : Nat) : Int)) = false := by simp; omega
                have g2 : ¬ (((u : Nat) : Int) < ((v : Nat) : Int)) := by omega
                go_wp2_with fail
                go_quiet (fail)
                have HN : Hid (KrM w (some ⟨b, off, none⟩) ss.length sc R T ss.length (fwF ss.length nr d) (fwRm ss.length nr d (p + 1 + 1)) (wr.drewN nq)) := by
                  have e := fwR_stay (n := ss.length) (nr := nr) (d := d) (m := p) HI.out (fun h => by have := h.1; rw [show i + 2 + p = j by have := HJ.out; omega, HX.out, HU.out, HV.out] at this; omega)
                  show KrM _ _ _ _ _ _ _ _ _ _
                  rw [e]; exact hMi.out.grown (grown_drewN _ _ _)
                clear hMi b3 c1 c2 c3
                go_wp2_with fail
                go_roundw
                case rel => exact ⟨p + 1 + 1, by omega, by rw [← hj2]; go_num, HN.out⟩
                case measure => first | (simp [intOf]; done) | (simp [intOf]; omega)
          · obtain rfl : m = d + 1 := by omega
            obtain ⟨x, hx⟩ : ∃ x, fwB (fwV ss.length nr d).1 (nr i) i d = x := ⟨_, rfl⟩
            have hxb := fwB_in (fwV ss.length nr d).1 (nr i) i d
            rw [hx] at hxb
            have HX := Lib.hid hx
            have hxn : x < ss.length := by have := HIN.out; omega
            have hxn2 : (x : Int) < (ss.length : Int) := by omega
            have hx0 : (0 : Int) ≤ (x : Int) := by omega
            have c2 : wr.cell? ⟨T, i, none⟩ = some (.int .i64 (x : Nat)) := by
              have q := hMi.out.r2.cell (k := i) hin
              rw [fwRm_at HI.out, hx] at q
              exact q
            have c3 : wr.cell? ⟨R, x, none⟩ = some (.int .i64 ((fwV ss.length nr d).1 x : Nat)) := hMi.out.r1.cell (k := x) hxn
            have hvb := fw_le ss.length nr d x
            obtain ⟨v, hv⟩ : ∃ v, (fwV ss.length nr d).1 x = v := ⟨_, rfl⟩
            rw [hv] at c3 hvb
            have c1 := hMi.out.r1.cell (k := i) hin
            have fr1 := hMi.out.r1.free i
            have rv : IntKind.i64.wrap ((v : Int) + 1) = (v : Int) + 1 := IntWalk.i64_in _ (by omega)
            have HN : Hid (KrM w (some ⟨b, off, none⟩) ss.length sc R T ss.length (fwF ss.length nr (d + 1)) (fwR ss.length nr (d + 1)) (wr.setCell ⟨R, i, none⟩ (.int .i64 ((v : Int) + 1)))) := by
              have q := hMi.out.set1 HR.out i ((v : Int) + 1)
              have e1 : fwF ss.length nr (d + 1) = updI (fwF ss.length nr d) i ((v : Int) + 1) := by
                rw [← fwFm_end]; unfold fwFm; rw [← HI.out, hx, hv]
              show KrM _ _ _ _ _ _ _ _ _ _
              rw [e1, ← fwRm_end]; exact q
            have hend : (i : Int) + 1 + ((d + 1 : Nat) : Int) = (ss.length : Int) := by have := HIN.out; omega
            rw [hend]
            clear hMi hx hv hxb hvb
            go_wp2_with fail
            go_roundw
            case rel => exact ⟨d + 1, by omega, by rw [← hi2]; go_num, HN.out⟩
            case measure => first | (simp [intOf]; done) | (simp [intOf]; omega)
      · obtain rfl : d = la := by omega
        have hneg : (d : Int) - 1 - (d : Int) = -1 := by omega
        rw [hneg]
        have HE : Hid (∀ k, k < d → fwR ss.length nr d k = ((fwN ss.length nr k : Nat) : Int)) := fun k hk => fwR_next HLA.out hk
        have HG : Hid (∀ k, k < ss.length → k < fwN ss.length nr k ∧ fwN ss.length nr k ≤ ss.length) := fun k hk => fwN_in ss.length nr k hk
        have HGL : Hid (∀ k, k < d → fwN ss.length nr k < ss.length) := fun k hk => by
          have h := HLA.out
          unfold fwN; rw [if_pos (by omega)]
          exact (fw_next ss.length nr (ss.length - 1) (by omega) k (by omega) (by omega)).2
        have HLAST : Hid (fwN ss.length nr d = ss.length) := fwN_last HLA.out
        obtain ⟨gg, hgg⟩ : ∃ gg, fwN ss.length nr = gg := ⟨_, rfl⟩
        rw [hgg] at HG HE HGL HLAST
        have HGQ := Lib.hid hgg
        have HROW := Lib.hid hM.out.r2
        have HBW := Lib.hid hM.out.g
        have HRB : Hid (T < wr.heap.size) := lt_of_block hM.out.r2
        clear hgg hM
        obtain ⟨i0, hi, hz0, hz1, hz2⟩ := info_parts info_int
        have HI := Lib.hid hi; have HZ0 := Lib.hid hz0; have HZ1 := Lib.hid hz1; have HZ2 := Lib.hid hz2
        clear hi hz0 hz1 hz2
        obtain ⟨we, hwe⟩ : ∃ we, we = wr := ⟨_, rfl⟩
        rw [← hwe] at HROW HBW HRB ⊢
        clear hwe
        go_wp2_with fail
        go_loopw [12, 13] (fun lv iv wl => ∃ (k x : Nat) (v : Value), v = lv ∧ Hid (pth gg 0 k = x) ∧ iv = .int .i64 (x : Nat) ∧ k ≤ x ∧ x ≤ d ∧ Hid (∀ j, j < k → pth gg 0 j < ss.length) ∧ Hid (wl.ownsRow we.heap.size 3 1 v k (pthVs gg 0 k)) ∧ Hid (we.grownBy wl none))
          (fun _ iv _ => ss.length - (intOf iv).toNat)
        case atStart => exact ⟨0, 0, _, rfl, rfl, rfl, Nat.zero_le _, Nat.zero_le _, fun j hj => absurd hj (Nat.not_lt_zero _), World.ownsRow_nil _ _ _ _, grown_refl _ _⟩
        case round =>
          obtain ⟨k, x, v, rfl, hx, rfl, hk, hxd, hall, hown, hg⟩ := hrel
          have hlt : x < ss.length := by have := HLA.out; omega
          have hgx := HG.out x hlt
          have hall2 : Hid (∀ j, j < k + 1 → pth gg 0 j < ss.length) := fun j hj => by
            rcases Nat.lt_or_ge j k with q | q
            · exact hall.out j q
            · obtain rfl : j = k := by omega
              rw [hx.out]; exact hlt
          have hx2 : Hid (pth gg 0 (k + 1) = gg x) := by show gg (pth gg 0 k) = gg x; rw [hx.out]
          have hvs : Hid (pthVs gg 0 (k + 1) = pthVs gg 0 k ++ [.int .i64 (x : Int)]) := by show _ = _; rw [pthVs_succ, hx.out]
          have cG := RowAt.cell (k := x) (HROW.out.grown hg.out) hlt
          have hlt2 := hown.out.lt
          have HCN : Hid (∀ j u, [Value.int .i64 (x : Int)][j]? = some u → (wr.alloc (.cells #[.int .i64 (x : Int)] 3)).cell? ((⟨wr.heap.size, 0, none⟩ : Addr).add j) = some u) := cell_one_new wr (.int .i64 (x : Int)) 3
          have hi := HI.out; have hz0 := HZ0.out; have hz1 := HZ1.out; have hz2 := HZ2.out
          have HSZ : Hid (we.heap.size ≤ wr.heap.size) := hg.out.size
          have HLR : Hid (T < wr.heap.size ∧ T < we.heap.size) := ⟨lt_of_block (HROW.out.grown hg.out), HRB.out⟩
          have x0 : (0 : Int) ≤ (x : Int) := by omega
          have xn : (x : Int) < (ss.length : Int) := by omega
          by_cases hxl : x < d
          · rw [HE.out x hxl] at cG
            have hgl := HGL.out x hxl
            obtain ⟨y, hy⟩ : ∃ y, gg x = y := ⟨_, rfl⟩
            rw [hy] at cG hgx hx2 hgl
            have hyd : y ≤ d := by have := HLA.out; omega
            have HCG : Hid (wr.cell? ⟨T, x, none⟩ = some (.int .i64 (y : Nat))) := cG
            have hne : ((x : Int) == (d : Int)) = false := by rw [beq_eq_false_iff_ne]; omega
            clear cG hall hx hy hgl
            go_wp2_with (at_builtin; refine wpList_append_own _ rfl _ _ 48 rfl we.heap.size 3 i0 (.int .i64 0) 1 8 Try.underlying48 hi hz0 hz1 hz2 rfl (by decide) _ _ _ rfl (hown.out.alloc _) ⟨wr.heap.size, 0, none⟩ 1 1 [.int .i64 (x : Int)] rfl rfl (HCN.out) (by intro u hu; simp at hu; subst hu; rfl) (by unfold maxLen; omega) (by omega) (by have := HSZ.out; simp at *; omega) ?_; intro v' w2 hown' hgrow' _; have cG2 : w2.cell? ⟨T, x, none⟩ = some (.int .i64 (y : Nat)) := (World.cell?_of_block (a := ⟨T, x, none⟩) (hgrow'.block T (by have := HLR.out; simp; omega) (fun e => by have := (hlt2 _ e.symm).1; have := HLR.out; omega))).trans (grown_cell (World.grownBy_alloc _ _ _) HCG.out))
            have HO2 : Hid (w2.ownsRow we.heap.size 3 1 v' (k + 1) (pthVs gg 0 (k + 1))) := by
              show World.ownsRow _ _ _ _ _ _ _; rw [hvs.out]; exact hown'
            have G2 : Hid (we.grownBy w2 none) := grown_own hg.out hgrow' (fun q e => (hlt2 q e).1)
            clear hown hown' hgrow' hlt2 hg
            go_wp2_with fail
            go_roundw
            case rel => exact ⟨k + 1, y, _, rfl, hx2.out, rfl, by omega, by omega, hall2.out, HO2.out, G2.out⟩
            case measure => simp [intOf]; omega
          · obtain rfl : x = d := by omega
            have HEND : Hid (PthEnd ss.length gg 0 (k + 1)) := ⟨hall2.out, by rw [hx2.out, HLAST.out]⟩
            have HCG : Hid (wr.cell? ⟨T, x, none⟩ = some (.int .i64 (fwR ss.length nr x x))) := cG
            obtain ⟨y, hy⟩ : ∃ y, fwR ss.length nr x x = y := ⟨_, rfl⟩
            rw [hy] at HCG
            have hne : ((x : Int) == (x : Int)) = true := by simp
            clear cG hall hx hy
            go_wp2_with (at_builtin; refine wpList_append_own _ rfl _ _ 48 rfl we.heap.size 3 i0 (.int .i64 0) 1 8 Try.underlying48 hi hz0 hz1 hz2 rfl (by decide) _ _ _ rfl (hown.out.alloc _) ⟨wr.heap.size, 0, none⟩ 1 1 [.int .i64 (x : Int)] rfl rfl (HCN.out) (by intro u hu; simp at hu; subst hu; rfl) (by unfold maxLen; omega) (by omega) (by have := HSZ.out; simp at *; omega) ?_; intro v' w2 hown' hgrow' _; have cG2 : w2.cell? ⟨T, x, none⟩ = some (.int .i64 y) := (World.cell?_of_block (a := ⟨T, x, none⟩) (hgrow'.block T (by have := HLR.out; simp; omega) (fun e => by have := (hlt2 _ e.symm).1; have := HLR.out; omega))).trans (grown_cell (World.grownBy_alloc _ _ _) HCG.out))
            have HO2 : Hid (w2.ownsRow we.heap.size 3 1 v' (k + 1) (pthVs gg 0 (k + 1))) := by
              show World.ownsRow _ _ _ _ _ _ _; rw [hvs.out]; exact hown'
            have G2 : Hid (we.grownBy w2 none) := grown_own hg.out hgrow' (fun q e => (hlt2 q e).1)
            clear hown hown' hgrow' hlt2 hg
            go_wp2_with fail
            go_ret2
            exact ⟨⟨_, k + 1, rfl, by rw [HGQ.out]; exact HEND.out, by rw [HGQ.out]; exact own_low2 HO2.out HBW.out.size⟩, grown_trans (grown_below HBW.out) G2.out⟩
end Go.Proofs.Ytgkhhfojioepgaa
